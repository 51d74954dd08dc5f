/- The document's primes, rests, sums and differences modulo one. Condition: the sizes of the arguments. -/
import Derived.Test.YtfaoajljaggklaaLs
import Derived.Test.YtfaoajljaggklaaFa
import Derived.Test.YtfaoajljaggklaaPf
namespace Go.Proofs.Ytfaoajljaggklaa
open Go.RowKit
set_option linter.unusedVariables false
set_option linter.unusedSimpArgs false
theorem over_iff (x m : Nat) (ob : Bool) : ob.toNat < lt01 x m ↔ (ob = false ∧ x < m) := by
  unfold lt01
  cases ob <;> by_cases h : x < m <;> simp [h]
set_option maxRecDepth 100000 in
set_option maxHeartbeats 800000 in
theorem Rest_any (x m : Nat) (ob : Bool) (w : World) (hm : m < 2 ^ 256) (hx : x < 2 ^ 256) (h2 : x + 2 ^ 256 * ob.toNat < 2 * m) :
    Calls Try.prog 24 #[.agg (natsV .u64 (wds 4 x)).toArray, .bool ob, .agg (natsV .u64 (wds 4 m)).toArray] w fun e w' => e = .returned (.agg (natsV .u64 (wds 4 ((x + 2 ^ 256 * ob.toNat) % m))).toArray) ∧ Below w.heap.size w w' := by
  have HL := Lib.hid (fun w => Less_any x m w hx hm)
  have HMI := Lib.hid (fun w => dminus_any x m w hx hm)
  have HY := Lib.hid (fun h => show wds 4 ((x + 2 ^ 256 * ob.toNat) % m) = wds 4 x from by rw [below_yes x m ob.toNat ((over_iff x m ob).2 h)])
  have HN := Lib.hid (fun (h : ¬ (ob = false ∧ x < m)) => below_no x m ob.toNat hm hx h2 (by cases ob <;> decide) (fun h3 => h ((over_iff x m ob).1 h3)))
  have LX := Lib.hid (wds_len 4 x)
  have LM := Lib.hid (wds_len 4 m)
  have LS := Lib.hid (wds_len 4 (x + 2 ^ 256 - m))
  generalize wds 4 (x + 2 ^ 256 - m) = ls at *
  generalize wds 4 ((x + 2 ^ 256 * ob.toNat) % m) = lr at *
  generalize wds 4 x = lx at *
  generalize wds 4 m = lm at *
  clear h2 hm hx
  have B1 := Lib.hid (((Blk.new w 24 (natsV .u64 lx)).alloc (.cells (natsV .u64 lm).toArray 24)).alloc (.cells (natsV .u64 (zeros 4)).toArray 24))
  have B2 := Lib.hid ((Blk.new2 w (.cells (natsV .u64 lx).toArray 24) 24 (natsV .u64 lm)).alloc (.cells (natsV .u64 (zeros 4)).toArray 24))
  have B3 := Lib.hid (Blk.new3 w (.cells (natsV .u64 lx).toArray 24) (.cells (natsV .u64 lm).toArray 24) 24 (natsV .u64 (zeros 4)))
  have BEL := Lib.hid ((((Below.refl w.heap.size w).alloc (Nat.le_refl _) (.cells (natsV .u64 lx).toArray 24)).alloc (by simp) (.cells (natsV .u64 lm).toArray 24)).alloc (by simp; omega) (.cells (natsV .u64 (zeros 4)).toArray 24))
  go_enter Try.func24, Try.ntmps24
  go_wp2_with (first | (refine ld24 rfl (.tmp 3) rfl w.heap.size rfl lx B1.out LX.out ?_) | (refine ld24 rfl (.tmp 5) rfl (w.heap.size + 1) rfl lm B2.out LM.out ?_))
  refine (HL.out _).mono ?_
  rintro e w1 ⟨rfl, hbw1⟩
  have C2 := Lib.hid (B1.out.below' hbw1)
  have C3 := Lib.hid (B2.out.below' hbw1)
  have C4 := Lib.hid (B3.out.below' hbw1)
  have hbel5 := BEL.out.trans (hbw1.mono BEL.out.size)
  clear B1 B2 B3 hbw1
  by_cases hc : ob = false ∧ x < m
  · have HE := HY.out hc
    subst HE
    obtain ⟨rfl, hc2⟩ := hc
    rw [decide_eq_true hc2]
    go_wp2_with (first | (refine ld24 rfl (.tmp 3) rfl w.heap.size rfl lr C2.out LX.out ?_) | (refine st24 rfl (.tmp 6) (.tmp 16) rfl (w.heap.size + 1 + 1) rfl lr rfl LX.out (zeros 4) C4.out rfl ?_))
    refine bodyPost_ret (v := .agg (natsV .u64 lr).toArray) ?_ rfl ⟨rfl, below_setRow' hbel5 (by first | exact Nat.le_refl _ | (simp; done) | (simp; omega) | omega) _⟩
    exact ret24 Try.results24 _ _ (w.heap.size + 1 + 1) lr rfl (C4.out.setRow _) LX.out
  · have HE := HN.out hc
    subst HE
    have hbo : (!ob && decide (x < m)) = false := by
      cases ob
      · simp only [Bool.not_false, Bool.true_and, decide_eq_false_iff_not]; exact fun h => hc ⟨rfl, h⟩
      · rfl
    clear hc HY HN
    generalize decide (x < m) = bl_ at *
    rcases ob with _ | _
    · have hbl : bl_ = false := by simpa using hbo
      subst hbl
      go_wp2_with (first | (refine ld24 rfl (.tmp 3) rfl w.heap.size rfl lx C2.out LX.out ?_) | (refine ld24 rfl (.tmp 5) rfl (w.heap.size + 1) rfl lm C3.out LM.out ?_))
      refine (HMI.out _).mono ?_
      rintro e w6 ⟨rfl, hbw6⟩
      have C7 := Lib.hid (C2.out.below' hbw6)
      have C8 := Lib.hid (C3.out.below' hbw6)
      have C9 := Lib.hid (C4.out.below' hbw6)
      have hbel10 := hbel5.trans (hbw6.mono hbel5.size)
      clear C2 C3 C4 hbw6 hbel5
      go_wp2_with (first | (refine st24 rfl (.tmp 6) (.tmp 19) rfl (w.heap.size + 1 + 1) rfl lr rfl LS.out (zeros 4) C9.out rfl ?_))
      refine bodyPost_ret (v := .agg (natsV .u64 lr).toArray) ?_ rfl ⟨rfl, below_setRow' hbel10 (by first | exact Nat.le_refl _ | (simp; done) | (simp; omega) | omega) _⟩
      exact ret24 Try.results24 _ _ (w.heap.size + 1 + 1) lr rfl (C9.out.setRow _) LS.out
    · go_wp2_with (first | (refine ld24 rfl (.tmp 3) rfl w.heap.size rfl lx C2.out LX.out ?_) | (refine ld24 rfl (.tmp 5) rfl (w.heap.size + 1) rfl lm C3.out LM.out ?_))
      refine (HMI.out _).mono ?_
      rintro e w6 ⟨rfl, hbw6⟩
      have C7 := Lib.hid (C2.out.below' hbw6)
      have C8 := Lib.hid (C3.out.below' hbw6)
      have C9 := Lib.hid (C4.out.below' hbw6)
      have hbel10 := hbel5.trans (hbw6.mono hbel5.size)
      clear C2 C3 C4 hbw6 hbel5
      go_wp2_with (first | (refine st24 rfl (.tmp 6) (.tmp 19) rfl (w.heap.size + 1 + 1) rfl lr rfl LS.out (zeros 4) C9.out rfl ?_))
      refine bodyPost_ret (v := .agg (natsV .u64 lr).toArray) ?_ rfl ⟨rfl, below_setRow' hbel10 (by first | exact Nat.le_refl _ | (simp; done) | (simp; omega) | omega) _⟩
      exact ret24 Try.results24 _ _ (w.heap.size + 1 + 1) lr rfl (C9.out.setRow _) LS.out
set_option maxRecDepth 100000 in
set_option maxHeartbeats 800000 in
theorem DAdd_any (a b m : Nat) (w : World) (hm : m < 2 ^ 256) (ha : a < m) (hb : b < m) :
    Calls Try.prog 31 #[.agg (natsV .u64 (wds 4 a)).toArray, .agg (natsV .u64 (wds 4 b)).toArray, .agg (natsV .u64 (wds 4 m)).toArray] w fun e w' => e = .returned (.agg (natsV .u64 (wds 4 ((a + b) % m))).toArray) ∧ Below w.heap.size w w' := by
  have HS := Lib.hid (fun w => dsum_any a b w (by omega) (by omega))
  have hle : addC a b ≤ 1 := by unfold addC; omega
  have hdm : (a + b) % 2 ^ 256 + 2 ^ 256 * (decide (addC a b = 1)).toNat = a + b := by
    have h1 : (a + b) % 2 ^ 256 + 2 ^ 256 * addC a b = a + b := Nat.mod_add_div _ _
    have h3 : (decide (addC a b = 1)).toNat = addC a b := by
      rcases Nat.lt_or_ge (addC a b) 1 with h0 | h0
      · rw [show addC a b = 0 by omega]; rfl
      · rw [show addC a b = 1 by omega]; rfl
    rw [h3]; exact h1
  have HR := Lib.hid (fun w => Rest_any ((a + b) % 2 ^ 256) m (decide (addC a b = 1)) w hm (Nat.mod_lt _ (Nat.two_pow_pos 256)) (by rw [hdm]; omega))
  rw [hdm, show wds 4 ((a + b) % 2 ^ 256) = wds 4 (a + b) from wds_mod 4 4 _ (Nat.le_refl _)] at HR
  have LS := Lib.hid (wds_len 4 (a + b))
  have LR := Lib.hid (wds_len 4 ((a + b) % m))
  have LA := Lib.hid (wds_len 4 a)
  have LB := Lib.hid (wds_len 4 b)
  have LM := Lib.hid (wds_len 4 m)
  generalize wds 4 (a + b) = ls at *
  generalize wds 4 ((a + b) % m) = lr at *
  generalize wds 4 a = la at *
  generalize wds 4 b = lb at *
  generalize wds 4 m = lm at *
  generalize decide (addC a b = 1) = ob at *
  clear hm ha hb hle hdm
  have B1 := Lib.hid ((((Blk.new w 24 (natsV .u64 la)).alloc (.cells (natsV .u64 lb).toArray 24)).alloc (.cells (natsV .u64 lm).toArray 24)).alloc (.cells (natsV .u64 (zeros 4)).toArray 24))
  have B2 := Lib.hid (((Blk.new2 w (.cells (natsV .u64 la).toArray 24) 24 (natsV .u64 lb)).alloc (.cells (natsV .u64 lm).toArray 24)).alloc (.cells (natsV .u64 (zeros 4)).toArray 24))
  have B3 := Lib.hid ((Blk.new3 w (.cells (natsV .u64 la).toArray 24) (.cells (natsV .u64 lb).toArray 24) 24 (natsV .u64 lm)).alloc (.cells (natsV .u64 (zeros 4)).toArray 24))
  have B4 := Lib.hid (Blk.new4 w (.cells (natsV .u64 la).toArray 24) (.cells (natsV .u64 lb).toArray 24) (.cells (natsV .u64 lm).toArray 24) 24 (natsV .u64 (zeros 4)))
  have BEL := Lib.hid (((((Below.refl w.heap.size w).alloc (Nat.le_refl _) (.cells (natsV .u64 la).toArray 24)).alloc (by simp) (.cells (natsV .u64 lb).toArray 24)).alloc (by simp; omega) (.cells (natsV .u64 lm).toArray 24)).alloc (by simp; omega) (.cells (natsV .u64 (zeros 4)).toArray 24))
  go_enter Try.func31, Try.ntmps31
  go_wp2_with (first | (refine ld24 rfl (.tmp 3) rfl w.heap.size rfl la B1.out LA.out ?_) | (refine ld24 rfl (.tmp 4) rfl (w.heap.size + 1) rfl lb B2.out LB.out ?_))
  refine (HS.out _).mono ?_
  rintro e w1 ⟨rfl, hbw1⟩
  have C2 := Lib.hid (B1.out.below' hbw1)
  have C3 := Lib.hid (B2.out.below' hbw1)
  have C4 := Lib.hid (B3.out.below' hbw1)
  have C5 := Lib.hid (B4.out.below' hbw1)
  have hbel6 := BEL.out.trans (hbw1.mono BEL.out.size)
  clear B1 B2 B3 B4 hbw1
  clear C2 C3
  have Z8 := Lib.hid (Blk.new w1 24 (natsV .u64 (zeros 4)))
  have hz9 := Lib.hid (below_setRow' (hbel6.alloc hbel6.size (.cells (natsV .u64 (zeros 4)).toArray 24)) hbel6.size (natsV .u64 ls).toArray)
  have Y10 := Lib.hid ((C4.out.alloc (.cells (natsV .u64 (zeros 4)).toArray 24)).row (natsV .u64 ls).toArray (Nat.ne_of_lt C4.out.lt))
  have Y11 := Lib.hid ((C5.out.alloc (.cells (natsV .u64 (zeros 4)).toArray 24)).row (natsV .u64 ls).toArray (Nat.ne_of_lt C5.out.lt))
  have Y12 := Lib.hid (Z8.out.setRow (natsV .u64 ls))
  go_wp2_with (first | (refine st24 rfl (.tmp 7) (.tmp 13) rfl w1.heap.size rfl ls rfl LS.out (zeros 4) Z8.out rfl ?_; generalize hW : World.setRow _ _ _ = w7; have D14 := Lib.hid (show Blk w7 (w.heap.size + 1 + 1) 24 (natsV .u64 lm) from (by rw [← hW]; exact Y10.out)); have D15 := Lib.hid (show Blk w7 (w.heap.size + 1 + 1 + 1) 24 (natsV .u64 (zeros 4)) from (by rw [← hW]; exact Y11.out)); have D16 := Lib.hid (show Blk w7 w1.heap.size 24 (natsV .u64 ls) from (by rw [← hW]; exact Y12.out)); have LE_D16 := (hbel6).size; have NE_D15 := Nat.ne_of_lt C5.out.lt; have hbel17 : Below w.heap.size w w7 := (by rw [← hW]; exact hz9.out); clear hW Z8 hz9 C4 C5 Y10 Y11 Y12 hbel6; generalize w1.heap.size = G13 at *) | (refine ld24 rfl (.tmp 7) rfl G13 rfl ls D16.out LS.out ?_) | (refine ld24 rfl (.tmp 5) rfl (w.heap.size + 1 + 1) rfl lm D14.out LM.out ?_))
  refine (HR.out _).mono ?_
  rintro e w18 ⟨rfl, hbw18⟩
  have C19 := Lib.hid (D14.out.below' hbw18)
  have C20 := Lib.hid (D15.out.below' hbw18)
  have C21 := Lib.hid (D16.out.below' hbw18)
  have hbel22 := hbel17.trans (hbw18.mono hbel17.size)
  clear D14 D15 D16 hbw18 hbel17
  go_wp2_with (first | (refine st24 rfl (.tmp 6) (.tmp 18) rfl (w.heap.size + 1 + 1 + 1) rfl lr rfl LR.out (zeros 4) C20.out rfl ?_))
  refine bodyPost_ret (v := .agg (natsV .u64 lr).toArray) ?_ rfl ⟨rfl, below_setRow' hbel22 (by first | exact Nat.le_refl _ | (simp; done) | (simp; omega) | omega) _⟩
  exact ret24 Try.results31 _ _ (w.heap.size + 1 + 1 + 1) lr rfl (C20.out.setRow _) LR.out
set_option maxRecDepth 100000 in
set_option maxHeartbeats 800000 in
theorem DSub_any (a b m : Nat) (w : World) (hm : m < 2 ^ 256) (ha : a < m) (hb : b < m) :
    Calls Try.prog 32 #[.agg (natsV .u64 (wds 4 a)).toArray, .agg (natsV .u64 (wds 4 b)).toArray, .agg (natsV .u64 (wds 4 m)).toArray] w fun e w' => e = .returned (.agg (natsV .u64 (wds 4 ((a + m - b) % m))).toArray) ∧ Below w.heap.size w w' := by
  have HL := Lib.hid (fun w => Less_any a b w (by omega) (by omega))
  have HMI := Lib.hid (fun w => dminus_any a b w (by omega) (by omega))
  have HS := Lib.hid (fun (h : a < b) w => dsum_any (a + 2 ^ 256 - b) m w (by omega) hm)
  have HN := Lib.hid (minus_no a b m ha hb hm)
  have HY := Lib.hid (minus_yes a b m ha hb hm)
  have LS := Lib.hid (wds_len 4 (a + 2 ^ 256 - b))
  have LT := Lib.hid (wds_len 4 (a + 2 ^ 256 - b + m))
  have LA := Lib.hid (wds_len 4 a)
  have LB := Lib.hid (wds_len 4 b)
  have LM := Lib.hid (wds_len 4 m)
  generalize wds 4 (a + 2 ^ 256 - b + m) = lt at *
  generalize wds 4 ((a + m - b) % m) = lr at *
  generalize decide (addC (a + 2 ^ 256 - b) m = 1) = cy at *
  generalize wds 4 (a + 2 ^ 256 - b) = ls at *
  generalize wds 4 a = la at *
  generalize wds 4 b = lb at *
  generalize wds 4 m = lm at *
  clear hm ha hb
  have B1 := Lib.hid ((((Blk.new w 24 (natsV .u64 la)).alloc (.cells (natsV .u64 lb).toArray 24)).alloc (.cells (natsV .u64 lm).toArray 24)).alloc (.cells (natsV .u64 (zeros 4)).toArray 24))
  have B2 := Lib.hid (((Blk.new2 w (.cells (natsV .u64 la).toArray 24) 24 (natsV .u64 lb)).alloc (.cells (natsV .u64 lm).toArray 24)).alloc (.cells (natsV .u64 (zeros 4)).toArray 24))
  have B3 := Lib.hid ((Blk.new3 w (.cells (natsV .u64 la).toArray 24) (.cells (natsV .u64 lb).toArray 24) 24 (natsV .u64 lm)).alloc (.cells (natsV .u64 (zeros 4)).toArray 24))
  have B4 := Lib.hid (Blk.new4 w (.cells (natsV .u64 la).toArray 24) (.cells (natsV .u64 lb).toArray 24) (.cells (natsV .u64 lm).toArray 24) 24 (natsV .u64 (zeros 4)))
  have BEL := Lib.hid (((((Below.refl w.heap.size w).alloc (Nat.le_refl _) (.cells (natsV .u64 la).toArray 24)).alloc (by simp) (.cells (natsV .u64 lb).toArray 24)).alloc (by simp; omega) (.cells (natsV .u64 lm).toArray 24)).alloc (by simp; omega) (.cells (natsV .u64 (zeros 4)).toArray 24))
  go_enter Try.func32, Try.ntmps32
  go_wp2_with (first | (refine ld24 rfl (.tmp 3) rfl w.heap.size rfl la B1.out LA.out ?_) | (refine ld24 rfl (.tmp 4) rfl (w.heap.size + 1) rfl lb B2.out LB.out ?_))
  refine (HL.out _).mono ?_
  rintro e w1 ⟨rfl, hbw1⟩
  have C2 := Lib.hid (B1.out.below' hbw1)
  have C3 := Lib.hid (B2.out.below' hbw1)
  have C4 := Lib.hid (B3.out.below' hbw1)
  have C5 := Lib.hid (B4.out.below' hbw1)
  have hbel6 := BEL.out.trans (hbw1.mono BEL.out.size)
  clear B1 B2 B3 B4 hbw1
  go_wp2_with (first | (refine ld24 rfl (.tmp 3) rfl w.heap.size rfl la C2.out LA.out ?_) | (refine ld24 rfl (.tmp 4) rfl (w.heap.size + 1) rfl lb C3.out LB.out ?_))
  refine (HMI.out _).mono ?_
  rintro e w7 ⟨rfl, hbw7⟩
  have C8 := Lib.hid (C2.out.below' hbw7)
  have C9 := Lib.hid (C3.out.below' hbw7)
  have C10 := Lib.hid (C4.out.below' hbw7)
  have C11 := Lib.hid (C5.out.below' hbw7)
  have hbel12 := hbel6.trans (hbw7.mono hbel6.size)
  clear C2 C3 C4 C5 hbw7 hbel6
  clear C8 C9
  have Z14 := Lib.hid (Blk.new w7 24 (natsV .u64 (zeros 4)))
  have hz15 := Lib.hid (below_setRow' (hbel12.alloc hbel12.size (.cells (natsV .u64 (zeros 4)).toArray 24)) hbel12.size (natsV .u64 ls).toArray)
  have Y16 := Lib.hid ((C10.out.alloc (.cells (natsV .u64 (zeros 4)).toArray 24)).row (natsV .u64 ls).toArray (Nat.ne_of_lt C10.out.lt))
  have Y17 := Lib.hid ((C11.out.alloc (.cells (natsV .u64 (zeros 4)).toArray 24)).row (natsV .u64 ls).toArray (Nat.ne_of_lt C11.out.lt))
  have Y18 := Lib.hid (Z14.out.setRow (natsV .u64 ls))
  by_cases hc : a < b
  · have HE := HY.out hc
    subst HE
    rw [decide_eq_true hc]
    go_wp2_with (first | (refine st24 rfl (.tmp 8) (.tmp 16) rfl w7.heap.size rfl ls rfl LS.out (zeros 4) Z14.out rfl ?_; generalize hW : World.setRow _ _ _ = w13; have D20 := Lib.hid (show Blk w13 (w.heap.size + 1 + 1) 24 (natsV .u64 lm) from (by rw [← hW]; exact Y16.out)); have D21 := Lib.hid (show Blk w13 (w.heap.size + 1 + 1 + 1) 24 (natsV .u64 (zeros 4)) from (by rw [← hW]; exact Y17.out)); have D22 := Lib.hid (show Blk w13 w7.heap.size 24 (natsV .u64 ls) from (by rw [← hW]; exact Y18.out)); have LE_D22 := (hbel12).size; have NE_D21 := Nat.ne_of_lt C11.out.lt; have hbel23 : Below w.heap.size w w13 := (by rw [← hW]; exact hz15.out); clear hW Z14 hz15 C10 C11 Y16 Y17 Y18 hbel12; generalize w7.heap.size = G19 at *) | (refine ld24 rfl (.tmp 8) rfl G19 rfl ls D22.out LS.out ?_) | (refine ld24 rfl (.tmp 5) rfl (w.heap.size + 1 + 1) rfl lm D20.out LM.out ?_))
    refine (HS.out hc _).mono ?_
    rintro e w24 ⟨rfl, hbw24⟩
    have C25 := Lib.hid (D20.out.below' hbw24)
    have C26 := Lib.hid (D21.out.below' hbw24)
    have C27 := Lib.hid (D22.out.below' hbw24)
    have hbel28 := hbel23.trans (hbw24.mono hbel23.size)
    clear D20 D21 D22 hbw24 hbel23
    have Z30 := Lib.hid (Blk.new w24 24 (natsV .u64 (zeros 4)))
    have hz31 := Lib.hid (below_setRow' (hbel28.alloc hbel28.size (.cells (natsV .u64 (zeros 4)).toArray 24)) hbel28.size (natsV .u64 lr).toArray)
    have Y32 := Lib.hid ((C25.out.alloc (.cells (natsV .u64 (zeros 4)).toArray 24)).row (natsV .u64 lr).toArray (Nat.ne_of_lt C25.out.lt))
    have Y33 := Lib.hid ((C26.out.alloc (.cells (natsV .u64 (zeros 4)).toArray 24)).row (natsV .u64 lr).toArray (Nat.ne_of_lt C26.out.lt))
    have Y34 := Lib.hid ((C27.out.alloc (.cells (natsV .u64 (zeros 4)).toArray 24)).row (natsV .u64 lr).toArray (Nat.ne_of_lt C27.out.lt))
    have Y35 := Lib.hid (Z30.out.setRow (natsV .u64 lr))
    go_wp2_with (first | (refine st24 rfl (.tmp 9) (.tmp 22) rfl w24.heap.size rfl lr rfl LT.out (zeros 4) Z30.out rfl ?_; generalize hW : World.setRow _ _ _ = w29; have D37 := Lib.hid (show Blk w29 (w.heap.size + 1 + 1) 24 (natsV .u64 lm) from (by rw [← hW]; exact Y32.out)); have D38 := Lib.hid (show Blk w29 (w.heap.size + 1 + 1 + 1) 24 (natsV .u64 (zeros 4)) from (by rw [← hW]; exact Y33.out)); have D39 := Lib.hid (show Blk w29 G19 24 (natsV .u64 ls) from (by rw [← hW]; exact Y34.out)); have D40 := Lib.hid (show Blk w29 w24.heap.size 24 (natsV .u64 lr) from (by rw [← hW]; exact Y35.out)); have LE_D40 := (hbel28).size; have NE_D39 := Nat.ne_of_lt C27.out.lt; have hbel41 : Below w.heap.size w w29 := (by rw [← hW]; exact hz31.out); clear hW Z30 hz31 C25 C26 C27 Y32 Y33 Y34 Y35 hbel28; generalize w24.heap.size = G36 at *) | (refine ld24 rfl (.tmp 9) rfl G36 rfl lr D40.out LT.out ?_) | (refine st24 rfl (.tmp 6) (.tmp 24) rfl (w.heap.size + 1 + 1 + 1) rfl lr rfl LT.out (zeros 4) D38.out rfl ?_))
    refine bodyPost_ret (v := .agg (natsV .u64 lr).toArray) ?_ rfl ⟨rfl, below_setRow' hbel41 (by first | exact Nat.le_refl _ | (simp; done) | (simp; omega) | omega) _⟩
    exact ret24 Try.results32 _ _ (w.heap.size + 1 + 1 + 1) lr rfl (D38.out.setRow _) LT.out
  · have HE := HN.out hc
    subst HE
    rw [decide_eq_false hc]
    go_wp2_with (first | (refine st24 rfl (.tmp 8) (.tmp 16) rfl w7.heap.size rfl lr rfl LS.out (zeros 4) Z14.out rfl ?_; generalize hW : World.setRow _ _ _ = w13; have D20 := Lib.hid (show Blk w13 (w.heap.size + 1 + 1) 24 (natsV .u64 lm) from (by rw [← hW]; exact Y16.out)); have D21 := Lib.hid (show Blk w13 (w.heap.size + 1 + 1 + 1) 24 (natsV .u64 (zeros 4)) from (by rw [← hW]; exact Y17.out)); have D22 := Lib.hid (show Blk w13 w7.heap.size 24 (natsV .u64 lr) from (by rw [← hW]; exact Y18.out)); have LE_D22 := (hbel12).size; have NE_D21 := Nat.ne_of_lt C11.out.lt; have hbel23 : Below w.heap.size w w13 := (by rw [← hW]; exact hz15.out); clear hW Z14 hz15 C10 C11 Y16 Y17 Y18 hbel12; generalize w7.heap.size = G19 at *) | (refine ld24 rfl (.tmp 8) rfl G19 rfl lr D22.out LS.out ?_) | (refine st24 rfl (.tmp 6) (.tmp 25) rfl (w.heap.size + 1 + 1 + 1) rfl lr rfl LS.out (zeros 4) D21.out rfl ?_))
    refine bodyPost_ret (v := .agg (natsV .u64 lr).toArray) ?_ rfl ⟨rfl, below_setRow' hbel23 (by first | exact Nat.le_refl _ | (simp; done) | (simp; omega) | omega) _⟩
    exact ret24 Try.results32 _ _ (w.heap.size + 1 + 1 + 1) lr rfl (D21.out.setRow _) LS.out
theorem litn_lP : (.agg #[.int .u64 18446744073709551615, .int .u64 4294967295, .int .u64 0, .int .u64 18446744069414584321] : Value) = .agg (natsV .u64 lP).toArray := by simp [lP, natsV]
set_option maxRecDepth 100000 in
set_option maxHeartbeats 800000 in
theorem DP_any (w : World) : Calls Try.prog 36 #[] w fun e w' => e = .returned (.agg (natsV .u64 (wds 4 mP)).toArray) ∧ Below w.heap.size w w' := by
  rw [wds_P]
  have B1 := Lib.hid (Blk.new w 24 (natsV .u64 (zeros 4)))
  have BEL := Lib.hid ((Below.refl w.heap.size w).alloc (Nat.le_refl _) (.cells (natsV .u64 (zeros 4)).toArray 24))
  go_enter Try.func36, Try.ntmps36
  go_wp2_with (first | (refine st24 rfl (.tmp 0) (.tmp 1) rfl w.heap.size rfl lP litn_lP rfl (zeros 4) B1.out rfl ?_))
  refine bodyPost_ret (v := .agg (natsV .u64 lP).toArray) ?_ rfl ⟨rfl, below_setRow' BEL.out (by first | exact Nat.le_refl _ | (simp; done) | (simp; omega) | omega) _⟩
  exact ret24 Try.results36 _ _ w.heap.size lP rfl (B1.out.setRow _) rfl
theorem litn_lN : (.agg #[.int .u64 17562291160714782033, .int .u64 13611842547513532036, .int .u64 18446744073709551615, .int .u64 18446744069414584320] : Value) = .agg (natsV .u64 lN).toArray := by simp [lN, natsV]
set_option maxRecDepth 100000 in
set_option maxHeartbeats 800000 in
theorem DN_any (w : World) : Calls Try.prog 51 #[] w fun e w' => e = .returned (.agg (natsV .u64 (wds 4 mN)).toArray) ∧ Below w.heap.size w w' := by
  rw [wds_N]
  have B1 := Lib.hid (Blk.new w 24 (natsV .u64 (zeros 4)))
  have BEL := Lib.hid ((Below.refl w.heap.size w).alloc (Nat.le_refl _) (.cells (natsV .u64 (zeros 4)).toArray 24))
  go_enter Try.func51, Try.ntmps51
  go_wp2_with (first | (refine st24 rfl (.tmp 0) (.tmp 1) rfl w.heap.size rfl lN litn_lN rfl (zeros 4) B1.out rfl ?_))
  refine bodyPost_ret (v := .agg (natsV .u64 lN).toArray) ?_ rfl ⟨rfl, below_setRow' BEL.out (by first | exact Nat.le_refl _ | (simp; done) | (simp; omega) | omega) _⟩
  exact ret24 Try.results51 _ _ w.heap.size lN rfl (B1.out.setRow _) rfl
set_option maxRecDepth 100000 in
set_option maxHeartbeats 800000 in
theorem DPrime_no (k : Int) (w : World) (h : k ≠ 1 ∧ k ≠ 2) : Calls Try.prog 19 #[.int .i64 k] w fun e w' => e = .returned (.tuple #[.agg (natsV .u64 (zeros 4)).toArray, .bool false]) ∧ Below w.heap.size w w' := by
  obtain ⟨h1, h2⟩ := h
  have B1 := Lib.hid (Blk.new w 24 (natsV .u64 (zeros 4)))
  have BEL := Lib.hid ((Below.refl w.heap.size w).alloc (Nat.le_refl _) (.cells (natsV .u64 (zeros 4)).toArray 24))
  go_enter Try.func19, Try.ntmps19
  go_wp2_with (refine st24 rfl (.tmp 2) (.tmp 11) rfl w.heap.size rfl (zeros 4) (num_lit0.trans (by rw [num_zero])) rfl (zeros 4) B1.out rfl ?_)
  refine bodyPost_ret (v := .tuple #[.agg (natsV .u64 (zeros 4)).toArray, .bool false]) ?_ rfl ⟨rfl, below_setRow' BEL.out (Nat.le_refl _) _⟩
  exact ret24x Try.results19 _ _ w.heap.size _ _ rfl rfl (B1.out.setRow _) rfl
set_option maxRecDepth 100000 in
set_option maxHeartbeats 800000 in
theorem DPrime_ok (k : Int) (m f v : Nat) (w : World) (h : Wh k m f v) : Calls Try.prog 19 #[.int .i64 k] w fun e w' => e = .returned (.tuple #[.agg (natsV .u64 (wds 4 m)).toArray, .bool true]) ∧ Below w.heap.size w w' := by
  cases h
  · have HP := Lib.hid (fun w => DP_any w)
    have LM := Lib.hid (wds_len 4 mP)
    generalize wds 4 mP = lm at *
    have B1 := Lib.hid (Blk.new w 24 (natsV .u64 (zeros 4)))
    have BEL := Lib.hid ((Below.refl w.heap.size w).alloc (Nat.le_refl _) (.cells (natsV .u64 (zeros 4)).toArray 24))
    go_enter Try.func19, Try.ntmps19
    go_wp2_with fail
    refine (HP.out _).mono ?_
    rintro e w1 ⟨rfl, hbw1⟩
    have C2 := Lib.hid (B1.out.below' hbw1)
    have hbel3 := BEL.out.trans (hbw1.mono BEL.out.size)
    clear B1 hbw1
    go_wp2_with (refine st24 rfl (.tmp 2) (.tmp 7) rfl w.heap.size rfl lm rfl LM.out (zeros 4) C2.out rfl ?_)
    refine bodyPost_ret (v := .tuple #[.agg (natsV .u64 lm).toArray, .bool true]) ?_ rfl ⟨rfl, below_setRow' hbel3 (Nat.le_refl _) _⟩
    exact ret24x Try.results19 _ _ w.heap.size _ _ rfl rfl (C2.out.setRow _) LM.out
  · have HP := Lib.hid (fun w => DN_any w)
    have LM := Lib.hid (wds_len 4 mN)
    generalize wds 4 mN = lm at *
    have B1 := Lib.hid (Blk.new w 24 (natsV .u64 (zeros 4)))
    have BEL := Lib.hid ((Below.refl w.heap.size w).alloc (Nat.le_refl _) (.cells (natsV .u64 (zeros 4)).toArray 24))
    go_enter Try.func19, Try.ntmps19
    go_wp2_with fail
    refine (HP.out _).mono ?_
    rintro e w1 ⟨rfl, hbw1⟩
    have C2 := Lib.hid (B1.out.below' hbw1)
    have hbel3 := BEL.out.trans (hbw1.mono BEL.out.size)
    clear B1 hbw1
    go_wp2_with (refine st24 rfl (.tmp 2) (.tmp 10) rfl w.heap.size rfl lm rfl LM.out (zeros 4) C2.out rfl ?_)
    refine bodyPost_ret (v := .tuple #[.agg (natsV .u64 lm).toArray, .bool true]) ?_ rfl ⟨rfl, below_setRow' hbel3 (Nat.le_refl _) _⟩
    exact ret24x Try.results19 _ _ w.heap.size _ _ rfl rfl (C2.out.setRow _) LM.out
theorem dbl_mod (x m i : Nat) : (x * 2 ^ i % m + x * 2 ^ i % m) % m = x * 2 ^ (i + 1) % m := by
  rw [← Nat.add_mod, ← Nat.two_mul, Nat.pow_succ, Nat.mul_comm 2, Nat.mul_assoc]
set_option maxRecDepth 100000 in
set_option maxHeartbeats 800000 in
theorem Form_any (x m f v : Nat) (w : World) (H : Fld m f v) (hx : x < m) :
    Calls Try.prog 23 #[.agg (natsV .u64 (wds 4 x)).toArray, .agg (natsV .u64 (wds 4 m)).toArray] w fun e w' => e = .returned (.agg (natsV .u64 (wds 4 (toF m x))).toArray) ∧ Below w.heap.size w w' := by
  have hm := H.lt
  have hp := H.pos
  have HA := Lib.hid (fun i w => DAdd_any (x * 2 ^ i % m) (x * 2 ^ i % m) m w hm (Nat.mod_lt _ hp) (Nat.mod_lt _ hp))
  obtain ⟨R, hR⟩ : ∃ R : Nat → Nat, R = fun i => x * 2 ^ i % m := ⟨_, rfl⟩
  have hst : ∀ i, (R i + R i) % m = R (i + 1) := fun i => by rw [hR]; exact dbl_mod x m i
  have h0 : R 0 = x := by rw [hR]; simp [Nat.mod_eq_of_lt hx]
  have h256 : R 256 = toF m x := by rw [hR]; rfl
  rw [← h256]
  have HB := Lib.hid (fun i w => show Calls Try.prog 31 #[.agg (natsV .u64 (wds 4 (R i))).toArray, .agg (natsV .u64 (wds 4 (R i))).toArray, .agg (natsV .u64 (wds 4 m)).toArray] w fun e w' => e = .returned (.agg (natsV .u64 (wds 4 (R (i + 1)))).toArray) ∧ Below w.heap.size w w' from by
    rw [← hst i, hR]; exact HA.out i w)
  clear HA hR hst h256
  rw [← h0]
  have LR := Lib.hid (fun i => wds_len 4 (R i))
  have LM := Lib.hid (wds_len 4 m)
  generalize wds 4 m = lm at *
  clear h0 hm hp H hx
  have B1 := Lib.hid (((Blk.new w 24 (natsV .u64 (wds 4 (R 0)))).alloc (.cells (natsV .u64 lm).toArray 24)).alloc (.cells (natsV .u64 (zeros 4)).toArray 24))
  have B2 := Lib.hid ((Blk.new2 w (.cells (natsV .u64 (wds 4 (R 0))).toArray 24) 24 (natsV .u64 lm)).alloc (.cells (natsV .u64 (zeros 4)).toArray 24))
  have B3 := Lib.hid (Blk.new3 w (.cells (natsV .u64 (wds 4 (R 0))).toArray 24) (.cells (natsV .u64 lm).toArray 24) 24 (natsV .u64 (zeros 4)))
  have BEL := Lib.hid ((((Below.refl w.heap.size w).alloc (Nat.le_refl _) (.cells (natsV .u64 (wds 4 (R 0))).toArray 24)).alloc (by simp) (.cells (natsV .u64 lm).toArray 24)).alloc (by simp; omega) (.cells (natsV .u64 (zeros 4)).toArray 24))
  have hL0 := LR.out 0
  go_enter Try.func23, Try.ntmps23
  go_wp2_with fail
  go_loopw [5] (fun i wr => ∃ s : Nat, s ≤ 256 ∧ i = .int .i64 s ∧ Blk wr w.heap.size 24 (natsV .u64 (wds 4 (R s))) ∧ Blk wr (w.heap.size + 1) 24 (natsV .u64 lm) ∧ Blk wr (w.heap.size + 1 + 1) 24 (natsV .u64 (zeros 4)) ∧ Below w.heap.size w wr) (fun i _ => 256 - (intOf i).toNat)
  case atStart => exact ⟨0, by omega, rfl, B1.out, B2.out, B3.out, BEL.out⟩
  case round =>
    clear B1 B2 B3 BEL
    obtain ⟨s, hs, rfl, k1, k2, k3, hbel⟩ := hrel
    have K1 := Lib.hid k1
    have K2 := Lib.hid k2
    have K3 := Lib.hid k3
    clear k1 k2 k3
    have hL := LR.out s
    have hL1 := LR.out (s + 1)
    by_cases h5 : s < 256
    · as_aux_lemma =>
      have hti : (s : Int) < 256 := by omega
      have HC := Lib.hid (HB.out s)
      obtain ⟨l1, hl1⟩ : ∃ l, l = wds 4 (R (s + 1)) := ⟨_, rfl⟩
      rw [← hl1] at HC hL1
      have HL1 := Lib.hid hl1
      clear hl1
      generalize wds 4 (R s) = l0 at *
      go_wp2_with (first | (refine ld24 rfl (.tmp 2) rfl w.heap.size rfl l0 K1.out hL ?_) | (refine ld24 rfl (.tmp 3) rfl (w.heap.size + 1) rfl lm K2.out LM.out ?_))
      refine (HC.out _).mono ?_
      rintro e w21 ⟨rfl, hbw21⟩
      have C22 := Lib.hid (K1.out.below' hbw21)
      have C23 := Lib.hid (K2.out.below' hbw21)
      have C24 := Lib.hid (K3.out.below' hbw21)
      have hbel25 := hbel.trans (hbw21.mono hbel.size)
      clear K1 K2 K3 hbw21 hbel
      have hz27 := Lib.hid (below_setRow' hbel25 (show w.heap.size ≤ w.heap.size by first | exact Nat.le_refl _ | omega) (natsV .u64 l1).toArray)
      have Y28 := Lib.hid (C23.out.row (natsV .u64 l1).toArray (show (w.heap.size + 1) ≠ w.heap.size by first | omega | assumption | exact Ne.symm (by assumption)))
      have Y29 := Lib.hid (C24.out.row (natsV .u64 l1).toArray (show (w.heap.size + 1 + 1) ≠ w.heap.size by first | omega | assumption | exact Ne.symm (by assumption)))
      have Y30 := Lib.hid (C22.out.setRow (natsV .u64 l1))
      go_wp2_with (refine st24 rfl (.tmp 2) (.tmp 13) rfl w.heap.size rfl l1 rfl hL1 l0 C22.out hL ?_; generalize hW : World.setRow _ _ _ = w26; have D31 := Lib.hid (show Blk w26 (w.heap.size + 1) 24 (natsV .u64 lm) from (by rw [← hW]; exact Y28.out)); have D32 := Lib.hid (show Blk w26 (w.heap.size + 1 + 1) 24 (natsV .u64 (zeros 4)) from (by rw [← hW]; exact Y29.out)); have D33 := Lib.hid (show Blk w26 w.heap.size 24 (natsV .u64 l1) from (by rw [← hW]; exact Y30.out)); have hbel34 : Below w.heap.size w w26 := (by rw [← hW]; exact hz27.out); clear hW hz27 C22 C23 C24 Y28 Y29 Y30 hbel25)
      go_roundw
      case rel => exact ⟨s + 1, by omega, by go_num, by rw [← HL1.out]; exact D33.out, D31.out, D32.out, hbel34⟩
      case measure => simp [intOf] <;> omega
    · obtain rfl : s = 256 := by omega
      rw [show ((256 : Nat) : Int) = 256 from rfl]
      go_wp2_with (first | (refine ld24 rfl (.tmp 2) rfl w.heap.size rfl (wds 4 (R 256)) K1.out hL ?_) | (refine st24 rfl (.tmp 4) (.tmp 14) rfl (w.heap.size + 1 + 1) rfl (wds 4 (R 256)) rfl hL (zeros 4) K3.out rfl ?_))
      refine bodyPost_ret (v := .agg (natsV .u64 (wds 4 (R 256))).toArray) ?_ rfl ⟨rfl, below_setRow' hbel (by first | exact Nat.le_refl _ | (simp; done) | (simp; omega) | omega) _⟩
      exact ret24 Try.results23 _ _ (w.heap.size + 1 + 1) (wds 4 (R 256)) rfl (K3.out.setRow _) hL
end Go.Proofs.Ytfaoajljaggklaa
