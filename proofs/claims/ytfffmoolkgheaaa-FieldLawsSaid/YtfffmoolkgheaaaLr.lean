/- The document's primes, rests, sums and differences modulo one. Condition: the sizes of the arguments. -/
import Derived.Test.YtfffmoolkgheaaaLs
import Derived.Test.YtfffmoolkgheaaaFa
import Derived.Test.YtfffmoolkgheaaaPf
namespace Go.Proofs.Ytfffmoolkgheaaa
open Go.RowKit
set_option linter.unusedVariables false
set_option linter.unusedSimpArgs false
theorem over_iff (x m : Nat) (ob : Bool) : ob.toNat < lt01 x m ↔ (ob = false ∧ x < m) := by
  unfold lt01
  cases ob <;> by_cases h : x < m <;> simp [h]
set_option maxRecDepth 100000 in
set_option maxHeartbeats 800000 in
theorem Rest_any (x m : Nat) (ob : Bool) (w : World) (hm : m < 2 ^ 256) (hx : x < 2 ^ 256) (h2 : x + 2 ^ 256 * ob.toNat < 2 * m) :
    Calls Try.prog 45 #[.agg (natsV .u64 (wds 4 x)).toArray, .bool ob, .agg (natsV .u64 (wds 4 m)).toArray] w fun e w' => e = .returned (.agg (natsV .u64 (wds 4 ((x + 2 ^ 256 * ob.toNat) % m))).toArray) ∧ Below w.heap.size w w' := by
  have HL := Lib.hid (fun w => Less_any x m w hx hm)
  have HMI := Lib.hid (fun w => dminus_any x m w hx hm)
  have HY := Lib.hid (fun h => show wds 4 ((x + 2 ^ 256 * ob.toNat) % m) = wds 4 x from by rw [below_yes x m ob.toNat ((over_iff x m ob).2 h)])
  have HN := Lib.hid (fun (h : ¬ (ob = false ∧ x < m)) => below_no x m ob.toNat hm hx h2 (by cases ob <;> decide) (fun h3 => h ((over_iff x m ob).1 h3)))
  have LX := Lib.hid (wds_len 4 x)
  have LM := Lib.hid (wds_len 4 m)
  have LS := Lib.hid (wds_len 4 (x + 2 ^ 256 - m))
  generalize wds 4 (x + 2 ^ 256 - m) = ls at *
  generalize wds 4 ((x + 2 ^ 256 * ob.toNat) % m) = lr at *
  generalize wds 4 x = lx at *
  generalize wds 4 m = lm at *
  clear h2 hm hx
  have B1 := Lib.hid (((Blk.new w 24 (natsV .u64 lx)).alloc (.cells (natsV .u64 lm).toArray 24)).alloc (.cells (natsV .u64 (zeros 4)).toArray 24))
  have B2 := Lib.hid ((Blk.new2 w (.cells (natsV .u64 lx).toArray 24) 24 (natsV .u64 lm)).alloc (.cells (natsV .u64 (zeros 4)).toArray 24))
  have B3 := Lib.hid (Blk.new3 w (.cells (natsV .u64 lx).toArray 24) (.cells (natsV .u64 lm).toArray 24) 24 (natsV .u64 (zeros 4)))
  have BEL := Lib.hid ((((Below.refl w.heap.size w).alloc (Nat.le_refl _) (.cells (natsV .u64 lx).toArray 24)).alloc (by simp) (.cells (natsV .u64 lm).toArray 24)).alloc (by simp; omega) (.cells (natsV .u64 (zeros 4)).toArray 24))
  go_enter Try.func45, Try.ntmps45
  go_wp2_with (first | (refine ld24 rfl (.tmp 3) rfl w.heap.size rfl lx B1.out LX.out ?_) | (refine ld24 rfl (.tmp 5) rfl (w.heap.size + 1) rfl lm B2.out LM.out ?_))
  refine (HL.out _).mono ?_
  rintro e w1 ⟨rfl, hbw1⟩
  have C2 := Lib.hid (B1.out.below' hbw1)
  have C3 := Lib.hid (B2.out.below' hbw1)
  have C4 := Lib.hid (B3.out.below' hbw1)
  have hbel5 := BEL.out.trans (hbw1.mono BEL.out.size)
  clear B1 B2 B3 hbw1
  by_cases hc : ob = false ∧ x < m
  · have HE := HY.out hc
    subst HE
    obtain ⟨rfl, hc2⟩ := hc
    rw [decide_eq_true hc2]
    go_wp2_with (first | (refine ld24 rfl (.tmp 3) rfl w.heap.size rfl lr C2.out LX.out ?_) | (refine st24 rfl (.tmp 6) (.tmp 16) rfl (w.heap.size + 1 + 1) rfl lr rfl LX.out (zeros 4) C4.out rfl ?_))
    refine bodyPost_ret (v := .agg (natsV .u64 lr).toArray) ?_ rfl ⟨rfl, below_setRow' hbel5 (by first | exact Nat.le_refl _ | (simp; done) | (simp; omega) | omega) _⟩
    exact ret24 Try.results45 _ _ (w.heap.size + 1 + 1) lr rfl (C4.out.setRow _) LX.out
  · have HE := HN.out hc
    subst HE
    have hbo : (!ob && decide (x < m)) = false := by
      cases ob
      · simp only [Bool.not_false, Bool.true_and, decide_eq_false_iff_not]; exact fun h => hc ⟨rfl, h⟩
      · rfl
    clear hc HY HN
    generalize decide (x < m) = bl_ at *
    rcases ob with _ | _
    · have hbl : bl_ = false := by simpa using hbo
      subst hbl
      go_wp2_with (first | (refine ld24 rfl (.tmp 3) rfl w.heap.size rfl lx C2.out LX.out ?_) | (refine ld24 rfl (.tmp 5) rfl (w.heap.size + 1) rfl lm C3.out LM.out ?_))
      refine (HMI.out _).mono ?_
      rintro e w6 ⟨rfl, hbw6⟩
      have C7 := Lib.hid (C2.out.below' hbw6)
      have C8 := Lib.hid (C3.out.below' hbw6)
      have C9 := Lib.hid (C4.out.below' hbw6)
      have hbel10 := hbel5.trans (hbw6.mono hbel5.size)
      clear C2 C3 C4 hbw6 hbel5
      go_wp2_with (first | (refine st24 rfl (.tmp 6) (.tmp 19) rfl (w.heap.size + 1 + 1) rfl lr rfl LS.out (zeros 4) C9.out rfl ?_))
      refine bodyPost_ret (v := .agg (natsV .u64 lr).toArray) ?_ rfl ⟨rfl, below_setRow' hbel10 (by first | exact Nat.le_refl _ | (simp; done) | (simp; omega) | omega) _⟩
      exact ret24 Try.results45 _ _ (w.heap.size + 1 + 1) lr rfl (C9.out.setRow _) LS.out
    · go_wp2_with (first | (refine ld24 rfl (.tmp 3) rfl w.heap.size rfl lx C2.out LX.out ?_) | (refine ld24 rfl (.tmp 5) rfl (w.heap.size + 1) rfl lm C3.out LM.out ?_))
      refine (HMI.out _).mono ?_
      rintro e w6 ⟨rfl, hbw6⟩
      have C7 := Lib.hid (C2.out.below' hbw6)
      have C8 := Lib.hid (C3.out.below' hbw6)
      have C9 := Lib.hid (C4.out.below' hbw6)
      have hbel10 := hbel5.trans (hbw6.mono hbel5.size)
      clear C2 C3 C4 hbw6 hbel5
      go_wp2_with (first | (refine st24 rfl (.tmp 6) (.tmp 19) rfl (w.heap.size + 1 + 1) rfl lr rfl LS.out (zeros 4) C9.out rfl ?_))
      refine bodyPost_ret (v := .agg (natsV .u64 lr).toArray) ?_ rfl ⟨rfl, below_setRow' hbel10 (by first | exact Nat.le_refl _ | (simp; done) | (simp; omega) | omega) _⟩
      exact ret24 Try.results45 _ _ (w.heap.size + 1 + 1) lr rfl (C9.out.setRow _) LS.out
set_option maxRecDepth 100000 in
set_option maxHeartbeats 800000 in
theorem DAdd_any (a b m : Nat) (w : World) (hm : m < 2 ^ 256) (ha : a < m) (hb : b < m) :
    Calls Try.prog 46 #[.agg (natsV .u64 (wds 4 a)).toArray, .agg (natsV .u64 (wds 4 b)).toArray, .agg (natsV .u64 (wds 4 m)).toArray] w fun e w' => e = .returned (.agg (natsV .u64 (wds 4 ((a + b) % m))).toArray) ∧ Below w.heap.size w w' := by
  have HS := Lib.hid (fun w => dsum_any a b w (by omega) (by omega))
  have hle : addC a b ≤ 1 := by unfold addC; omega
  have hdm : (a + b) % 2 ^ 256 + 2 ^ 256 * (decide (addC a b = 1)).toNat = a + b := by
    have h1 : (a + b) % 2 ^ 256 + 2 ^ 256 * addC a b = a + b := Nat.mod_add_div _ _
    have h3 : (decide (addC a b = 1)).toNat = addC a b := by
      rcases Nat.lt_or_ge (addC a b) 1 with h0 | h0
      · rw [show addC a b = 0 by omega]; rfl
      · rw [show addC a b = 1 by omega]; rfl
    rw [h3]; exact h1
  have HR := Lib.hid (fun w => Rest_any ((a + b) % 2 ^ 256) m (decide (addC a b = 1)) w hm (Nat.mod_lt _ (Nat.two_pow_pos 256)) (by rw [hdm]; omega))
  rw [hdm, show wds 4 ((a + b) % 2 ^ 256) = wds 4 (a + b) from wds_mod 4 4 _ (Nat.le_refl _)] at HR
  have LS := Lib.hid (wds_len 4 (a + b))
  have LR := Lib.hid (wds_len 4 ((a + b) % m))
  have LA := Lib.hid (wds_len 4 a)
  have LB := Lib.hid (wds_len 4 b)
  have LM := Lib.hid (wds_len 4 m)
  generalize wds 4 (a + b) = ls at *
  generalize wds 4 ((a + b) % m) = lr at *
  generalize wds 4 a = la at *
  generalize wds 4 b = lb at *
  generalize wds 4 m = lm at *
  generalize decide (addC a b = 1) = ob at *
  clear hm ha hb hle hdm
  have B1 := Lib.hid ((((Blk.new w 24 (natsV .u64 la)).alloc (.cells (natsV .u64 lb).toArray 24)).alloc (.cells (natsV .u64 lm).toArray 24)).alloc (.cells (natsV .u64 (zeros 4)).toArray 24))
  have B2 := Lib.hid (((Blk.new2 w (.cells (natsV .u64 la).toArray 24) 24 (natsV .u64 lb)).alloc (.cells (natsV .u64 lm).toArray 24)).alloc (.cells (natsV .u64 (zeros 4)).toArray 24))
  have B3 := Lib.hid ((Blk.new3 w (.cells (natsV .u64 la).toArray 24) (.cells (natsV .u64 lb).toArray 24) 24 (natsV .u64 lm)).alloc (.cells (natsV .u64 (zeros 4)).toArray 24))
  have B4 := Lib.hid (Blk.new4 w (.cells (natsV .u64 la).toArray 24) (.cells (natsV .u64 lb).toArray 24) (.cells (natsV .u64 lm).toArray 24) 24 (natsV .u64 (zeros 4)))
  have BEL := Lib.hid (((((Below.refl w.heap.size w).alloc (Nat.le_refl _) (.cells (natsV .u64 la).toArray 24)).alloc (by simp) (.cells (natsV .u64 lb).toArray 24)).alloc (by simp; omega) (.cells (natsV .u64 lm).toArray 24)).alloc (by simp; omega) (.cells (natsV .u64 (zeros 4)).toArray 24))
  go_enter Try.func46, Try.ntmps46
  go_wp2_with (first | (refine ld24 rfl (.tmp 3) rfl w.heap.size rfl la B1.out LA.out ?_) | (refine ld24 rfl (.tmp 4) rfl (w.heap.size + 1) rfl lb B2.out LB.out ?_))
  refine (HS.out _).mono ?_
  rintro e w1 ⟨rfl, hbw1⟩
  have C2 := Lib.hid (B1.out.below' hbw1)
  have C3 := Lib.hid (B2.out.below' hbw1)
  have C4 := Lib.hid (B3.out.below' hbw1)
  have C5 := Lib.hid (B4.out.below' hbw1)
  have hbel6 := BEL.out.trans (hbw1.mono BEL.out.size)
  clear B1 B2 B3 B4 hbw1
  clear C2 C3
  have Z8 := Lib.hid (Blk.new w1 24 (natsV .u64 (zeros 4)))
  have hz9 := Lib.hid (below_setRow' (hbel6.alloc hbel6.size (.cells (natsV .u64 (zeros 4)).toArray 24)) hbel6.size (natsV .u64 ls).toArray)
  have Y10 := Lib.hid ((C4.out.alloc (.cells (natsV .u64 (zeros 4)).toArray 24)).row (natsV .u64 ls).toArray (Nat.ne_of_lt C4.out.lt))
  have Y11 := Lib.hid ((C5.out.alloc (.cells (natsV .u64 (zeros 4)).toArray 24)).row (natsV .u64 ls).toArray (Nat.ne_of_lt C5.out.lt))
  have Y12 := Lib.hid (Z8.out.setRow (natsV .u64 ls))
  go_wp2_with (first | (refine st24 rfl (.tmp 7) (.tmp 13) rfl w1.heap.size rfl ls rfl LS.out (zeros 4) Z8.out rfl ?_; generalize hW : World.setRow _ _ _ = w7; have D14 := Lib.hid (show Blk w7 (w.heap.size + 1 + 1) 24 (natsV .u64 lm) from (by rw [← hW]; exact Y10.out)); have D15 := Lib.hid (show Blk w7 (w.heap.size + 1 + 1 + 1) 24 (natsV .u64 (zeros 4)) from (by rw [← hW]; exact Y11.out)); have D16 := Lib.hid (show Blk w7 w1.heap.size 24 (natsV .u64 ls) from (by rw [← hW]; exact Y12.out)); have LE_D16 := (hbel6).size; have NE_D15 := Nat.ne_of_lt C5.out.lt; have hbel17 : Below w.heap.size w w7 := (by rw [← hW]; exact hz9.out); clear hW Z8 hz9 C4 C5 Y10 Y11 Y12 hbel6; generalize w1.heap.size = G13 at *) | (refine ld24 rfl (.tmp 7) rfl G13 rfl ls D16.out LS.out ?_) | (refine ld24 rfl (.tmp 5) rfl (w.heap.size + 1 + 1) rfl lm D14.out LM.out ?_))
  refine (HR.out _).mono ?_
  rintro e w18 ⟨rfl, hbw18⟩
  have C19 := Lib.hid (D14.out.below' hbw18)
  have C20 := Lib.hid (D15.out.below' hbw18)
  have C21 := Lib.hid (D16.out.below' hbw18)
  have hbel22 := hbel17.trans (hbw18.mono hbel17.size)
  clear D14 D15 D16 hbw18 hbel17
  go_wp2_with (first | (refine st24 rfl (.tmp 6) (.tmp 18) rfl (w.heap.size + 1 + 1 + 1) rfl lr rfl LR.out (zeros 4) C20.out rfl ?_))
  refine bodyPost_ret (v := .agg (natsV .u64 lr).toArray) ?_ rfl ⟨rfl, below_setRow' hbel22 (by first | exact Nat.le_refl _ | (simp; done) | (simp; omega) | omega) _⟩
  exact ret24 Try.results46 _ _ (w.heap.size + 1 + 1 + 1) lr rfl (C20.out.setRow _) LR.out
set_option maxRecDepth 100000 in
set_option maxHeartbeats 800000 in
theorem DSub_any (a b m : Nat) (w : World) (hm : m < 2 ^ 256) (ha : a < m) (hb : b < m) :
    Calls Try.prog 74 #[.agg (natsV .u64 (wds 4 a)).toArray, .agg (natsV .u64 (wds 4 b)).toArray, .agg (natsV .u64 (wds 4 m)).toArray] w fun e w' => e = .returned (.agg (natsV .u64 (wds 4 ((a + m - b) % m))).toArray) ∧ Below w.heap.size w w' := by
  have HL := Lib.hid (fun w => Less_any a b w (by omega) (by omega))
  have HMI := Lib.hid (fun w => dminus_any a b w (by omega) (by omega))
  have HS := Lib.hid (fun (h : a < b) w => dsum_any (a + 2 ^ 256 - b) m w (by omega) hm)
  have HN := Lib.hid (minus_no a b m ha hb hm)
  have HY := Lib.hid (minus_yes a b m ha hb hm)
  have LS := Lib.hid (wds_len 4 (a + 2 ^ 256 - b))
  have LT := Lib.hid (wds_len 4 (a + 2 ^ 256 - b + m))
  have LA := Lib.hid (wds_len 4 a)
  have LB := Lib.hid (wds_len 4 b)
  have LM := Lib.hid (wds_len 4 m)
  generalize wds 4 (a + 2 ^ 256 - b + m) = lt at *
  generalize wds 4 ((a + m - b) % m) = lr at *
  generalize decide (addC (a + 2 ^ 256 - b) m = 1) = cy at *
  generalize wds 4 (a + 2 ^ 256 - b) = ls at *
  generalize wds 4 a = la at *
  generalize wds 4 b = lb at *
  generalize wds 4 m = lm at *
  clear hm ha hb
  have B1 := Lib.hid ((((Blk.new w 24 (natsV .u64 la)).alloc (.cells (natsV .u64 lb).toArray 24)).alloc (.cells (natsV .u64 lm).toArray 24)).alloc (.cells (natsV .u64 (zeros 4)).toArray 24))
  have B2 := Lib.hid (((Blk.new2 w (.cells (natsV .u64 la).toArray 24) 24 (natsV .u64 lb)).alloc (.cells (natsV .u64 lm).toArray 24)).alloc (.cells (natsV .u64 (zeros 4)).toArray 24))
  have B3 := Lib.hid ((Blk.new3 w (.cells (natsV .u64 la).toArray 24) (.cells (natsV .u64 lb).toArray 24) 24 (natsV .u64 lm)).alloc (.cells (natsV .u64 (zeros 4)).toArray 24))
  have B4 := Lib.hid (Blk.new4 w (.cells (natsV .u64 la).toArray 24) (.cells (natsV .u64 lb).toArray 24) (.cells (natsV .u64 lm).toArray 24) 24 (natsV .u64 (zeros 4)))
  have BEL := Lib.hid (((((Below.refl w.heap.size w).alloc (Nat.le_refl _) (.cells (natsV .u64 la).toArray 24)).alloc (by simp) (.cells (natsV .u64 lb).toArray 24)).alloc (by simp; omega) (.cells (natsV .u64 lm).toArray 24)).alloc (by simp; omega) (.cells (natsV .u64 (zeros 4)).toArray 24))
  go_enter Try.func74, Try.ntmps74
  go_wp2_with (first | (refine ld24 rfl (.tmp 3) rfl w.heap.size rfl la B1.out LA.out ?_) | (refine ld24 rfl (.tmp 4) rfl (w.heap.size + 1) rfl lb B2.out LB.out ?_))
  refine (HL.out _).mono ?_
  rintro e w1 ⟨rfl, hbw1⟩
  have C2 := Lib.hid (B1.out.below' hbw1)
  have C3 := Lib.hid (B2.out.below' hbw1)
  have C4 := Lib.hid (B3.out.below' hbw1)
  have C5 := Lib.hid (B4.out.below' hbw1)
  have hbel6 := BEL.out.trans (hbw1.mono BEL.out.size)
  clear B1 B2 B3 B4 hbw1
  go_wp2_with (first | (refine ld24 rfl (.tmp 3) rfl w.heap.size rfl la C2.out LA.out ?_) | (refine ld24 rfl (.tmp 4) rfl (w.heap.size + 1) rfl lb C3.out LB.out ?_))
  refine (HMI.out _).mono ?_
  rintro e w7 ⟨rfl, hbw7⟩
  have C8 := Lib.hid (C2.out.below' hbw7)
  have C9 := Lib.hid (C3.out.below' hbw7)
  have C10 := Lib.hid (C4.out.below' hbw7)
  have C11 := Lib.hid (C5.out.below' hbw7)
  have hbel12 := hbel6.trans (hbw7.mono hbel6.size)
  clear C2 C3 C4 C5 hbw7 hbel6
  clear C8 C9
  have Z14 := Lib.hid (Blk.new w7 24 (natsV .u64 (zeros 4)))
  have hz15 := Lib.hid (below_setRow' (hbel12.alloc hbel12.size (.cells (natsV .u64 (zeros 4)).toArray 24)) hbel12.size (natsV .u64 ls).toArray)
  have Y16 := Lib.hid ((C10.out.alloc (.cells (natsV .u64 (zeros 4)).toArray 24)).row (natsV .u64 ls).toArray (Nat.ne_of_lt C10.out.lt))
  have Y17 := Lib.hid ((C11.out.alloc (.cells (natsV .u64 (zeros 4)).toArray 24)).row (natsV .u64 ls).toArray (Nat.ne_of_lt C11.out.lt))
  have Y18 := Lib.hid (Z14.out.setRow (natsV .u64 ls))
  by_cases hc : a < b
  · have HE := HY.out hc
    subst HE
    rw [decide_eq_true hc]
    go_wp2_with (first | (refine st24 rfl (.tmp 8) (.tmp 16) rfl w7.heap.size rfl ls rfl LS.out (zeros 4) Z14.out rfl ?_; generalize hW : World.setRow _ _ _ = w13; have D20 := Lib.hid (show Blk w13 (w.heap.size + 1 + 1) 24 (natsV .u64 lm) from (by rw [← hW]; exact Y16.out)); have D21 := Lib.hid (show Blk w13 (w.heap.size + 1 + 1 + 1) 24 (natsV .u64 (zeros 4)) from (by rw [← hW]; exact Y17.out)); have D22 := Lib.hid (show Blk w13 w7.heap.size 24 (natsV .u64 ls) from (by rw [← hW]; exact Y18.out)); have LE_D22 := (hbel12).size; have NE_D21 := Nat.ne_of_lt C11.out.lt; have hbel23 : Below w.heap.size w w13 := (by rw [← hW]; exact hz15.out); clear hW Z14 hz15 C10 C11 Y16 Y17 Y18 hbel12; generalize w7.heap.size = G19 at *) | (refine ld24 rfl (.tmp 8) rfl G19 rfl ls D22.out LS.out ?_) | (refine ld24 rfl (.tmp 5) rfl (w.heap.size + 1 + 1) rfl lm D20.out LM.out ?_))
    refine (HS.out hc _).mono ?_
    rintro e w24 ⟨rfl, hbw24⟩
    have C25 := Lib.hid (D20.out.below' hbw24)
    have C26 := Lib.hid (D21.out.below' hbw24)
    have C27 := Lib.hid (D22.out.below' hbw24)
    have hbel28 := hbel23.trans (hbw24.mono hbel23.size)
    clear D20 D21 D22 hbw24 hbel23
    have Z30 := Lib.hid (Blk.new w24 24 (natsV .u64 (zeros 4)))
    have hz31 := Lib.hid (below_setRow' (hbel28.alloc hbel28.size (.cells (natsV .u64 (zeros 4)).toArray 24)) hbel28.size (natsV .u64 lr).toArray)
    have Y32 := Lib.hid ((C25.out.alloc (.cells (natsV .u64 (zeros 4)).toArray 24)).row (natsV .u64 lr).toArray (Nat.ne_of_lt C25.out.lt))
    have Y33 := Lib.hid ((C26.out.alloc (.cells (natsV .u64 (zeros 4)).toArray 24)).row (natsV .u64 lr).toArray (Nat.ne_of_lt C26.out.lt))
    have Y34 := Lib.hid ((C27.out.alloc (.cells (natsV .u64 (zeros 4)).toArray 24)).row (natsV .u64 lr).toArray (Nat.ne_of_lt C27.out.lt))
    have Y35 := Lib.hid (Z30.out.setRow (natsV .u64 lr))
    go_wp2_with (first | (refine st24 rfl (.tmp 9) (.tmp 22) rfl w24.heap.size rfl lr rfl LT.out (zeros 4) Z30.out rfl ?_; generalize hW : World.setRow _ _ _ = w29; have D37 := Lib.hid (show Blk w29 (w.heap.size + 1 + 1) 24 (natsV .u64 lm) from (by rw [← hW]; exact Y32.out)); have D38 := Lib.hid (show Blk w29 (w.heap.size + 1 + 1 + 1) 24 (natsV .u64 (zeros 4)) from (by rw [← hW]; exact Y33.out)); have D39 := Lib.hid (show Blk w29 G19 24 (natsV .u64 ls) from (by rw [← hW]; exact Y34.out)); have D40 := Lib.hid (show Blk w29 w24.heap.size 24 (natsV .u64 lr) from (by rw [← hW]; exact Y35.out)); have LE_D40 := (hbel28).size; have NE_D39 := Nat.ne_of_lt C27.out.lt; have hbel41 : Below w.heap.size w w29 := (by rw [← hW]; exact hz31.out); clear hW Z30 hz31 C25 C26 C27 Y32 Y33 Y34 Y35 hbel28; generalize w24.heap.size = G36 at *) | (refine ld24 rfl (.tmp 9) rfl G36 rfl lr D40.out LT.out ?_) | (refine st24 rfl (.tmp 6) (.tmp 24) rfl (w.heap.size + 1 + 1 + 1) rfl lr rfl LT.out (zeros 4) D38.out rfl ?_))
    refine bodyPost_ret (v := .agg (natsV .u64 lr).toArray) ?_ rfl ⟨rfl, below_setRow' hbel41 (by first | exact Nat.le_refl _ | (simp; done) | (simp; omega) | omega) _⟩
    exact ret24 Try.results74 _ _ (w.heap.size + 1 + 1 + 1) lr rfl (D38.out.setRow _) LT.out
  · have HE := HN.out hc
    subst HE
    rw [decide_eq_false hc]
    go_wp2_with (first | (refine st24 rfl (.tmp 8) (.tmp 16) rfl w7.heap.size rfl lr rfl LS.out (zeros 4) Z14.out rfl ?_; generalize hW : World.setRow _ _ _ = w13; have D20 := Lib.hid (show Blk w13 (w.heap.size + 1 + 1) 24 (natsV .u64 lm) from (by rw [← hW]; exact Y16.out)); have D21 := Lib.hid (show Blk w13 (w.heap.size + 1 + 1 + 1) 24 (natsV .u64 (zeros 4)) from (by rw [← hW]; exact Y17.out)); have D22 := Lib.hid (show Blk w13 w7.heap.size 24 (natsV .u64 lr) from (by rw [← hW]; exact Y18.out)); have LE_D22 := (hbel12).size; have NE_D21 := Nat.ne_of_lt C11.out.lt; have hbel23 : Below w.heap.size w w13 := (by rw [← hW]; exact hz15.out); clear hW Z14 hz15 C10 C11 Y16 Y17 Y18 hbel12; generalize w7.heap.size = G19 at *) | (refine ld24 rfl (.tmp 8) rfl G19 rfl lr D22.out LS.out ?_) | (refine st24 rfl (.tmp 6) (.tmp 25) rfl (w.heap.size + 1 + 1 + 1) rfl lr rfl LS.out (zeros 4) D21.out rfl ?_))
    refine bodyPost_ret (v := .agg (natsV .u64 lr).toArray) ?_ rfl ⟨rfl, below_setRow' hbel23 (by first | exact Nat.le_refl _ | (simp; done) | (simp; omega) | omega) _⟩
    exact ret24 Try.results74 _ _ (w.heap.size + 1 + 1 + 1) lr rfl (D21.out.setRow _) LS.out
theorem litn_lP : (.agg #[.int .u64 18446744073709551615, .int .u64 4294967295, .int .u64 0, .int .u64 18446744069414584321] : Value) = .agg (natsV .u64 lP).toArray := by simp [lP, natsV]
set_option maxRecDepth 100000 in
set_option maxHeartbeats 800000 in
theorem DP_any (w : World) : Calls Try.prog 56 #[] w fun e w' => e = .returned (.agg (natsV .u64 (wds 4 mP)).toArray) ∧ Below w.heap.size w w' := by
  rw [wds_P]
  have B1 := Lib.hid (Blk.new w 24 (natsV .u64 (zeros 4)))
  have BEL := Lib.hid ((Below.refl w.heap.size w).alloc (Nat.le_refl _) (.cells (natsV .u64 (zeros 4)).toArray 24))
  go_enter Try.func56, Try.ntmps56
  go_wp2_with (first | (refine st24 rfl (.tmp 0) (.tmp 1) rfl w.heap.size rfl lP litn_lP rfl (zeros 4) B1.out rfl ?_))
  refine bodyPost_ret (v := .agg (natsV .u64 lP).toArray) ?_ rfl ⟨rfl, below_setRow' BEL.out (by first | exact Nat.le_refl _ | (simp; done) | (simp; omega) | omega) _⟩
  exact ret24 Try.results56 _ _ w.heap.size lP rfl (B1.out.setRow _) rfl
theorem litn_lN : (.agg #[.int .u64 17562291160714782033, .int .u64 13611842547513532036, .int .u64 18446744073709551615, .int .u64 18446744069414584320] : Value) = .agg (natsV .u64 lN).toArray := by simp [lN, natsV]
set_option maxRecDepth 100000 in
set_option maxHeartbeats 800000 in
theorem DN_any (w : World) : Calls Try.prog 44 #[] w fun e w' => e = .returned (.agg (natsV .u64 (wds 4 mN)).toArray) ∧ Below w.heap.size w w' := by
  rw [wds_N]
  have B1 := Lib.hid (Blk.new w 24 (natsV .u64 (zeros 4)))
  have BEL := Lib.hid ((Below.refl w.heap.size w).alloc (Nat.le_refl _) (.cells (natsV .u64 (zeros 4)).toArray 24))
  go_enter Try.func44, Try.ntmps44
  go_wp2_with (first | (refine st24 rfl (.tmp 0) (.tmp 1) rfl w.heap.size rfl lN litn_lN rfl (zeros 4) B1.out rfl ?_))
  refine bodyPost_ret (v := .agg (natsV .u64 lN).toArray) ?_ rfl ⟨rfl, below_setRow' BEL.out (by first | exact Nat.le_refl _ | (simp; done) | (simp; omega) | omega) _⟩
  exact ret24 Try.results44 _ _ w.heap.size lN rfl (B1.out.setRow _) rfl
end Go.Proofs.Ytfffmoolkgheaaa
