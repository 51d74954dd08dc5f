/- Parts of proofs of statements, each text behind those that it stands on. No condition of its own. -/
import Derived.Test.YtdkkombpkojjaaaD15
import Derived.Test.YtdkkombpkojjaaaD16
namespace Go.Proofs.Ytdkkombpkojjaaa
set_option maxRecDepth 100000
set_option maxHeartbeats 1600000
open Go.RowKit
set_option linter.unusedVariables false
set_option linter.unusedSimpArgs false
theorem over_iff (x m : Nat) (ob : Bool) : ob.toNat < lt01 x m ↔ (ob = false ∧ x < m) := by
 unfold lt01
 cases ob <;> by_cases h : x < m <;> simp [h]
theorem Rest_any (x m : Nat) (ob : Bool) (w : World) (hm : m < 2 ^ 256) (hx : x < 2 ^ 256) (h2 : x + 2 ^ 256 * ob.toNat < 2 * m) :
   Calls Try.prog 6 #[.agg (natsV .u64 (wds 4 x)).toArray, .bool ob, .agg (natsV .u64 (wds 4 m)).toArray] w fun e w' => e = .returned (.agg (natsV .u64 (wds 4 ((x + 2 ^ 256 * ob.toNat) % m))).toArray) ∧ Below w.heap.size w w' := by
 have HL := Hd (fun w => Less_any x m w hx hm)
 have HMI := Hd (fun w => dminus_any x m w hx hm)
 have HY := Hd (fun h => show wds 4 ((x + 2 ^ 256 * ob.toNat) % m) = wds 4 x from by rw [below_yes x m ob.toNat ((over_iff x m ob).2 h)])
 have HN := Hd (fun (h : ¬ (ob = false ∧ x < m)) => below_no x m ob.toNat hm hx h2 (by cases ob <;> decide) (fun h3 => h ((over_iff x m ob).1 h3)))
 have LX := Hd (wds_len 4 x)
 have LM := Hd (wds_len 4 m)
 have LS := Hd (wds_len 4 (x + 2 ^ 256 - m))
 generalize wds 4 (x + 2 ^ 256 - m) = ls at *
 generalize wds 4 ((x + 2 ^ 256 * ob.toNat) % m) = lr at *
 generalize wds 4 x = lx at *
 generalize wds 4 m = lm at *
 have B1 := Hd (((Blk.new w 24 (natsV .u64 lx)).alloc (.cells (natsV .u64 lm).toArray 24)).alloc (.cells (natsV .u64 (zeros 4)).toArray 24))
 have B2 := Hd ((Blk.new2 w (.cells (natsV .u64 lx).toArray 24) 24 (natsV .u64 lm)).alloc (.cells (natsV .u64 (zeros 4)).toArray 24))
 have B3 := Hd (Blk.new3 w (.cells (natsV .u64 lx).toArray 24) (.cells (natsV .u64 lm).toArray 24) 24 (natsV .u64 (zeros 4)))
 clear h2 hm hx
 have BEL := Hd ((((Below.refl w.heap.size w).alloc (Nat.le_refl _) (.cells (natsV .u64 lx).toArray 24)).alloc (by simp) (.cells (natsV .u64 lm).toArray 24)).alloc (by simp; omega) (.cells (natsV .u64 (zeros 4)).toArray 24))
 go_enter Try.func6, Try.ntmps6
 go_wp2_with (first | (refine ld24 rfl (.tmp 3) rfl w.heap.size rfl lx B1.out LX.out ?_) | (refine ld24 rfl (.tmp 5) rfl (w.heap.size + 1) rfl lm B2.out LM.out ?_))
 refine (HL.out _).mono ?_
 rintro e w1 ⟨rfl, hbw1⟩
 have C2 := Hd (B1.out.below' hbw1)
 have C3 := Hd (B2.out.below' hbw1)
 have C4 := Hd (B3.out.below' hbw1)
 have hbel5 := BEL.out.trans (hbw1.mono BEL.out.size)
 clear B1 B2 B3 hbw1
 by_cases hc : ob = false ∧ x < m
 · have HE := HY.out hc
   subst HE
   obtain ⟨rfl, hc2⟩ := hc
   rw [decide_eq_true hc2]
   go_wp2_with (first | (refine ld24 rfl (.tmp 3) rfl w.heap.size rfl lr C2.out LX.out ?_) | (refine st24 rfl (.tmp 6) (.tmp 16) rfl (w.heap.size + 1 + 1) rfl lr rfl LX.out (zeros 4) C4.out rfl ?_))
   refine bodyPost_ret (v := .agg (natsV .u64 lr).toArray) ?_ rfl ⟨rfl, below_setRow' hbel5 (by first | exact Nat.le_refl _ | (simp; done) | (simp; omega) | omega) _⟩
   exact ret24 Try.results6 _ _ (w.heap.size + 1 + 1) lr rfl (C4.out.setRow _) LX.out
 · have HE := HN.out hc
   subst HE
   have hbo : (!ob && decide (x < m)) = false := by
     cases ob
     · simp only [Bool.not_false, Bool.true_and, decide_eq_false_iff_not]; exact fun h => hc ⟨rfl, h⟩
     · rfl
   clear hc HY HN
   generalize decide (x < m) = bl_ at *
   rcases ob with _ | _
   · have hbl : bl_ = false := by simpa using hbo
     subst hbl
     go_wp2_with (first | (refine ld24 rfl (.tmp 3) rfl w.heap.size rfl lx C2.out LX.out ?_) | (refine ld24 rfl (.tmp 5) rfl (w.heap.size + 1) rfl lm C3.out LM.out ?_))
     refine (HMI.out _).mono ?_
     rintro e w6 ⟨rfl, hbw6⟩
     have C7 := Hd (C2.out.below' hbw6)
     have C8 := Hd (C3.out.below' hbw6)
     have C9 := Hd (C4.out.below' hbw6)
     have hbel10 := hbel5.trans (hbw6.mono hbel5.size)
     clear C2 C3 C4 hbw6 hbel5
     go_wp2_with (first | (refine st24 rfl (.tmp 6) (.tmp 19) rfl (w.heap.size + 1 + 1) rfl lr rfl LS.out (zeros 4) C9.out rfl ?_))
     refine bodyPost_ret (v := .agg (natsV .u64 lr).toArray) ?_ rfl ⟨rfl, below_setRow' hbel10 (by first | exact Nat.le_refl _ | (simp; done) | (simp; omega) | omega) _⟩
     exact ret24 Try.results6 _ _ (w.heap.size + 1 + 1) lr rfl (C9.out.setRow _) LS.out
   · go_wp2_with (first | (refine ld24 rfl (.tmp 3) rfl w.heap.size rfl lx C2.out LX.out ?_) | (refine ld24 rfl (.tmp 5) rfl (w.heap.size + 1) rfl lm C3.out LM.out ?_))
     refine (HMI.out _).mono ?_
     rintro e w6 ⟨rfl, hbw6⟩
     have C7 := Hd (C2.out.below' hbw6)
     have C8 := Hd (C3.out.below' hbw6)
     have C9 := Hd (C4.out.below' hbw6)
     have hbel10 := hbel5.trans (hbw6.mono hbel5.size)
     clear C2 C3 C4 hbw6 hbel5
     go_wp2_with (first | (refine st24 rfl (.tmp 6) (.tmp 19) rfl (w.heap.size + 1 + 1) rfl lr rfl LS.out (zeros 4) C9.out rfl ?_))
     refine bodyPost_ret (v := .agg (natsV .u64 lr).toArray) ?_ rfl ⟨rfl, below_setRow' hbel10 (by first | exact Nat.le_refl _ | (simp; done) | (simp; omega) | omega) _⟩
     exact ret24 Try.results6 _ _ (w.heap.size + 1 + 1) lr rfl (C9.out.setRow _) LS.out
theorem DAdd_any (a b m : Nat) (w : World) (hm : m < 2 ^ 256) (ha : a < m) (hb : b < m) :
   Calls Try.prog 10 #[.agg (natsV .u64 (wds 4 a)).toArray, .agg (natsV .u64 (wds 4 b)).toArray, .agg (natsV .u64 (wds 4 m)).toArray] w fun e w' => e = .returned (.agg (natsV .u64 (wds 4 ((a + b) % m))).toArray) ∧ Below w.heap.size w w' := by
 have HS := Hd (fun w => dsum_any a b w (by omega) (by omega))
 have hle : addC a b ≤ 1 := by unfold addC; omega
 have hdm : (a + b) % 2 ^ 256 + 2 ^ 256 * (decide (addC a b = 1)).toNat = a + b := by
   have h1 : (a + b) % 2 ^ 256 + 2 ^ 256 * addC a b = a + b := Nat.mod_add_div _ _
   have h3 : (decide (addC a b = 1)).toNat = addC a b := by
     rcases Nat.lt_or_ge (addC a b) 1 with h0 | h0
     · rw [show addC a b = 0 by omega]; rfl
     · rw [show addC a b = 1 by omega]; rfl
   rw [h3]; exact h1
 have HR := Hd (fun w => Rest_any ((a + b) % 2 ^ 256) m (decide (addC a b = 1)) w hm (Nat.mod_lt _ (Nat.two_pow_pos 256)) (by rw [hdm]; omega))
 rw [hdm, show wds 4 ((a + b) % 2 ^ 256) = wds 4 (a + b) from wds_mod 4 4 _ (Nat.le_refl _)] at HR
 have LS := Hd (wds_len 4 (a + b))
 have LR := Hd (wds_len 4 ((a + b) % m))
 have LA := Hd (wds_len 4 a)
 have LB := Hd (wds_len 4 b)
 have LM := Hd (wds_len 4 m)
 generalize wds 4 (a + b) = ls at *
 generalize wds 4 ((a + b) % m) = lr at *
 generalize wds 4 a = la at *
 generalize wds 4 b = lb at *
 generalize wds 4 m = lm at *
 generalize decide (addC a b = 1) = ob at *
 have B1 := Hd ((((Blk.new w 24 (natsV .u64 la)).alloc (.cells (natsV .u64 lb).toArray 24)).alloc (.cells (natsV .u64 lm).toArray 24)).alloc (.cells (natsV .u64 (zeros 4)).toArray 24))
 have B2 := Hd (((Blk.new2 w (.cells (natsV .u64 la).toArray 24) 24 (natsV .u64 lb)).alloc (.cells (natsV .u64 lm).toArray 24)).alloc (.cells (natsV .u64 (zeros 4)).toArray 24))
 have B3 := Hd ((Blk.new3 w (.cells (natsV .u64 la).toArray 24) (.cells (natsV .u64 lb).toArray 24) 24 (natsV .u64 lm)).alloc (.cells (natsV .u64 (zeros 4)).toArray 24))
 have B4 := Hd (Blk.new4 w (.cells (natsV .u64 la).toArray 24) (.cells (natsV .u64 lb).toArray 24) (.cells (natsV .u64 lm).toArray 24) 24 (natsV .u64 (zeros 4)))
 clear hm ha hb hle hdm
 have BEL := Hd (((((Below.refl w.heap.size w).alloc (Nat.le_refl _) (.cells (natsV .u64 la).toArray 24)).alloc (by simp) (.cells (natsV .u64 lb).toArray 24)).alloc (by simp; omega) (.cells (natsV .u64 lm).toArray 24)).alloc (by simp; omega) (.cells (natsV .u64 (zeros 4)).toArray 24))
 go_enter Try.func10, Try.ntmps10
 go_wp2_with (first | (refine ld24 rfl (.tmp 3) rfl w.heap.size rfl la B1.out LA.out ?_) | (refine ld24 rfl (.tmp 4) rfl (w.heap.size + 1) rfl lb B2.out LB.out ?_))
 refine (HS.out _).mono ?_
 rintro e w1 ⟨rfl, hbw1⟩
 have C2 := Hd (B1.out.below' hbw1)
 have C3 := Hd (B2.out.below' hbw1)
 have C4 := Hd (B3.out.below' hbw1)
 have C5 := Hd (B4.out.below' hbw1)
 have hbel6 := BEL.out.trans (hbw1.mono BEL.out.size)
 have Z8 := Hd (Blk.new w1 24 (natsV .u64 (zeros 4)))
 have hz9 := Hd (below_setRow' (hbel6.alloc hbel6.size (.cells (natsV .u64 (zeros 4)).toArray 24)) hbel6.size (natsV .u64 ls).toArray)
 have Y10 := Hd ((C4.out.alloc (.cells (natsV .u64 (zeros 4)).toArray 24)).row (natsV .u64 ls).toArray (Nat.ne_of_lt C4.out.lt))
 have Y11 := Hd ((C5.out.alloc (.cells (natsV .u64 (zeros 4)).toArray 24)).row (natsV .u64 ls).toArray (Nat.ne_of_lt C5.out.lt))
 have Y12 := Hd (Z8.out.setRow (natsV .u64 ls))
 clear B1 B2 B3 B4 hbw1 C2 C3
 go_wp2_with (first | (refine st24 rfl (.tmp 7) (.tmp 13) rfl w1.heap.size rfl ls rfl LS.out (zeros 4) Z8.out rfl ?_; generalize hW : World.setRow _ _ _ = w7; have D14 := Hd (show Blk w7 (w.heap.size + 1 + 1) 24 (natsV .u64 lm) from (by rw [← hW]; exact Y10.out)); have D15 := Hd (show Blk w7 (w.heap.size + 1 + 1 + 1) 24 (natsV .u64 (zeros 4)) from (by rw [← hW]; exact Y11.out)); have D16 := Hd (show Blk w7 w1.heap.size 24 (natsV .u64 ls) from (by rw [← hW]; exact Y12.out)); have LE_D16 := (hbel6).size; have NE_D15 := Nat.ne_of_lt C5.out.lt; have hbel17 : Below w.heap.size w w7 := (by rw [← hW]; exact hz9.out); clear hW Z8 hz9 C4 C5 Y10 Y11 Y12 hbel6; generalize w1.heap.size = G13 at *) | (refine ld24 rfl (.tmp 7) rfl G13 rfl ls D16.out LS.out ?_) | (refine ld24 rfl (.tmp 5) rfl (w.heap.size + 1 + 1) rfl lm D14.out LM.out ?_))
 refine (HR.out _).mono ?_
 rintro e w18 ⟨rfl, hbw18⟩
 have C19 := Hd (D14.out.below' hbw18)
 have C20 := Hd (D15.out.below' hbw18)
 have C21 := Hd (D16.out.below' hbw18)
 have hbel22 := hbel17.trans (hbw18.mono hbel17.size)
 clear D14 D15 D16 hbw18 hbel17
 go_wp2_with (first | (refine st24 rfl (.tmp 6) (.tmp 18) rfl (w.heap.size + 1 + 1 + 1) rfl lr rfl LR.out (zeros 4) C20.out rfl ?_))
 refine bodyPost_ret (v := .agg (natsV .u64 lr).toArray) ?_ rfl ⟨rfl, below_setRow' hbel22 (by first | exact Nat.le_refl _ | (simp; done) | (simp; omega) | omega) _⟩
 exact ret24 Try.results10 _ _ (w.heap.size + 1 + 1 + 1) lr rfl (C20.out.setRow _) LR.out
theorem DSub_any (a b m : Nat) (w : World) (hm : m < 2 ^ 256) (ha : a < m) (hb : b < m) :
   Calls Try.prog 15 #[.agg (natsV .u64 (wds 4 a)).toArray, .agg (natsV .u64 (wds 4 b)).toArray, .agg (natsV .u64 (wds 4 m)).toArray] w fun e w' => e = .returned (.agg (natsV .u64 (wds 4 ((a + m - b) % m))).toArray) ∧ Below w.heap.size w w' := by
 have HL := Hd (fun w => Less_any a b w (by omega) (by omega))
 have HMI := Hd (fun w => dminus_any a b w (by omega) (by omega))
 have HS := Hd (fun (h : a < b) w => dsum_any (a + 2 ^ 256 - b) m w (by omega) hm)
 have HN := Hd (minus_no a b m ha hb hm)
 have HY := Hd (minus_yes a b m ha hb hm)
 have LS := Hd (wds_len 4 (a + 2 ^ 256 - b))
 have LT := Hd (wds_len 4 (a + 2 ^ 256 - b + m))
 have LA := Hd (wds_len 4 a)
 have LB := Hd (wds_len 4 b)
 have LM := Hd (wds_len 4 m)
 generalize wds 4 (a + 2 ^ 256 - b + m) = lt at *
 generalize wds 4 ((a + m - b) % m) = lr at *
 generalize decide (addC (a + 2 ^ 256 - b) m = 1) = cy at *
 generalize wds 4 (a + 2 ^ 256 - b) = ls at *
 generalize wds 4 a = la at *
 generalize wds 4 b = lb at *
 generalize wds 4 m = lm at *
 have B1 := Hd ((((Blk.new w 24 (natsV .u64 la)).alloc (.cells (natsV .u64 lb).toArray 24)).alloc (.cells (natsV .u64 lm).toArray 24)).alloc (.cells (natsV .u64 (zeros 4)).toArray 24))
 have B2 := Hd (((Blk.new2 w (.cells (natsV .u64 la).toArray 24) 24 (natsV .u64 lb)).alloc (.cells (natsV .u64 lm).toArray 24)).alloc (.cells (natsV .u64 (zeros 4)).toArray 24))
 have B3 := Hd ((Blk.new3 w (.cells (natsV .u64 la).toArray 24) (.cells (natsV .u64 lb).toArray 24) 24 (natsV .u64 lm)).alloc (.cells (natsV .u64 (zeros 4)).toArray 24))
 have B4 := Hd (Blk.new4 w (.cells (natsV .u64 la).toArray 24) (.cells (natsV .u64 lb).toArray 24) (.cells (natsV .u64 lm).toArray 24) 24 (natsV .u64 (zeros 4)))
 clear hm ha hb
 have BEL := Hd (((((Below.refl w.heap.size w).alloc (Nat.le_refl _) (.cells (natsV .u64 la).toArray 24)).alloc (by simp) (.cells (natsV .u64 lb).toArray 24)).alloc (by simp; omega) (.cells (natsV .u64 lm).toArray 24)).alloc (by simp; omega) (.cells (natsV .u64 (zeros 4)).toArray 24))
 go_enter Try.func15, Try.ntmps15
 go_wp2_with (first | (refine ld24 rfl (.tmp 3) rfl w.heap.size rfl la B1.out LA.out ?_) | (refine ld24 rfl (.tmp 4) rfl (w.heap.size + 1) rfl lb B2.out LB.out ?_))
 refine (HL.out _).mono ?_
 rintro e w1 ⟨rfl, hbw1⟩
 have C2 := Hd (B1.out.below' hbw1)
 have C3 := Hd (B2.out.below' hbw1)
 have C4 := Hd (B3.out.below' hbw1)
 have C5 := Hd (B4.out.below' hbw1)
 have hbel6 := BEL.out.trans (hbw1.mono BEL.out.size)
 clear B1 B2 B3 B4 hbw1
 go_wp2_with (first | (refine ld24 rfl (.tmp 3) rfl w.heap.size rfl la C2.out LA.out ?_) | (refine ld24 rfl (.tmp 4) rfl (w.heap.size + 1) rfl lb C3.out LB.out ?_))
 refine (HMI.out _).mono ?_
 rintro e w7 ⟨rfl, hbw7⟩
 have C8 := Hd (C2.out.below' hbw7)
 have C9 := Hd (C3.out.below' hbw7)
 have C10 := Hd (C4.out.below' hbw7)
 have C11 := Hd (C5.out.below' hbw7)
 have hbel12 := hbel6.trans (hbw7.mono hbel6.size)
 have Z14 := Hd (Blk.new w7 24 (natsV .u64 (zeros 4)))
 have hz15 := Hd (below_setRow' (hbel12.alloc hbel12.size (.cells (natsV .u64 (zeros 4)).toArray 24)) hbel12.size (natsV .u64 ls).toArray)
 have Y16 := Hd ((C10.out.alloc (.cells (natsV .u64 (zeros 4)).toArray 24)).row (natsV .u64 ls).toArray (Nat.ne_of_lt C10.out.lt))
 have Y17 := Hd ((C11.out.alloc (.cells (natsV .u64 (zeros 4)).toArray 24)).row (natsV .u64 ls).toArray (Nat.ne_of_lt C11.out.lt))
 have Y18 := Hd (Z14.out.setRow (natsV .u64 ls))
 clear C2 C3 C4 C5 hbw7 hbel6 C8 C9
 by_cases hc : a < b
 · have HE := HY.out hc
   subst HE
   rw [decide_eq_true hc]
   go_wp2_with (first | (refine st24 rfl (.tmp 8) (.tmp 16) rfl w7.heap.size rfl ls rfl LS.out (zeros 4) Z14.out rfl ?_; generalize hW : World.setRow _ _ _ = w13; have D20 := Hd (show Blk w13 (w.heap.size + 1 + 1) 24 (natsV .u64 lm) from (by rw [← hW]; exact Y16.out)); have D21 := Hd (show Blk w13 (w.heap.size + 1 + 1 + 1) 24 (natsV .u64 (zeros 4)) from (by rw [← hW]; exact Y17.out)); have D22 := Hd (show Blk w13 w7.heap.size 24 (natsV .u64 ls) from (by rw [← hW]; exact Y18.out)); have LE_D22 := (hbel12).size; have NE_D21 := Nat.ne_of_lt C11.out.lt; have hbel23 : Below w.heap.size w w13 := (by rw [← hW]; exact hz15.out); clear hW Z14 hz15 C10 C11 Y16 Y17 Y18 hbel12; generalize w7.heap.size = G19 at *) | (refine ld24 rfl (.tmp 8) rfl G19 rfl ls D22.out LS.out ?_) | (refine ld24 rfl (.tmp 5) rfl (w.heap.size + 1 + 1) rfl lm D20.out LM.out ?_))
   refine (HS.out hc _).mono ?_
   rintro e w24 ⟨rfl, hbw24⟩
   have C25 := Hd (D20.out.below' hbw24)
   have C26 := Hd (D21.out.below' hbw24)
   have C27 := Hd (D22.out.below' hbw24)
   have hbel28 := hbel23.trans (hbw24.mono hbel23.size)
   have Z30 := Hd (Blk.new w24 24 (natsV .u64 (zeros 4)))
   have hz31 := Hd (below_setRow' (hbel28.alloc hbel28.size (.cells (natsV .u64 (zeros 4)).toArray 24)) hbel28.size (natsV .u64 lr).toArray)
   have Y32 := Hd ((C25.out.alloc (.cells (natsV .u64 (zeros 4)).toArray 24)).row (natsV .u64 lr).toArray (Nat.ne_of_lt C25.out.lt))
   have Y33 := Hd ((C26.out.alloc (.cells (natsV .u64 (zeros 4)).toArray 24)).row (natsV .u64 lr).toArray (Nat.ne_of_lt C26.out.lt))
   have Y34 := Hd ((C27.out.alloc (.cells (natsV .u64 (zeros 4)).toArray 24)).row (natsV .u64 lr).toArray (Nat.ne_of_lt C27.out.lt))
   have Y35 := Hd (Z30.out.setRow (natsV .u64 lr))
   clear D20 D21 D22 hbw24 hbel23
   go_wp2_with (first | (refine st24 rfl (.tmp 9) (.tmp 22) rfl w24.heap.size rfl lr rfl LT.out (zeros 4) Z30.out rfl ?_; generalize hW : World.setRow _ _ _ = w29; have D37 := Hd (show Blk w29 (w.heap.size + 1 + 1) 24 (natsV .u64 lm) from (by rw [← hW]; exact Y32.out)); have D38 := Hd (show Blk w29 (w.heap.size + 1 + 1 + 1) 24 (natsV .u64 (zeros 4)) from (by rw [← hW]; exact Y33.out)); have D39 := Hd (show Blk w29 G19 24 (natsV .u64 ls) from (by rw [← hW]; exact Y34.out)); have D40 := Hd (show Blk w29 w24.heap.size 24 (natsV .u64 lr) from (by rw [← hW]; exact Y35.out)); have LE_D40 := (hbel28).size; have NE_D39 := Nat.ne_of_lt C27.out.lt; have hbel41 : Below w.heap.size w w29 := (by rw [← hW]; exact hz31.out); clear hW Z30 hz31 C25 C26 C27 Y32 Y33 Y34 Y35 hbel28; generalize w24.heap.size = G36 at *) | (refine ld24 rfl (.tmp 9) rfl G36 rfl lr D40.out LT.out ?_) | (refine st24 rfl (.tmp 6) (.tmp 24) rfl (w.heap.size + 1 + 1 + 1) rfl lr rfl LT.out (zeros 4) D38.out rfl ?_))
   refine bodyPost_ret (v := .agg (natsV .u64 lr).toArray) ?_ rfl ⟨rfl, below_setRow' hbel41 (by first | exact Nat.le_refl _ | (simp; done) | (simp; omega) | omega) _⟩
   exact ret24 Try.results15 _ _ (w.heap.size + 1 + 1 + 1) lr rfl (D38.out.setRow _) LT.out
 · have HE := HN.out hc
   subst HE
   rw [decide_eq_false hc]
   go_wp2_with (first | (refine st24 rfl (.tmp 8) (.tmp 16) rfl w7.heap.size rfl lr rfl LS.out (zeros 4) Z14.out rfl ?_; generalize hW : World.setRow _ _ _ = w13; have D20 := Hd (show Blk w13 (w.heap.size + 1 + 1) 24 (natsV .u64 lm) from (by rw [← hW]; exact Y16.out)); have D21 := Hd (show Blk w13 (w.heap.size + 1 + 1 + 1) 24 (natsV .u64 (zeros 4)) from (by rw [← hW]; exact Y17.out)); have D22 := Hd (show Blk w13 w7.heap.size 24 (natsV .u64 lr) from (by rw [← hW]; exact Y18.out)); have LE_D22 := (hbel12).size; have NE_D21 := Nat.ne_of_lt C11.out.lt; have hbel23 : Below w.heap.size w w13 := (by rw [← hW]; exact hz15.out); clear hW Z14 hz15 C10 C11 Y16 Y17 Y18 hbel12; generalize w7.heap.size = G19 at *) | (refine ld24 rfl (.tmp 8) rfl G19 rfl lr D22.out LS.out ?_) | (refine st24 rfl (.tmp 6) (.tmp 25) rfl (w.heap.size + 1 + 1 + 1) rfl lr rfl LS.out (zeros 4) D21.out rfl ?_))
   refine bodyPost_ret (v := .agg (natsV .u64 lr).toArray) ?_ rfl ⟨rfl, below_setRow' hbel23 (by first | exact Nat.le_refl _ | (simp; done) | (simp; omega) | omega) _⟩
   exact ret24 Try.results15 _ _ (w.heap.size + 1 + 1 + 1) lr rfl (D21.out.setRow _) LS.out
theorem litn_lN : (.agg #[.int .u64 17562291160714782033, .int .u64 13611842547513532036, .int .u64 18446744073709551615, .int .u64 18446744069414584320] : Value) = .agg (natsV .u64 lN).toArray := by simp [lN, natsV]
theorem DN_any (w : World) : Calls Try.prog 5 #[] w fun e w' => e = .returned (.agg (natsV .u64 (wds 4 mN)).toArray) ∧ Below w.heap.size w w' := by
 rw [wds_N]
 have B1 := Hd (Blk.new w 24 (natsV .u64 (zeros 4)))
 have BEL := Hd ((Below.refl w.heap.size w).alloc (Nat.le_refl _) (.cells (natsV .u64 (zeros 4)).toArray 24))
 go_enter Try.func5, Try.ntmps5
 go_wp2_with (first | (refine st24 rfl (.tmp 0) (.tmp 1) rfl w.heap.size rfl lN litn_lN rfl (zeros 4) B1.out rfl ?_))
 refine bodyPost_ret (v := .agg (natsV .u64 lN).toArray) ?_ rfl ⟨rfl, below_setRow' BEL.out (by first | exact Nat.le_refl _ | (simp; done) | (simp; omega) | omega) _⟩
 exact ret24 Try.results5 _ _ w.heap.size lN rfl (B1.out.setRow _) rfl
theorem infosc : (Try.prog.info? 60).map (·.size) = some 4 := by kernel_rfl
theorem isc {l : List Nat} (h : l.length = 4) : (Try.prog.info? 60).map (·.size) = some (natsV .u64 l).length := by rw [infosc, natsV_length, h]
theorem allocsc (w : World) : (Instr.alloc 60 true (.tuple #[])).run Try.prog w = .ok (.pointer (some ⟨w.heap.size, 0, none⟩)) (w.alloc (.cells (natsV .u64 (zeros 4)).toArray 60)) := by go_simp; rfl
theorem wscalar {la lc : List Nat} (w : World) (hla : la.length = 4) (hlc : lc.length = 4)
   (c1 : Ans 26 #[.int .i64 2, .agg (natsV .u64 la).toArray] (.tuple #[.agg (natsV .u64 lc).toArray, .int .i64 0])) :
   Calls Try.prog 33 #[.agg (natsV .u64 la).toArray] w fun e w' => e = .returned (.agg (natsV .u64 lc).toArray) ∧ Below w.heap.size w w' := by
 have L_la := Hd hla
 have L_lc := Hd hlc
 have Hc1 := Hd c1
 have B0_ := Hd ((Blk.new w  24 (natsV .u64 la)).alloc (.cells (natsV .u64 (zeros 4)).toArray 60))
 have B1_ := Hd (Blk.new2 w (.cells (natsV .u64 la).toArray 24) 60 (natsV .u64 (zeros 4)))
 have bel_ := (((Below.refl w.heap.size w).alloc (Nat.le_refl _) (.cells (natsV .u64 la).toArray 24)).alloc (by simp) (.cells (natsV .u64 (zeros 4)).toArray 60))
 clear hla hlc c1
 go_enter Try.func33, Try.ntmps33
 go_wp2_with (first | (refine lm' (blk_all (B0_.out)) Try.underlying24 (i24 L_la.out) ?_))
 refine (Hc1.out _).mono ?_
 rintro e w1 ⟨rfl, hbw1⟩
 have C2 := gq' B0_ hbw1
 have C3 := gq' B1_ hbw1
 have hbel4 := bel_.trans (Below.mono hbw1 bel_.size)
 clear B0_ B1_ bel_ hbw1
 go_wp2_with (first | (refine stN rfl 24 (.tmp 3) (.tmp 8) rfl w1 rfl (natsV .u64 lc) rfl 24 (natsV .u64 (zeros 4)) (i24 L_lc.out) (lz4 L_lc.out) n1' ?_; intro w5 hgw5 hnw5; have C8 := gq' C2 hgw5; clear C2; have C9 := gq' C3 hgw5; clear C3; have hbel10 := hbel4.trans (Below.mono hgw5 hbel4.size); clear hbel4; have D7 := Hd hnw5; clear hnw5 hgw5; generalize w1.heap.size = G6 at *) | (refine lm' (blk_all (D7.out)) Try.underlying24 (i24 L_lc.out) ?_) | (refine stB rfl 60 (.tmp 2) (.tmp 10) rfl (w.heap.size + 1) rfl (natsV .u64 lc) rfl 60 (natsV .u64 (zeros 4)) C9.out (isc L_lc.out) (lz4 L_lc.out) n1' ?_))
 refine bodyPost_ret (v := .agg (natsV .u64 lc).toArray) ?_ rfl ⟨rfl, below_setRow' hbel10 (by first | exact Nat.le_refl _ | omega) _⟩
 exact results_cell_row Try.results33 _ _ (w.heap.size + 1) 60 _ (0, 0) _ rfl (C9.out.setRow _) Try.underlying60 rfl (by simpa using (isc L_lc.out))
theorem winv {la lc : List Nat} (w : World) (hla : la.length = 4) (hlc : lc.length = 4)
   (c1 : Ans 29 #[.int .i64 2, .agg (natsV .u64 la).toArray] (.tuple #[.agg (natsV .u64 lc).toArray, .int .i64 0])) :
   Calls Try.prog 34 #[.agg (natsV .u64 la).toArray] w fun e w' => e = .returned (.agg (natsV .u64 lc).toArray) ∧ Below w.heap.size w w' := by
 have L_la := Hd hla
 have L_lc := Hd hlc
 have Hc1 := Hd c1
 have B0_ := Hd ((Blk.new w  60 (natsV .u64 la)).alloc (.cells (natsV .u64 (zeros 4)).toArray 60))
 have B1_ := Hd (Blk.new2 w (.cells (natsV .u64 la).toArray 60) 60 (natsV .u64 (zeros 4)))
 have bel_ := (((Below.refl w.heap.size w).alloc (Nat.le_refl _) (.cells (natsV .u64 la).toArray 60)).alloc (by simp) (.cells (natsV .u64 (zeros 4)).toArray 60))
 clear hla hlc c1
 go_enter Try.func34, Try.ntmps34
 go_wp2_with (first | (refine lm' (blk_all (B0_.out)) Try.underlying60 (isc L_la.out) ?_))
 refine (Hc1.out _).mono ?_
 rintro e w1 ⟨rfl, hbw1⟩
 have C2 := gq' B0_ hbw1
 have C3 := gq' B1_ hbw1
 have hbel4 := bel_.trans (Below.mono hbw1 bel_.size)
 clear B0_ B1_ bel_ hbw1
 go_wp2_with (first | (refine stN rfl 24 (.tmp 3) (.tmp 8) rfl w1 rfl (natsV .u64 lc) rfl 24 (natsV .u64 (zeros 4)) (i24 L_lc.out) (lz4 L_lc.out) n1' ?_; intro w5 hgw5 hnw5; have C8 := gq' C2 hgw5; clear C2; have C9 := gq' C3 hgw5; clear C3; have hbel10 := hbel4.trans (Below.mono hgw5 hbel4.size); clear hbel4; have D7 := Hd hnw5; clear hnw5 hgw5; generalize w1.heap.size = G6 at *) | (refine lm' (blk_all (D7.out)) Try.underlying24 (i24 L_lc.out) ?_) | (refine stB rfl 60 (.tmp 2) (.tmp 10) rfl (w.heap.size + 1) rfl (natsV .u64 lc) rfl 60 (natsV .u64 (zeros 4)) C9.out (isc L_lc.out) (lz4 L_lc.out) n1' ?_))
 refine bodyPost_ret (v := .agg (natsV .u64 lc).toArray) ?_ rfl ⟨rfl, below_setRow' hbel10 (by first | exact Nat.le_refl _ | omega) _⟩
 exact results_cell_row Try.results34 _ _ (w.heap.size + 1) 60 _ (0, 0) _ rfl (C9.out.setRow _) Try.underlying60 rfl (by simpa using (isc L_lc.out))
theorem wnum {la lc : List Nat} (w : World) (hla : la.length = 4) (hlc : lc.length = 4)
   (c1 : Ans 28 #[.int .i64 2, .agg (natsV .u64 la).toArray] (.tuple #[.agg (natsV .u64 lc).toArray, .int .i64 0])) :
   Calls Try.prog 36 #[.agg (natsV .u64 la).toArray] w fun e w' => e = .returned (.agg (natsV .u64 lc).toArray) ∧ Below w.heap.size w w' := by
 have L_la := Hd hla
 have L_lc := Hd hlc
 have Hc1 := Hd c1
 have B0_ := Hd ((Blk.new w  60 (natsV .u64 la)).alloc (.cells (natsV .u64 (zeros 4)).toArray 24))
 have B1_ := Hd (Blk.new2 w (.cells (natsV .u64 la).toArray 60) 24 (natsV .u64 (zeros 4)))
 have bel_ := (((Below.refl w.heap.size w).alloc (Nat.le_refl _) (.cells (natsV .u64 la).toArray 60)).alloc (by simp) (.cells (natsV .u64 (zeros 4)).toArray 24))
 clear hla hlc c1
 go_enter Try.func36, Try.ntmps36
 go_wp2_with (first | (refine lm' (blk_all (B0_.out)) Try.underlying60 (isc L_la.out) ?_))
 refine (Hc1.out _).mono ?_
 rintro e w1 ⟨rfl, hbw1⟩
 have C2 := gq' B0_ hbw1
 have C3 := gq' B1_ hbw1
 have hbel4 := bel_.trans (Below.mono hbw1 bel_.size)
 clear B0_ B1_ bel_ hbw1
 go_wp2_with (first | (refine stN rfl 24 (.tmp 3) (.tmp 8) rfl w1 rfl (natsV .u64 lc) rfl 24 (natsV .u64 (zeros 4)) (i24 L_lc.out) (lz4 L_lc.out) n1' ?_; intro w5 hgw5 hnw5; have C8 := gq' C2 hgw5; clear C2; have C9 := gq' C3 hgw5; clear C3; have hbel10 := hbel4.trans (Below.mono hgw5 hbel4.size); clear hbel4; have D7 := Hd hnw5; clear hnw5 hgw5; generalize w1.heap.size = G6 at *) | (refine lm' (blk_all (D7.out)) Try.underlying24 (i24 L_lc.out) ?_) | (refine stB rfl 24 (.tmp 2) (.tmp 10) rfl (w.heap.size + 1) rfl (natsV .u64 lc) rfl 24 (natsV .u64 (zeros 4)) C9.out (i24 L_lc.out) (lz4 L_lc.out) n1' ?_))
 refine bodyPost_ret (v := .agg (natsV .u64 lc).toArray) ?_ rfl ⟨rfl, below_setRow' hbel10 (by first | exact Nat.le_refl _ | omega) _⟩
 exact results_cell_row Try.results36 _ _ (w.heap.size + 1) 24 _ (0, 0) _ rfl (C9.out.setRow _) Try.underlying24 rfl (by simpa using (i24 L_lc.out))
theorem wtimes {la lb lc : List Nat} (w : World) (hla : la.length = 4) (hlb : lb.length = 4) (hlc : lc.length = 4)
   (c1 : Ans 27 #[.int .i64 2, .agg (natsV .u64 la).toArray, .agg (natsV .u64 lb).toArray] (.tuple #[.agg (natsV .u64 lc).toArray, .int .i64 0])) :
   Calls Try.prog 35 #[.agg (natsV .u64 la).toArray, .agg (natsV .u64 lb).toArray] w fun e w' => e = .returned (.agg (natsV .u64 lc).toArray) ∧ Below w.heap.size w w' := by
 have L_la := Hd hla
 have L_lb := Hd hlb
 have L_lc := Hd hlc
 have Hc1 := Hd c1
 have B0_ := Hd (((Blk.new w  60 (natsV .u64 la)).alloc (.cells (natsV .u64 lb).toArray 60)).alloc (.cells (natsV .u64 (zeros 4)).toArray 60))
 have B1_ := Hd ((Blk.new2 w (.cells (natsV .u64 la).toArray 60) 60 (natsV .u64 lb)).alloc (.cells (natsV .u64 (zeros 4)).toArray 60))
 have B2_ := Hd (Blk.new3 w (.cells (natsV .u64 la).toArray 60) (.cells (natsV .u64 lb).toArray 60) 60 (natsV .u64 (zeros 4)))
 clear hla hlb hlc c1
 have bel_ := ((((Below.refl w.heap.size w).alloc (Nat.le_refl _) (.cells (natsV .u64 la).toArray 60)).alloc (by simp) (.cells (natsV .u64 lb).toArray 60)).alloc (by simp; omega) (.cells (natsV .u64 (zeros 4)).toArray 60))
 go_enter Try.func35, Try.ntmps35
 go_wp2_with (first | (refine lm' (blk_all (B0_.out)) Try.underlying60 (isc L_la.out) ?_) | (refine lm' (blk_all (B1_.out)) Try.underlying60 (isc L_lb.out) ?_))
 refine (Hc1.out _).mono ?_
 rintro e w1 ⟨rfl, hbw1⟩
 have C2 := gq' B0_ hbw1
 have C3 := gq' B1_ hbw1
 have C4 := gq' B2_ hbw1
 have hbel5 := bel_.trans (Below.mono hbw1 bel_.size)
 clear B0_ B1_ B2_ bel_ hbw1
 go_wp2_with (first | (refine stN rfl 24 (.tmp 5) (.tmp 11) rfl w1 rfl (natsV .u64 lc) rfl 24 (natsV .u64 (zeros 4)) (i24 L_lc.out) (lz4 L_lc.out) n1' ?_; intro w6 hgw6 hnw6; have C9 := gq' C2 hgw6; clear C2; have C10 := gq' C3 hgw6; clear C3; have C11 := gq' C4 hgw6; clear C4; have hbel12 := hbel5.trans (Below.mono hgw6 hbel5.size); clear hbel5; have D8 := Hd hnw6; clear hnw6 hgw6; generalize w1.heap.size = G7 at *) | (refine lm' (blk_all (D8.out)) Try.underlying24 (i24 L_lc.out) ?_) | (refine stB rfl 60 (.tmp 4) (.tmp 13) rfl (w.heap.size + 1 + 1) rfl (natsV .u64 lc) rfl 60 (natsV .u64 (zeros 4)) C11.out (isc L_lc.out) (lz4 L_lc.out) n1' ?_))
 refine bodyPost_ret (v := .agg (natsV .u64 lc).toArray) ?_ rfl ⟨rfl, below_setRow' hbel12 (by first | exact Nat.le_refl _ | omega) _⟩
 exact results_cell_row Try.results35 _ _ (w.heap.size + 1 + 1) 60 _ (0, 0) _ rfl (C11.out.setRow _) Try.underlying60 rfl (by simpa using (isc L_lc.out))
theorem wmodN0 {la ln ls : List Nat} (w : World) (hla : la.length = 4) (hln : ln.length = 4) (hls : ls.length = 4)
   (c1 : Ans 46 #[.int .i64 2] (.tuple #[.agg (natsV .u64 ln).toArray, .int .i64 0]))
   (c2 : Ans 47 #[.agg (natsV .u64 la).toArray, .agg (natsV .u64 ln).toArray] (.tuple #[.agg (natsV .u64 ls).toArray, .int .i64 0])) :
   Calls Try.prog 24 #[.agg (natsV .u64 la).toArray] w fun e w' => e = .returned (.agg (natsV .u64 ls).toArray) ∧ Below w.heap.size w w' := by
 have L_la := Hd hla
 have L_ln := Hd hln
 have L_ls := Hd hls
 have Hc1 := Hd c1
 have Hc2 := Hd c2
 have B0_ := Hd ((Blk.new w  24 (natsV .u64 la)).alloc (.cells (natsV .u64 (zeros 4)).toArray 24))
 have B1_ := Hd (Blk.new2 w (.cells (natsV .u64 la).toArray 24) 24 (natsV .u64 (zeros 4)))
 have bel_ := (((Below.refl w.heap.size w).alloc (Nat.le_refl _) (.cells (natsV .u64 la).toArray 24)).alloc (by simp) (.cells (natsV .u64 (zeros 4)).toArray 24))
 clear hla hln hls c1 c2
 go_enter Try.func24, Try.ntmps24
 go_wp2_with fail
 refine (Hc1.out _).mono ?_
 rintro e w1 ⟨rfl, hbw1⟩
 have C2 := gq' B0_ hbw1
 have C3 := gq' B1_ hbw1
 have hbel4 := bel_.trans (Below.mono hbw1 bel_.size)
 clear B0_ B1_ bel_ hbw1
 go_wp2_with (first | (refine stN rfl 24 (.tmp 3) (.tmp 9) rfl w1 rfl (natsV .u64 ln) rfl 24 (natsV .u64 (zeros 4)) (i24 L_ln.out) (lz4 L_ln.out) n1' ?_; intro w5 hgw5 hnw5; have C8 := gq' C2 hgw5; clear C2; have C9 := gq' C3 hgw5; clear C3; have hbel10 := hbel4.trans (Below.mono hgw5 hbel4.size); clear hbel4; have D7 := Hd hnw5; clear hnw5 hgw5; generalize w1.heap.size = G6 at *) | (refine lm' (blk_all (C8.out)) Try.underlying24 (i24 L_la.out) ?_) | (refine lm' (blk_all (D7.out)) Try.underlying24 (i24 L_ln.out) ?_))
 refine (Hc2.out _).mono ?_
 rintro e w11 ⟨rfl, hbw11⟩
 have C12 := gq' C8 hbw11
 have C13 := gq' C9 hbw11
 have C14 := gq' D7 hbw11
 have hbel15 := hbel10.trans (Below.mono hbw11 hbel10.size)
 clear C8 C9 D7 hbel10 hbw11
 go_wp2_with (first | (refine stN rfl 24 (.tmp 5) (.tmp 15) rfl w11 rfl (natsV .u64 ls) rfl 24 (natsV .u64 (zeros 4)) (i24 L_ls.out) (lz4 L_ls.out) n1' ?_; intro w16 hgw16 hnw16; have C19 := gq' C12 hgw16; clear C12; have C20 := gq' C13 hgw16; clear C13; have C21 := gq' C14 hgw16; clear C14; have hbel22 := hbel15.trans (Below.mono hgw16 hbel15.size); clear hbel15; have D18 := Hd hnw16; clear hnw16 hgw16; generalize w11.heap.size = G17 at *) | (refine lm' (blk_all (D18.out)) Try.underlying24 (i24 L_ls.out) ?_) | (refine stB rfl 24 (.tmp 2) (.tmp 20) rfl (w.heap.size + 1) rfl (natsV .u64 ls) rfl 24 (natsV .u64 (zeros 4)) C20.out (i24 L_ls.out) (lz4 L_ls.out) n1' ?_))
 refine bodyPost_ret (v := .agg (natsV .u64 ls).toArray) ?_ rfl ⟨rfl, below_setRow' hbel22 (by first | exact Nat.le_refl _ | omega) _⟩
 exact results_cell_row Try.results24 _ _ (w.heap.size + 1) 24 _ (0, 0) _ rfl (C20.out.setRow _) Try.underlying24 rfl (by simpa using (i24 L_ls.out))
theorem wmodN1 {la ln ls : List Nat} (w : World) (hla : la.length = 4) (hln : ln.length = 4) (hls : ls.length = 4)
   (c1 : Ans 46 #[.int .i64 2] (.tuple #[.agg (natsV .u64 ln).toArray, .int .i64 0]))
   (c2 : Ans 47 #[.agg (natsV .u64 la).toArray, .agg (natsV .u64 ln).toArray] (.tuple #[.agg (natsV .u64 ls).toArray, .int .i64 1])) :
   Calls Try.prog 24 #[.agg (natsV .u64 la).toArray] w fun e w' => e = .returned (.agg (natsV .u64 la).toArray) ∧ Below w.heap.size w w' := by
 have L_la := Hd hla
 have L_ln := Hd hln
 have L_ls := Hd hls
 have Hc1 := Hd c1
 have Hc2 := Hd c2
 have B0_ := Hd ((Blk.new w  24 (natsV .u64 la)).alloc (.cells (natsV .u64 (zeros 4)).toArray 24))
 have B1_ := Hd (Blk.new2 w (.cells (natsV .u64 la).toArray 24) 24 (natsV .u64 (zeros 4)))
 have bel_ := (((Below.refl w.heap.size w).alloc (Nat.le_refl _) (.cells (natsV .u64 la).toArray 24)).alloc (by simp) (.cells (natsV .u64 (zeros 4)).toArray 24))
 clear hla hln hls c1 c2
 go_enter Try.func24, Try.ntmps24
 go_wp2_with fail
 refine (Hc1.out _).mono ?_
 rintro e w1 ⟨rfl, hbw1⟩
 have C2 := gq' B0_ hbw1
 have C3 := gq' B1_ hbw1
 have hbel4 := bel_.trans (Below.mono hbw1 bel_.size)
 clear B0_ B1_ bel_ hbw1
 go_wp2_with (first | (refine stN rfl 24 (.tmp 3) (.tmp 9) rfl w1 rfl (natsV .u64 ln) rfl 24 (natsV .u64 (zeros 4)) (i24 L_ln.out) (lz4 L_ln.out) n1' ?_; intro w5 hgw5 hnw5; have C8 := gq' C2 hgw5; clear C2; have C9 := gq' C3 hgw5; clear C3; have hbel10 := hbel4.trans (Below.mono hgw5 hbel4.size); clear hbel4; have D7 := Hd hnw5; clear hnw5 hgw5; generalize w1.heap.size = G6 at *) | (refine lm' (blk_all (C8.out)) Try.underlying24 (i24 L_la.out) ?_) | (refine lm' (blk_all (D7.out)) Try.underlying24 (i24 L_ln.out) ?_))
 refine (Hc2.out _).mono ?_
 rintro e w11 ⟨rfl, hbw11⟩
 have C12 := gq' C8 hbw11
 have C13 := gq' C9 hbw11
 have C14 := gq' D7 hbw11
 have hbel15 := hbel10.trans (Below.mono hbw11 hbel10.size)
 clear C8 C9 D7 hbel10 hbw11
 go_wp2_with (first | (refine stN rfl 24 (.tmp 5) (.tmp 15) rfl w11 rfl (natsV .u64 ls) rfl 24 (natsV .u64 (zeros 4)) (i24 L_ls.out) (lz4 L_ls.out) n1' ?_; intro w16 hgw16 hnw16; have C19 := gq' C12 hgw16; clear C12; have C20 := gq' C13 hgw16; clear C13; have C21 := gq' C14 hgw16; clear C14; have hbel22 := hbel15.trans (Below.mono hgw16 hbel15.size); clear hbel15; have D18 := Hd hnw16; clear hnw16 hgw16; generalize w11.heap.size = G17 at *) | (refine lm' (blk_all (C19.out)) Try.underlying24 (i24 L_la.out) ?_) | (refine stB rfl 24 (.tmp 2) (.tmp 19) rfl (w.heap.size + 1) rfl (natsV .u64 la) rfl 24 (natsV .u64 (zeros 4)) C20.out (i24 L_la.out) (lz4 L_la.out) n1' ?_))
 refine bodyPost_ret (v := .agg (natsV .u64 la).toArray) ?_ rfl ⟨rfl, below_setRow' hbel22 (by first | exact Nat.le_refl _ | omega) _⟩
 exact results_cell_row Try.results24 _ _ (w.heap.size + 1) 24 _ (0, 0) _ rfl (C20.out.setRow _) Try.underlying24 rfl (by simpa using (i24 L_la.out))
theorem wnumber {Ba lc : List Nat} (w : World) (hBa : Ba.length = 32) (hlc : lc.length = 4)
   (hb : ∀ x ∈ Ba, x < 256)
   (hof : ∀ A W, BIn W A 32 32 Ba → Calls Try.prog 48 #[.slice A 32 32] W fun e w' => e = .returned (.tuple #[.agg (natsV .u64 lc).toArray, .int .i64 0]) ∧ Below W.heap.size W w') :
   Calls Try.prog 25 #[.agg (natsV .u8 Ba).toArray] w fun e w' => e = .returned (.agg (natsV .u64 lc).toArray) ∧ Below w.heap.size w w' := by
 have L_Ba := Hd hBa
 have L_lc := Hd hlc
 have HB := Hd hb
 have HOF := Hd hof
 have B0_ := Hd ((Blk.new w  49 (natsV .u8 Ba)).alloc (.cells (natsV .u64 (zeros 4)).toArray 24))
 have B1_ := Hd (Blk.new2 w (.cells (natsV .u8 Ba).toArray 49) 24 (natsV .u64 (zeros 4)))
 have bel_ := (((Below.refl w.heap.size w).alloc (Nat.le_refl _) (.cells (natsV .u8 Ba).toArray 49)).alloc (by simp) (.cells (natsV .u64 (zeros 4)).toArray 24))
 clear hBa hlc hb hof
 go_enter Try.func25, Try.ntmps25
 go_wp2_with fail
 refine (HOF.out (some ⟨w.heap.size, 0, none⟩) _ (bin_blk (B0_.out) L_Ba.out HB.out)).mono ?_
 rintro e w1 ⟨rfl, hbw1⟩
 have C2 := gq' B0_ hbw1
 have C3 := gq' B1_ hbw1
 have hbel4 := bel_.trans (Below.mono hbw1 bel_.size)
 clear B0_ B1_ bel_ hbw1
 go_wp2_with (first | (refine stN rfl 24 (.tmp 3) (.tmp 8) rfl w1 rfl (natsV .u64 lc) rfl 24 (natsV .u64 (zeros 4)) (i24 L_lc.out) (lz4 L_lc.out) n1' ?_; intro w5 hgw5 hnw5; have C8 := gq' C2 hgw5; clear C2; have C9 := gq' C3 hgw5; clear C3; have hbel10 := hbel4.trans (Below.mono hgw5 hbel4.size); clear hbel4; have D7 := Hd hnw5; clear hnw5 hgw5; generalize w1.heap.size = G6 at *) | (refine lm' (blk_all (D7.out)) Try.underlying24 (i24 L_lc.out) ?_) | (refine stB rfl 24 (.tmp 2) (.tmp 10) rfl (w.heap.size + 1) rfl (natsV .u64 lc) rfl 24 (natsV .u64 (zeros 4)) C9.out (i24 L_lc.out) (lz4 L_lc.out) n1' ?_))
 refine bodyPost_ret (v := .agg (natsV .u64 lc).toArray) ?_ rfl ⟨rfl, below_setRow' hbel10 (by first | exact Nat.le_refl _ | omega) _⟩
 exact results_cell_row Try.results25 _ _ (w.heap.size + 1) 24 _ (0, 0) _ rfl (C9.out.setRow _) Try.underlying24 rfl (by simpa using (i24 L_lc.out))
theorem wref0 (w : World)  :
   Calls Try.prog 57 #[.agg (natsV .u64 (zeros 4)).toArray] w fun e w' => e = .returned (.int .i64 53) ∧ Below w.heap.size w w' := by
 have QZ := Hd (fun w => (eqZ24 (zeros 4) rfl w).trans (by rw [decide_eq_true rfl]))
 have B0_ := Hd (Blk.new w  24 (natsV .u64 (zeros 4)))
 have bel_ := ((Below.refl w.heap.size w).alloc (Nat.le_refl _) (.cells (natsV .u64 (zeros 4)).toArray 24))
 go_enter Try.func57, Try.ntmps57
 have qz := QZ.out
 go_wp2_with (first | (refine lm' (blk_all (B0_.out)) Try.underlying24 (i24 z4l) ?_))
 go_ret
 exact ⟨rfl, bel_⟩
theorem wrefno {la lc : List Nat} (w : World) (hla : la.length = 4) (hlc : lc.length = 4)
   (hne : la ≠ zeros 4)
   (c1 : Ans 28 #[.int .i64 2, .agg (natsV .u64 la).toArray] (.tuple #[.agg (natsV .u64 lc).toArray, .int .i64 52])) :
   Calls Try.prog 57 #[.agg (natsV .u64 la).toArray] w fun e w' => e = .returned (.int .i64 52) ∧ Below w.heap.size w w' := by
 have L_la := Hd hla
 have L_lc := Hd hlc
 have Hc1 := Hd c1
 have QZ := Hd (fun w => (eqZ24 la L_la.out w).trans (by rw [decide_eq_false hne]))
 have B0_ := Hd (Blk.new w  24 (natsV .u64 la))
 have bel_ := ((Below.refl w.heap.size w).alloc (Nat.le_refl _) (.cells (natsV .u64 la).toArray 24))
 clear hla hlc c1 hne
 go_enter Try.func57, Try.ntmps57
 have qz := QZ.out
 go_wp2_with (first | (refine lm' (blk_all (B0_.out)) Try.underlying24 (i24 L_la.out) ?_) | (refine lm' (blk_all (B0_.out)) Try.underlying24 (i24 L_la.out) ?_))
 refine (Hc1.out _).mono ?_
 rintro e w1 ⟨rfl, hbw1⟩
 have C2 := gq' B0_ hbw1
 have hbel3 := bel_.trans (Below.mono hbw1 bel_.size)
 clear B0_ bel_ hbw1
 go_wp2_with (first | (refine stN rfl 24 (.tmp 3) (.tmp 11) rfl w1 rfl (natsV .u64 lc) rfl 24 (natsV .u64 (zeros 4)) (i24 L_lc.out) (lz4 L_lc.out) n1' ?_; intro w4 hgw4 hnw4; have C7 := gq' C2 hgw4; clear C2; have hbel8 := hbel3.trans (Below.mono hgw4 hbel3.size); clear hbel3; have D6 := Hd hnw4; clear hnw4 hgw4; generalize w1.heap.size = G5 at *))
 go_ret
 exact ⟨rfl, hbel8⟩
theorem wrefok {la lc : List Nat} (w : World) (hla : la.length = 4) (hlc : lc.length = 4)
   (hne : la ≠ zeros 4)
   (c1 : Ans 28 #[.int .i64 2, .agg (natsV .u64 la).toArray] (.tuple #[.agg (natsV .u64 lc).toArray, .int .i64 0])) :
   Calls Try.prog 57 #[.agg (natsV .u64 la).toArray] w fun e w' => e = .returned (.int .i64 0) ∧ Below w.heap.size w w' := by
 have L_la := Hd hla
 have L_lc := Hd hlc
 have Hc1 := Hd c1
 have QZ := Hd (fun w => (eqZ24 la L_la.out w).trans (by rw [decide_eq_false hne]))
 have B0_ := Hd (Blk.new w  24 (natsV .u64 la))
 have bel_ := ((Below.refl w.heap.size w).alloc (Nat.le_refl _) (.cells (natsV .u64 la).toArray 24))
 clear hla hlc c1 hne
 go_enter Try.func57, Try.ntmps57
 have qz := QZ.out
 go_wp2_with (first | (refine lm' (blk_all (B0_.out)) Try.underlying24 (i24 L_la.out) ?_) | (refine lm' (blk_all (B0_.out)) Try.underlying24 (i24 L_la.out) ?_))
 refine (Hc1.out _).mono ?_
 rintro e w1 ⟨rfl, hbw1⟩
 have C2 := gq' B0_ hbw1
 have hbel3 := bel_.trans (Below.mono hbw1 bel_.size)
 clear B0_ bel_ hbw1
 go_wp2_with (first | (refine stN rfl 24 (.tmp 3) (.tmp 11) rfl w1 rfl (natsV .u64 lc) rfl 24 (natsV .u64 (zeros 4)) (i24 L_lc.out) (lz4 L_lc.out) n1' ?_; intro w4 hgw4 hnw4; have C7 := gq' C2 hgw4; clear C2; have hbel8 := hbel3.trans (Below.mono hgw4 hbel3.size); clear hbel3; have D6 := Hd hnw4; clear hnw4 hgw4; generalize w1.heap.size = G5 at *))
 go_ret
 exact ⟨rfl, hbel8⟩
end Go.Proofs.Ytdkkombpkojjaaa
