/- A prime of the project: what is below it, and what is taken away. Condition: the sizes of the arguments. -/
import Derived.Test.YtfffmoolkgheaaaFb
namespace Go.Proofs.Ytfffmoolkgheaaa
open Go.RowKit
set_option linter.unusedVariables false
set_option linter.unusedSimpArgs false
theorem below_yes (x m over : Nat) (h : over < lt01 x m) : (x + 2 ^ 256 * over) % m = x := by
  unfold lt01 at h
  split at h
  · have h0 : over = 0 := by omega
    subst h0
    rw [Nat.mul_zero, Nat.add_zero]; exact Nat.mod_eq_of_lt (by assumption)
  · omega
theorem below_no (x m over : Nat) (hm : m < 2 ^ 256) (hx : x < 2 ^ 256) (h2 : x + 2 ^ 256 * over < 2 * m) (ho : over ≤ 1) (h : ¬ over < lt01 x m) : wds 4 ((x + 2 ^ 256 * over) % m) = wds 4 (x + 2 ^ 256 - m) := by
  have hsub : m ≤ x + 2 ^ 256 * over := by
    unfold lt01 at h
    split at h
    · have h0 : over = 1 := by omega
      subst h0; omega
    · omega
  rw [Nat.mod_eq_sub_mod hsub, Nat.mod_eq_of_lt (by omega)]
  rcases Nat.lt_or_ge over 1 with h0 | h0
  · have h0 : over = 0 := by omega
    subst h0
    have e : x + 2 ^ 256 - m = (x + 2 ^ 256 * 0 - m) + 2 ^ (64 * 4) * 1 := by
      rw [show 2 ^ (64 * 4) = 2 ^ 256 from rfl]; omega
    rw [e, wds_add_pow]
  · have h0 : over = 1 := by omega
    subst h0
    rw [Nat.mul_one]
theorem minus_no (a b m : Nat) (ha : a < m) (hb : b < m) (hm : m < 2 ^ 256) (h : ¬ a < b) : wds 4 ((a + m - b) % m) = wds 4 (a + 2 ^ 256 - b) := by
  have e : a + m - b = (a - b) + m := by omega
  rw [e, Nat.add_mod_right, Nat.mod_eq_of_lt (by omega)]
  have e2 : a + 2 ^ 256 - b = (a - b) + 2 ^ (64 * 4) * 1 := by rw [show 2 ^ (64 * 4) = 2 ^ 256 from rfl]; omega
  rw [e2, wds_add_pow]
theorem minus_yes (a b m : Nat) (ha : a < m) (hb : b < m) (hm : m < 2 ^ 256) (h : a < b) : wds 4 ((a + m - b) % m) = wds 4 ((a + 2 ^ 256 - b) + m) := by
  rw [Nat.mod_eq_of_lt (by omega)]
  have e2 : (a + 2 ^ 256 - b) + m = (a + m - b) + 2 ^ (64 * 4) * 1 := by rw [show 2 ^ (64 * 4) = 2 ^ 256 from rfl]; omega
  rw [e2, wds_add_pow]
set_option maxRecDepth 100000 in
set_option maxHeartbeats 800000 in
theorem below_any (m f x over : Nat) (w : World) (hm : m < 2 ^ 256) (hx : x < 2 ^ 256) (h2 : x + 2 ^ 256 * over < 2 * m) (ho : over ≤ 1) :
    Calls Try.prog 60 #[.agg (primL (wds 4 m) f).toArray, .agg (natsV .u64 (wds 4 x)).toArray, .int .i64 (over : Nat)] w fun e w' => e = .returned (.agg (natsV .u64 (wds 4 ((x + 2 ^ 256 * over) % m))).toArray) ∧ Below w.heap.size w w' := by
  have HS := Lib.hid (fun w => Sub_any x m w hx hm)
  have HY := Lib.hid (fun h => show wds 4 ((x + 2 ^ 256 * over) % m) = wds 4 x from by rw [below_yes x m over h])
  have HN := Lib.hid (below_no x m over hm hx h2 ho)
  have LS := Lib.hid (wds_len 4 (x + 2 ^ 256 - m))
  have LX := Lib.hid (wds_len 4 x)
  have LM := Lib.hid (wds_len 4 m)
  have LP := Lib.hid (primL_len (wds 4 m) f (wds_len 4 m))
  generalize wds 4 (x + 2 ^ 256 - m) = ls at *
  generalize wds 4 ((x + 2 ^ 256 * over) % m) = lr at *
  generalize wds 4 x = lx at *
  generalize wds 4 m = lm at *
  generalize lt01 x m = bo at *
  clear hm hx h2
  have B1 := Lib.hid (((Blk.new w 83 (primL lm f)).alloc (.cells (natsV .u64 lx).toArray 24)).alloc (.cells (natsV .u64 (zeros 4)).toArray 24))
  have B2 := Lib.hid ((Blk.new2 w (.cells (primL lm f).toArray 83) 24 (natsV .u64 lx)).alloc (.cells (natsV .u64 (zeros 4)).toArray 24))
  have B3 := Lib.hid (Blk.new3 w (.cells (primL lm f).toArray 83) (.cells (natsV .u64 lx).toArray 24) 24 (natsV .u64 (zeros 4)))
  have BEL := Lib.hid ((((Below.refl w.heap.size w).alloc (Nat.le_refl _) (.cells (primL lm f).toArray 83)).alloc (by simp) (.cells (natsV .u64 lx).toArray 24)).alloc (by simp; omega) (.cells (natsV .u64 (zeros 4)).toArray 24))
  go_enter Try.func60, Try.ntmps60
  go_wp2_with (first | (refine ld24 rfl (.tmp 4) rfl (w.heap.size + 1) rfl lx B2.out LX.out ?_) | (refine ldm rfl (.tmp 11) rfl w.heap.size rfl lm _ B1.out LM.out ?_))
  refine (HS.out _).mono ?_
  rintro e w1 ⟨rfl, hbw1⟩
  have C2 := Lib.hid (B1.out.below' hbw1)
  have C3 := Lib.hid (B2.out.below' hbw1)
  have C4 := Lib.hid (B3.out.below' hbw1)
  have hbel5 := BEL.out.trans (hbw1.mono BEL.out.size)
  clear B1 B2 B3 hbw1
  have Z7 := Lib.hid (Blk.new w1 24 (natsV .u64 (zeros 4)))
  have hz8 := Lib.hid (below_setRow' (hbel5.alloc hbel5.size (.cells (natsV .u64 (zeros 4)).toArray 24)) hbel5.size (natsV .u64 ls).toArray)
  have Y9 := Lib.hid ((C2.out.alloc (.cells (natsV .u64 (zeros 4)).toArray 24)).row (natsV .u64 ls).toArray (Nat.ne_of_lt C2.out.lt))
  have Y10 := Lib.hid ((C3.out.alloc (.cells (natsV .u64 (zeros 4)).toArray 24)).row (natsV .u64 ls).toArray (Nat.ne_of_lt C3.out.lt))
  have Y11 := Lib.hid ((C4.out.alloc (.cells (natsV .u64 (zeros 4)).toArray 24)).row (natsV .u64 ls).toArray (Nat.ne_of_lt C4.out.lt))
  have Y12 := Lib.hid (Z7.out.setRow (natsV .u64 ls))
  by_cases hc : over < bo
  · have hci : ((over : Nat) : Int) < ((bo : Nat) : Int) := by omega
    have HE := HY.out hc
    subst HE
    go_wp2_with (first | (refine st24 rfl (.tmp 7) (.tmp 14) rfl w1.heap.size rfl ls rfl LS.out (zeros 4) Z7.out rfl ?_; generalize hW : World.setRow _ _ _ = w6; have D14 := Lib.hid (show Blk w6 w.heap.size 83 (primL lm f) from (by rw [← hW]; exact Y9.out)); have D15 := Lib.hid (show Blk w6 (w.heap.size + 1) 24 (natsV .u64 lr) from (by rw [← hW]; exact Y10.out)); have D16 := Lib.hid (show Blk w6 (w.heap.size + 1 + 1) 24 (natsV .u64 (zeros 4)) from (by rw [← hW]; exact Y11.out)); have D17 := Lib.hid (show Blk w6 w1.heap.size 24 (natsV .u64 ls) from (by rw [← hW]; exact Y12.out)); have LE_D17 := (hbel5).size; have NE_D16 := Nat.ne_of_lt C4.out.lt; have hbel18 : Below w.heap.size w w6 := (by rw [← hW]; exact hz8.out); clear hW Z7 hz8 C2 C3 C4 Y9 Y10 Y11 Y12 hbel5; generalize w1.heap.size = G13 at *) | (refine ld24 rfl (.tmp 4) rfl (w.heap.size + 1) rfl lr D15.out LX.out ?_) | (refine st24 rfl (.tmp 6) (.tmp 19) rfl (w.heap.size + 1 + 1) rfl lr rfl LX.out (zeros 4) D16.out rfl ?_))
    refine bodyPost_ret (v := .agg (natsV .u64 lr).toArray) ?_ rfl ⟨rfl, below_setRow' hbel18 (by omega) _⟩
    exact ret24 Try.results60 _ _ (w.heap.size + 1 + 1) lr rfl (D16.out.setRow _) LX.out
  · have hci : ¬ (((over : Nat) : Int) < ((bo : Nat) : Int)) := by omega
    have HE := HN.out hc
    subst HE
    go_wp2_with (first | (refine st24 rfl (.tmp 7) (.tmp 14) rfl w1.heap.size rfl lr rfl LS.out (zeros 4) Z7.out rfl ?_; generalize hW : World.setRow _ _ _ = w6; have D14 := Lib.hid (show Blk w6 w.heap.size 83 (primL lm f) from (by rw [← hW]; exact Y9.out)); have D15 := Lib.hid (show Blk w6 (w.heap.size + 1) 24 (natsV .u64 lx) from (by rw [← hW]; exact Y10.out)); have D16 := Lib.hid (show Blk w6 (w.heap.size + 1 + 1) 24 (natsV .u64 (zeros 4)) from (by rw [← hW]; exact Y11.out)); have D17 := Lib.hid (show Blk w6 w1.heap.size 24 (natsV .u64 lr) from (by rw [← hW]; exact Y12.out)); have LE_D17 := (hbel5).size; have NE_D16 := Nat.ne_of_lt C4.out.lt; have hbel18 : Below w.heap.size w w6 := (by rw [← hW]; exact hz8.out); clear hW Z7 hz8 C2 C3 C4 Y9 Y10 Y11 Y12 hbel5; generalize w1.heap.size = G13 at *) | (refine ld24 rfl (.tmp 7) rfl G13 rfl lr D17.out LS.out ?_) | (refine st24 rfl (.tmp 6) (.tmp 20) rfl (w.heap.size + 1 + 1) rfl lr rfl LS.out (zeros 4) D16.out rfl ?_))
    refine bodyPost_ret (v := .agg (natsV .u64 lr).toArray) ?_ rfl ⟨rfl, below_setRow' hbel18 (by omega) _⟩
    exact ret24 Try.results60 _ _ (w.heap.size + 1 + 1) lr rfl (D16.out.setRow _) LS.out
set_option maxRecDepth 100000 in
set_option maxHeartbeats 800000 in
theorem minus_any (m f a b : Nat) (w : World) (hm : m < 2 ^ 256) (ha : a < m) (hb : b < m) :
    Calls Try.prog 61 #[.agg (primL (wds 4 m) f).toArray, .agg (natsV .u64 (wds 4 a)).toArray, .agg (natsV .u64 (wds 4 b)).toArray] w fun e w' => e = .returned (.agg (natsV .u64 (wds 4 ((a + m - b) % m))).toArray) ∧ Below w.heap.size w w' := by
  have HS := Lib.hid (fun w => Sub_any a b w (by omega) (by omega))
  have HA := Lib.hid (fun (h : a < b) w => Add_any (a + 2 ^ 256 - b) m w (by omega) (by omega))
  have HN := Lib.hid (minus_no a b m ha hb hm)
  have HY := Lib.hid (minus_yes a b m ha hb hm)
  have LS := Lib.hid (wds_len 4 (a + 2 ^ 256 - b))
  have LT := Lib.hid (wds_len 4 (a + 2 ^ 256 - b + m))
  have LA := Lib.hid (wds_len 4 a)
  have LB := Lib.hid (wds_len 4 b)
  have LM := Lib.hid (wds_len 4 m)
  have LP := Lib.hid (primL_len (wds 4 m) f (wds_len 4 m))
  generalize wds 4 (a + 2 ^ 256 - b + m) = lt at *
  generalize wds 4 ((a + m - b) % m) = lr at *
  generalize addC (a + 2 ^ 256 - b) m = cy at *
  have mod_wds : True := trivial
  generalize wds 4 (a + 2 ^ 256 - b) = ls at *
  generalize wds 4 a = la at *
  generalize wds 4 b = lb at *
  generalize wds 4 m = lm at *
  have hbo : lt01 a b = if a < b then 1 else 0 := rfl
  generalize lt01 a b = bo at *
  clear hm ha hb
  have B1 := Lib.hid ((((Blk.new w 83 (primL lm f)).alloc (.cells (natsV .u64 la).toArray 24)).alloc (.cells (natsV .u64 lb).toArray 24)).alloc (.cells (natsV .u64 (zeros 4)).toArray 24))
  have B2 := Lib.hid (((Blk.new2 w (.cells (primL lm f).toArray 83) 24 (natsV .u64 la)).alloc (.cells (natsV .u64 lb).toArray 24)).alloc (.cells (natsV .u64 (zeros 4)).toArray 24))
  have B3 := Lib.hid ((Blk.new3 w (.cells (primL lm f).toArray 83) (.cells (natsV .u64 la).toArray 24) 24 (natsV .u64 lb)).alloc (.cells (natsV .u64 (zeros 4)).toArray 24))
  have B4 := Lib.hid (Blk.new4 w (.cells (primL lm f).toArray 83) (.cells (natsV .u64 la).toArray 24) (.cells (natsV .u64 lb).toArray 24) 24 (natsV .u64 (zeros 4)))
  have BEL := Lib.hid (((((Below.refl w.heap.size w).alloc (Nat.le_refl _) (.cells (primL lm f).toArray 83)).alloc (by simp) (.cells (natsV .u64 la).toArray 24)).alloc (by simp; omega) (.cells (natsV .u64 lb).toArray 24)).alloc (by simp; omega) (.cells (natsV .u64 (zeros 4)).toArray 24))
  go_enter Try.func61, Try.ntmps61
  go_wp2_with (first | (refine ld24 rfl (.tmp 4) rfl (w.heap.size + 1) rfl la B2.out LA.out ?_) | (refine ld24 rfl (.tmp 5) rfl (w.heap.size + 1 + 1) rfl lb B3.out LB.out ?_))
  refine (HS.out _).mono ?_
  rintro e w1 ⟨rfl, hbw1⟩
  have C2 := Lib.hid (B1.out.below' hbw1)
  have C3 := Lib.hid (B2.out.below' hbw1)
  have C4 := Lib.hid (B3.out.below' hbw1)
  have C5 := Lib.hid (B4.out.below' hbw1)
  have hbel6 := BEL.out.trans (hbw1.mono BEL.out.size)
  clear B1 B2 B3 B4 hbw1
  clear C3 C4
  have Z8 := Lib.hid (Blk.new w1 24 (natsV .u64 (zeros 4)))
  have hz9 := Lib.hid (below_setRow' (hbel6.alloc hbel6.size (.cells (natsV .u64 (zeros 4)).toArray 24)) hbel6.size (natsV .u64 ls).toArray)
  have Y10 := Lib.hid ((C2.out.alloc (.cells (natsV .u64 (zeros 4)).toArray 24)).row (natsV .u64 ls).toArray (Nat.ne_of_lt C2.out.lt))
  have Y11 := Lib.hid ((C5.out.alloc (.cells (natsV .u64 (zeros 4)).toArray 24)).row (natsV .u64 ls).toArray (Nat.ne_of_lt C5.out.lt))
  have Y12 := Lib.hid (Z8.out.setRow (natsV .u64 ls))
  by_cases hc : a < b
  · rw [if_pos hc] at hbo
    subst hbo
    have HE := HY.out hc
    subst HE
    go_wp2_with (first | (refine st24 rfl (.tmp 7) (.tmp 13) rfl w1.heap.size rfl ls rfl LS.out (zeros 4) Z8.out rfl ?_; generalize hW : World.setRow _ _ _ = w7; have D14 := Lib.hid (show Blk w7 w.heap.size 83 (primL lm f) from (by rw [← hW]; exact Y10.out)); have D15 := Lib.hid (show Blk w7 (w.heap.size + 1 + 1 + 1) 24 (natsV .u64 (zeros 4)) from (by rw [← hW]; exact Y11.out)); have D16 := Lib.hid (show Blk w7 w1.heap.size 24 (natsV .u64 ls) from (by rw [← hW]; exact Y12.out)); have LE_D16 := (hbel6).size; have NE_D15 := Nat.ne_of_lt C5.out.lt; have hbel17 : Below w.heap.size w w7 := (by rw [← hW]; exact hz9.out); clear hW Z8 hz9 C2 C5 Y10 Y11 Y12 hbel6; generalize w1.heap.size = G13 at *) | (refine ld24 rfl (.tmp 7) rfl G13 rfl ls D16.out LS.out ?_) | (refine ldm rfl (.tmp 19) rfl w.heap.size rfl lm _ D14.out LM.out ?_))
    refine (HA.out hc _).mono ?_
    rintro e w18 ⟨rfl, hbw18⟩
    have C19 := Lib.hid (D14.out.below' hbw18)
    have C20 := Lib.hid (D15.out.below' hbw18)
    have C21 := Lib.hid (D16.out.below' hbw18)
    have hbel22 := hbel17.trans (hbw18.mono hbel17.size)
    clear D14 D15 D16 hbw18 hbel17
    clear C19
    have hz24 := Lib.hid (below_setRow' hbel22 (show w.heap.size ≤ G13 by first | exact Nat.le_refl _ | omega) (natsV .u64 lr).toArray)
    have Y25 := Lib.hid (C20.out.row (natsV .u64 lr).toArray (show (w.heap.size + 1 + 1 + 1) ≠ G13 by first | omega | assumption | exact Ne.symm (by assumption)))
    have Y26 := Lib.hid (C21.out.setRow (natsV .u64 lr))
    go_wp2_with (first | (refine st24 rfl (.tmp 7) (.tmp 22) rfl G13 rfl lr rfl LT.out ls C21.out LS.out ?_; generalize hW : World.setRow _ _ _ = w23; have D27 := Lib.hid (show Blk w23 (w.heap.size + 1 + 1 + 1) 24 (natsV .u64 (zeros 4)) from (by rw [← hW]; exact Y25.out)); have D28 := Lib.hid (show Blk w23 G13 24 (natsV .u64 lr) from (by rw [← hW]; exact Y26.out)); have hbel29 : Below w.heap.size w w23 := (by rw [← hW]; exact hz24.out); clear hW hz24 C20 C21 Y25 Y26 hbel22) | (refine ld24 rfl (.tmp 7) rfl G13 rfl lr D28.out LT.out ?_) | (refine st24 rfl (.tmp 6) (.tmp 24) rfl (w.heap.size + 1 + 1 + 1) rfl lr rfl LT.out (zeros 4) D27.out rfl ?_))
    refine bodyPost_ret (v := .agg (natsV .u64 lr).toArray) ?_ rfl ⟨rfl, below_setRow' hbel29 (by omega) _⟩
    exact ret24 Try.results61 _ _ (w.heap.size + 1 + 1 + 1) lr rfl (D27.out.setRow _) LT.out
  · rw [if_neg hc] at hbo
    subst hbo
    have HE := HN.out hc
    subst HE
    go_wp2_with (first | (refine st24 rfl (.tmp 7) (.tmp 13) rfl w1.heap.size rfl lr rfl LS.out (zeros 4) Z8.out rfl ?_; generalize hW : World.setRow _ _ _ = w7; have D14 := Lib.hid (show Blk w7 w.heap.size 83 (primL lm f) from (by rw [← hW]; exact Y10.out)); have D15 := Lib.hid (show Blk w7 (w.heap.size + 1 + 1 + 1) 24 (natsV .u64 (zeros 4)) from (by rw [← hW]; exact Y11.out)); have D16 := Lib.hid (show Blk w7 w1.heap.size 24 (natsV .u64 lr) from (by rw [← hW]; exact Y12.out)); have LE_D16 := (hbel6).size; have NE_D15 := Nat.ne_of_lt C5.out.lt; have hbel17 : Below w.heap.size w w7 := (by rw [← hW]; exact hz9.out); clear hW Z8 hz9 C2 C5 Y10 Y11 Y12 hbel6; generalize w1.heap.size = G13 at *) | (refine ld24 rfl (.tmp 7) rfl G13 rfl lr D16.out LS.out ?_) | (refine st24 rfl (.tmp 6) (.tmp 24) rfl (w.heap.size + 1 + 1 + 1) rfl lr rfl LS.out (zeros 4) D15.out rfl ?_))
    refine bodyPost_ret (v := .agg (natsV .u64 lr).toArray) ?_ rfl ⟨rfl, below_setRow' hbel17 (by omega) _⟩
    exact ret24 Try.results61 _ _ (w.heap.size + 1 + 1 + 1) lr rfl (D15.out.setRow _) LS.out
end Go.Proofs.Ytfffmoolkgheaaa
