/- A prime of the project: products of forms, a number's form, the number of a form. Condition: the sizes of the arguments. -/
import Derived.Test.YtfffmoolkgheaaaRe
import Derived.Test.YtfffmoolkgheaaaDr
namespace Go.Proofs.Ytfffmoolkgheaaa
open Go.RowKit
set_option linter.unusedVariables false
set_option linter.unusedSimpArgs false
theorem keepT3 {w w' : World} {g1 g2 g3 : Nat} {a b c : List Value} (hb : Below w.heap.size w w') (h : w.rangeAt g1 0 a ∧ w.rangeAt g2 0 b ∧ w.rangeAt g3 0 c) : w'.rangeAt g1 0 a ∧ w'.rangeAt g2 0 b ∧ w'.rangeAt g3 0 c :=
  ⟨range_keepV h.1 hb, range_keepV h.2.1 hb, range_keepV h.2.2 hb⟩
set_option maxRecDepth 100000 in
set_option maxHeartbeats 800000 in
theorem ptimes_any (m f v a b : Nat) (w : World) (H : Fld m f v) (hab : a * b < m * 2 ^ 256) (ha : a < 2 ^ 256) (hb : b < 2 ^ 256) :
    Calls Try.prog 62 #[.agg (primL (wds 4 m) f).toArray, .agg (natsV .u64 (wds 4 a)).toArray, .agg (natsV .u64 (wds 4 b)).toArray] w fun e w' => e = .returned (.agg (natsV .u64 (wds 4 (ofF m v (a * b)))).toArray) ∧ Below w.heap.size w w' := by
  have HMU := Lib.hid (fun w => Mul_any a b w ha hb)
  have HRE := Lib.hid (fun w => reduce_any m f v (a * b) w H hab)
  have LA := Lib.hid (wds_len 4 a)
  have LB := Lib.hid (wds_len 4 b)
  have LP := Lib.hid (primL_len (wds 4 m) f (wds_len 4 m))
  have LR := Lib.hid (wds_len 4 (ofF m v (a * b)))
  generalize wds 4 (ofF m v (a * b)) = lr at *
  generalize wds 8 (a * b) = l8 at *
  generalize wds 4 a = la at *
  generalize wds 4 b = lb at *
  generalize wds 4 m = lm at *
  clear H hab ha hb
  have i71 : (Try.prog.info? 83).map (·.size) = some (primL lm f).length := by rw [info83, LP.out]
  have i24a : (Try.prog.info? 24).map (·.size) = some (natsV .u64 la).length := by rw [info24, natsV_length, LA.out]
  have i24b : (Try.prog.info? 24).map (·.size) = some (natsV .u64 lb).length := by rw [info24, natsV_length, LB.out]
  have B1 := Lib.hid ((((Blk.new w 83 (primL lm f)).alloc (.cells (natsV .u64 la).toArray 24)).alloc (.cells (natsV .u64 lb).toArray 24)).alloc (.cells (natsV .u64 (zeros 4)).toArray 24))
  have B2 := Lib.hid (((Blk.new2 w (.cells (primL lm f).toArray 83) 24 (natsV .u64 la)).alloc (.cells (natsV .u64 lb).toArray 24)).alloc (.cells (natsV .u64 (zeros 4)).toArray 24))
  have B3 := Lib.hid ((Blk.new3 w (.cells (primL lm f).toArray 83) (.cells (natsV .u64 la).toArray 24) 24 (natsV .u64 lb)).alloc (.cells (natsV .u64 (zeros 4)).toArray 24))
  have B4 := Lib.hid (Blk.new4 w (.cells (primL lm f).toArray 83) (.cells (natsV .u64 la).toArray 24) (.cells (natsV .u64 lb).toArray 24) 24 (natsV .u64 (zeros 4)))
  have BEL := Lib.hid (((((Below.refl w.heap.size w).alloc (Nat.le_refl _) (.cells (primL lm f).toArray 83)).alloc (by simp) (.cells (natsV .u64 la).toArray 24)).alloc (by simp; omega) (.cells (natsV .u64 lb).toArray 24)).alloc (by simp; omega) (.cells (natsV .u64 (zeros 4)).toArray 24))
  go_enter Try.func62, Try.ntmps62
  go_wp2_with fail
  refine wp_region_held_drew (S := (fun w' => w'.rangeAt w.heap.size 0 (primL lm f) ∧ w'.rangeAt (w.heap.size + 1) 0 (natsV .u64 la) ∧ w'.rangeAt (w.heap.size + 1 + 1) 0 (natsV .u64 lb))) (by kernel_rfl) ⟨blk_rangeV B1.out.drew, blk_rangeV B2.out.drew, blk_rangeV B3.out.drew⟩ (fun hHeld => ?_)
  refine wpAnyH_take (i := 0) (oi := _) (v := _) rfl (by kernel_rfl) (by kernel_rfl) (by kernel_rfl) (fun _ _ _ h => h) (yieldsIf_load_mid (by rfl) _ _ rfl _ _ rfl _ _ (by intro w hSw; exact hSw.1) Try.underlying83 rfl i71) hHeld ?_
  try simp only [Act.put, List.getElem_toArray, List.getElem_cons_succ, List.getElem_cons_zero, List.setIfInBounds_toArray, List.set_cons_zero, List.set_cons_succ]
  refine wpAnyH_take (i := 1) (oi := _) (v := _) rfl (by kernel_rfl) (by kernel_rfl) (by kernel_rfl) (fun _ _ _ h => h) (yieldsIf_load_mid (by rfl) _ _ rfl _ _ rfl _ _ (by intro w hSw; exact hSw.2.1) Try.underlying24 rfl i24a) hHeld ?_
  try simp only [Act.put, List.getElem_toArray, List.getElem_cons_succ, List.getElem_cons_zero, List.setIfInBounds_toArray, List.set_cons_zero, List.set_cons_succ]
  refine wpAnyH_take (i := 2) (oi := _) (v := _) rfl (by kernel_rfl) (by kernel_rfl) (by kernel_rfl) (fun _ _ _ h => h) (yieldsIf_load_mid (by rfl) _ _ rfl _ _ rfl _ _ (by intro w hSw; exact hSw.2.2) Try.underlying24 rfl i24b) hHeld ?_
  try simp only [Act.put, List.getElem_toArray, List.getElem_cons_succ, List.getElem_cons_zero, List.setIfInBounds_toArray, List.set_cons_zero, List.set_cons_succ]
  refine wpAnyH_ready (rs := [3]) (by kernel_rfl) (by simp) ?_
  refine AllReadyH.cons (o := _) rfl (fun K hK => ?_) AllReadyH.nil
  go_simp
  go_at_call 11
  refine (HMU.out _).mono ?_
  rintro e wx1 ⟨rfl, hbx1⟩
  refine hK.out _ _ (keepT3 hbx1 hHeld) (fun hHeld2 => ?_)
  clear hK K hHeld
  have hHeld := hHeld2
  clear hHeld2
  try simp only [Act.put, List.getElem_toArray, List.getElem_cons_succ, List.getElem_cons_zero, List.setIfInBounds_toArray, List.set_cons_zero, List.set_cons_succ]
  refine wpAnyH_ready (rs := [4]) (by kernel_rfl) (by simp) ?_
  refine AllReadyH.cons (o := _) rfl (fun K hK => ?_) AllReadyH.nil
  go_simp
  go_at_call 102
  refine (HRE.out _).mono ?_
  rintro e wx2 ⟨rfl, hbx2⟩
  refine hK.out _ _ (keepT3 hbx2 hHeld) (fun hHeld2 => ?_)
  clear hK K hHeld
  have hHeld := hHeld2
  clear hHeld2
  try simp only [Act.put, List.getElem_toArray, List.getElem_cons_succ, List.getElem_cons_zero, List.setIfInBounds_toArray, List.set_cons_zero, List.set_cons_succ]
  refine wpAnyH_ready (rs := [5]) (by kernel_rfl) (by simp) ?_
  refine AllReadyH.cons (o := _) rfl (fun K hK => ?_) AllReadyH.nil
  rw [if_pos (by rfl)]
  refine wst24 (.tmp 6) (.tmp 11) rfl (w.heap.size + 1 + 1 + 1) rfl lr rfl LR.out (zeros 4) ((B4.out.drew.below' hbx1).below' hbx2) rfl ?_
  refine hK.out _ _ (⟨blk_rangeV (((B1.out.drew.below' hbx1).below' hbx2).row (natsV .u64 lr).toArray (show w.heap.size ≠ w.heap.size + 1 + 1 + 1 by omega)), blk_rangeV (((B2.out.drew.below' hbx1).below' hbx2).row (natsV .u64 lr).toArray (show w.heap.size + 1 ≠ w.heap.size + 1 + 1 + 1 by omega)), blk_rangeV (((B3.out.drew.below' hbx1).below' hbx2).row (natsV .u64 lr).toArray (show w.heap.size + 1 + 1 ≠ w.heap.size + 1 + 1 + 1 by omega))⟩) (fun hHeld2 => ?_)
  clear hK K hHeld
  have hHeld := hHeld2
  clear hHeld2
  try simp only [Act.put, List.getElem_toArray, List.getElem_cons_succ, List.getElem_cons_zero, List.setIfInBounds_toArray, List.set_cons_zero, List.set_cons_succ]
  refine wpAnyH_done (by kernel_rfl) ?_ _
  have j4 := ((B4.out.drew.below' hbx1).below' hbx2).setRow (natsV .u64 lr)
  have hb1 := BEL.out.drew.trans (hbx1.mono BEL.out.drew.size)
  have hb2 := below_setRow' (hb1.trans (hbx2.mono hb1.size)) (show w.heap.size ≤ w.heap.size + 1 + 1 + 1 by omega) (natsV .u64 lr).toArray
  go_wp2_with fail
  refine bodyPost_ret (v := .agg (natsV .u64 lr).toArray) ?_ rfl ⟨rfl, hb2⟩
  exact ret24 Try.results62 _ _ (w.heap.size + 1 + 1 + 1) lr rfl j4 LR.out
theorem tell8 (g : Nat → Nat) : tell g 8 = [g 0, g 1, g 2, g 3, g 4, g 5, g 6, g 7] := by simp [tell, List.range_succ]
theorem dgt_up (x i : Nat) : dgt (2 ^ 64) (0 + 2 ^ 256 * x) (4 + i) = dgt (2 ^ 64) x i := by
  unfold dgt
  rw [Nat.zero_add, Nat.pow_add, ← Nat.div_div_eq_div_mul, show (2 ^ 64) ^ 4 = 2 ^ 256 from pow256, Nat.mul_div_cancel_left _ (Nat.two_pow_pos 256)]
theorem dgt_up0 (x i : Nat) (h : i < 4) : dgt (2 ^ 64) (0 + 2 ^ 256 * x) i = 0 := by
  rw [← pow256, dgt_add_high (2 ^ 64) 0 x i 4 (by decide) h]
  simp [dgt]
theorem wds8_up (x : Nat) : (natsV .u64 (wds 8 (0 + 2 ^ 256 * x))).toArray = #[.int .u64 0, .int .u64 0, .int .u64 0, .int .u64 0, .int .u64 (dgt (2 ^ 64) x 0 : Nat), .int .u64 (dgt (2 ^ 64) x 1 : Nat), .int .u64 (dgt (2 ^ 64) x 2 : Nat), .int .u64 (dgt (2 ^ 64) x 3 : Nat)] := by
  rw [wds, tell8, dgt_up0 x 0 (by omega), dgt_up0 x 1 (by omega), dgt_up0 x 2 (by omega), dgt_up0 x 3 (by omega), show (4 : Nat) = 4 + 0 from rfl, dgt_up x 0, show (5 : Nat) = 4 + 1 from rfl, dgt_up x 1, show (6 : Nat) = 4 + 2 from rfl, dgt_up x 2, show (7 : Nat) = 4 + 3 from rfl, dgt_up x 3]
  simp [natsV]
theorem wds8_low (x : Nat) (hx : x < 2 ^ 256) : (natsV .u64 (wds 8 x)).toArray = #[.int .u64 (dgt (2 ^ 64) x 0 : Nat), .int .u64 (dgt (2 ^ 64) x 1 : Nat), .int .u64 (dgt (2 ^ 64) x 2 : Nat), .int .u64 (dgt (2 ^ 64) x 3 : Nat), .int .u64 0, .int .u64 0, .int .u64 0, .int .u64 0] := by
  have hz : ∀ i, 4 ≤ i → dgt (2 ^ 64) x i = 0 := fun i hi => by
    unfold dgt
    rw [Nat.div_eq_of_lt (Nat.lt_of_lt_of_le hx (by rw [← pow256]; exact Nat.pow_le_pow_right (by decide) hi)), Nat.zero_mod]
  rw [wds, tell8, hz 4 (by omega), hz 5 (by omega), hz 6 (by omega), hz 7 (by omega)]
  simp [natsV]
set_option maxRecDepth 100000 in
set_option maxHeartbeats 800000 in
theorem in_any (m f v x : Nat) (w : World) (H : Fld m f v) (hx : x < 2 ^ 256) :
    Calls Try.prog 58 #[.agg (primL (wds 4 m) f).toArray, .agg (natsV .u64 (wds 4 x)).toArray] w fun e w' => e = .returned (.agg (natsV .u64 (wds 4 (toF m x))).toArray) ∧ Below w.heap.size w w' := by
  have HDR := Lib.hid (fun w => DivRem_any 0 x m w (by decide) hx H.lt (Nat.pos_iff_ne_zero.1 H.pos))
  rw [wds8_up x, show (0 + 2 ^ 256 * x) % m = toF m x by rw [Nat.zero_add, Nat.mul_comm]; rfl] at HDR
  have LX := Lib.hid (wds_len 4 x)
  have AX := Lib.hid (wds_at 4 x)
  have LM := Lib.hid (wds_len 4 m)
  have LP := Lib.hid (primL_len (wds 4 m) f (wds_len 4 m))
  have LR := Lib.hid (wds_len 4 (toF m x))
  have LQ := Lib.hid (wds_len 8 ((0 + 2 ^ 256 * x) / m))
  generalize wds 8 ((0 + 2 ^ 256 * x) / m) = lq at *
  generalize wds 4 (toF m x) = lr at *
  generalize wds 4 m = lm at *
  generalize wds 4 x = lx at *
  have B1 := Lib.hid (((Blk.new w 83 (primL lm f)).alloc (.cells (natsV .u64 lx).toArray 24)).alloc (.cells (natsV .u64 (zeros 4)).toArray 24))
  have B2 := Lib.hid ((Blk.new2 w (.cells (primL lm f).toArray 83) 24 (natsV .u64 lx)).alloc (.cells (natsV .u64 (zeros 4)).toArray 24))
  have B3 := Lib.hid (Blk.new3 w (.cells (primL lm f).toArray 83) (.cells (natsV .u64 lx).toArray 24) 24 (natsV .u64 (zeros 4)))
  have BEL := Lib.hid ((((Below.refl w.heap.size w).alloc (Nat.le_refl _) (.cells (primL lm f).toArray 83)).alloc (by simp) (.cells (natsV .u64 lx).toArray 24)).alloc (by simp; omega) (.cells (natsV .u64 (zeros 4)).toArray 24))
  have c0 : (((w.alloc (.cells (primL lm f).toArray 83)).alloc (.cells (natsV .u64 lx).toArray 24)).alloc (.cells #[.int .u64 0, .int .u64 0, .int .u64 0, .int .u64 0] 24)).cell? ⟨w.heap.size + 1, 0, none⟩ = some (.int .u64 (lx.getD 0 0 : Nat)) := B2.out.nat 0 (by rw [LX.out]; omega)
  have c1 : (((w.alloc (.cells (primL lm f).toArray 83)).alloc (.cells (natsV .u64 lx).toArray 24)).alloc (.cells #[.int .u64 0, .int .u64 0, .int .u64 0, .int .u64 0] 24)).cell? ⟨w.heap.size + 1, 1, none⟩ = some (.int .u64 (lx.getD 1 0 : Nat)) := B2.out.nat 1 (by rw [LX.out]; omega)
  have c2 : (((w.alloc (.cells (primL lm f).toArray 83)).alloc (.cells (natsV .u64 lx).toArray 24)).alloc (.cells #[.int .u64 0, .int .u64 0, .int .u64 0, .int .u64 0] 24)).cell? ⟨w.heap.size + 1, 2, none⟩ = some (.int .u64 (lx.getD 2 0 : Nat)) := B2.out.nat 2 (by rw [LX.out]; omega)
  have c3 : (((w.alloc (.cells (primL lm f).toArray 83)).alloc (.cells (natsV .u64 lx).toArray 24)).alloc (.cells #[.int .u64 0, .int .u64 0, .int .u64 0, .int .u64 0] 24)).cell? ⟨w.heap.size + 1, 3, none⟩ = some (.int .u64 (lx.getD 3 0 : Nat)) := B2.out.nat 3 (by rw [LX.out]; omega)
  rw [AX.out 0 (by omega)] at c0
  rw [AX.out 1 (by omega)] at c1
  rw [AX.out 2 (by omega)] at c2
  rw [AX.out 3 (by omega)] at c3
  generalize dgt (2 ^ 64) x 0 = x0 at *
  generalize dgt (2 ^ 64) x 1 = x1 at *
  generalize dgt (2 ^ 64) x 2 = x2 at *
  generalize dgt (2 ^ 64) x 3 = x3 at *
  clear H hx AX
  go_enter Try.func58, Try.ntmps58
  go_wp2_with (first | (refine ldm rfl (.tmp 18) rfl w.heap.size rfl lm _ B1.out LM.out ?_))
  refine (HDR.out _).mono ?_
  rintro e w1 ⟨rfl, hbw1⟩
  have C2 := Lib.hid (B1.out.below' hbw1)
  have C3 := Lib.hid (B2.out.below' hbw1)
  have C4 := Lib.hid (B3.out.below' hbw1)
  have hbel5 := BEL.out.trans (hbw1.mono BEL.out.size)
  clear B1 B2 B3 hbw1
  clear c0 c1 c2 c3
  clear C2 C3
  have Z7 := Lib.hid ((Blk.new w1 26 (natsV .u64 (zeros 8))).alloc (.cells (natsV .u64 (zeros 4)).toArray 24))
  have Z8 := Lib.hid (Blk.new2 w1 (.cells (natsV .u64 (zeros 8)).toArray 26) 24 (natsV .u64 (zeros 4)))
  have Z9 := Lib.hid (Z8.out.row (natsV .u64 lq).toArray (show w1.heap.size + 1 ≠ w1.heap.size by omega))
  have hz10 := Lib.hid (below_setRow' (below_setRow' ((hbel5.alloc hbel5.size (.cells (natsV .u64 (zeros 8)).toArray 26)).alloc (by have := hbel5.size; simp; omega) (.cells (natsV .u64 (zeros 4)).toArray 24)) hbel5.size (natsV .u64 lq).toArray) (show w.heap.size ≤ w1.heap.size + 1 by have := hbel5.size; omega) (natsV .u64 lr).toArray)
  have Y11 := Lib.hid ((((C4.out.alloc (.cells (natsV .u64 (zeros 8)).toArray 26)).alloc (.cells (natsV .u64 (zeros 4)).toArray 24)).row (natsV .u64 lq).toArray (Nat.ne_of_lt C4.out.lt)).row (natsV .u64 lr).toArray (show (w.heap.size + 1 + 1) ≠ w1.heap.size + 1 by have := C4.out.lt; omega))
  have Y12 := Lib.hid ((Z7.out.setRow (natsV .u64 lq)).row (natsV .u64 lr).toArray (show w1.heap.size ≠ w1.heap.size + 1 by omega))
  have Y13 := Lib.hid (Z9.out.setRow (natsV .u64 lr))
  go_wp2_with (first | (refine st26 rfl (.tmp 5) (.tmp 21) rfl w1.heap.size rfl lq rfl LQ.out (zeros 8) Z7.out rfl ?_) | (refine st24 rfl (.tmp 6) (.tmp 22) rfl (w1.heap.size + 1) rfl lr rfl LR.out (zeros 4) Z9.out rfl ?_; generalize hW : World.setRow _ _ _ = w6; have D15 := Lib.hid (show Blk w6 (w.heap.size + 1 + 1) 24 (natsV .u64 (zeros 4)) from (by rw [← hW]; exact Y11.out)); have D16 := Lib.hid (show Blk w6 w1.heap.size 26 (natsV .u64 lq) from (by rw [← hW]; exact Y12.out)); have D17 := Lib.hid (show Blk w6 (w1.heap.size + 1) 24 (natsV .u64 lr) from (by rw [← hW]; exact Y13.out)); have hbel18 : Below w.heap.size w w6 := (by rw [← hW]; exact hz10.out); clear hW Z7 Z8 Z9 hz10 C4 Y11 Y12 Y13 hbel5; generalize w1.heap.size = G14 at *) | (refine ld24 rfl (.tmp 6) rfl (G14 + 1) rfl lr D17.out LR.out ?_) | (refine st24 rfl (.tmp 4) (.tmp 24) rfl (w.heap.size + 1 + 1) rfl lr rfl LR.out (zeros 4) D15.out rfl ?_))
  refine bodyPost_ret (v := .agg (natsV .u64 lr).toArray) ?_ rfl ⟨rfl, below_setRow' hbel18 (by omega) _⟩
  exact ret24 Try.results58 _ _ (w.heap.size + 1 + 1) lr rfl (D15.out.setRow _) LR.out
set_option maxRecDepth 100000 in
set_option maxHeartbeats 800000 in
theorem out_any (m f v x : Nat) (w : World) (H : Fld m f v) (hx : x < 2 ^ 256) :
    Calls Try.prog 101 #[.agg (primL (wds 4 m) f).toArray, .agg (natsV .u64 (wds 4 x)).toArray] w fun e w' => e = .returned (.agg (natsV .u64 (wds 4 (ofF m v x))).toArray) ∧ Below w.heap.size w w' := by
  have HRE := Lib.hid (fun w => reduce_any m f v x w H (Nat.lt_of_lt_of_le hx (Nat.le_mul_of_pos_left _ H.pos)))
  rw [wds8_low x hx] at HRE
  have LX := Lib.hid (wds_len 4 x)
  have AX := Lib.hid (wds_at 4 x)
  have LP := Lib.hid (primL_len (wds 4 m) f (wds_len 4 m))
  have LR := Lib.hid (wds_len 4 (ofF m v x))
  generalize wds 4 (ofF m v x) = lr at *
  generalize wds 4 m = lm at *
  generalize wds 4 x = lx at *
  have B1 := Lib.hid (((Blk.new w 83 (primL lm f)).alloc (.cells (natsV .u64 lx).toArray 24)).alloc (.cells (natsV .u64 (zeros 4)).toArray 24))
  have B2 := Lib.hid ((Blk.new2 w (.cells (primL lm f).toArray 83) 24 (natsV .u64 lx)).alloc (.cells (natsV .u64 (zeros 4)).toArray 24))
  have B3 := Lib.hid (Blk.new3 w (.cells (primL lm f).toArray 83) (.cells (natsV .u64 lx).toArray 24) 24 (natsV .u64 (zeros 4)))
  have BEL := Lib.hid ((((Below.refl w.heap.size w).alloc (Nat.le_refl _) (.cells (primL lm f).toArray 83)).alloc (by simp) (.cells (natsV .u64 lx).toArray 24)).alloc (by simp; omega) (.cells (natsV .u64 (zeros 4)).toArray 24))
  have c0 : (((w.alloc (.cells (primL lm f).toArray 83)).alloc (.cells (natsV .u64 lx).toArray 24)).alloc (.cells #[.int .u64 0, .int .u64 0, .int .u64 0, .int .u64 0] 24)).cell? ⟨w.heap.size + 1, 0, none⟩ = some (.int .u64 (lx.getD 0 0 : Nat)) := B2.out.nat 0 (by rw [LX.out]; omega)
  have c1 : (((w.alloc (.cells (primL lm f).toArray 83)).alloc (.cells (natsV .u64 lx).toArray 24)).alloc (.cells #[.int .u64 0, .int .u64 0, .int .u64 0, .int .u64 0] 24)).cell? ⟨w.heap.size + 1, 1, none⟩ = some (.int .u64 (lx.getD 1 0 : Nat)) := B2.out.nat 1 (by rw [LX.out]; omega)
  have c2 : (((w.alloc (.cells (primL lm f).toArray 83)).alloc (.cells (natsV .u64 lx).toArray 24)).alloc (.cells #[.int .u64 0, .int .u64 0, .int .u64 0, .int .u64 0] 24)).cell? ⟨w.heap.size + 1, 2, none⟩ = some (.int .u64 (lx.getD 2 0 : Nat)) := B2.out.nat 2 (by rw [LX.out]; omega)
  have c3 : (((w.alloc (.cells (primL lm f).toArray 83)).alloc (.cells (natsV .u64 lx).toArray 24)).alloc (.cells #[.int .u64 0, .int .u64 0, .int .u64 0, .int .u64 0] 24)).cell? ⟨w.heap.size + 1, 3, none⟩ = some (.int .u64 (lx.getD 3 0 : Nat)) := B2.out.nat 3 (by rw [LX.out]; omega)
  rw [AX.out 0 (by omega)] at c0
  rw [AX.out 1 (by omega)] at c1
  rw [AX.out 2 (by omega)] at c2
  rw [AX.out 3 (by omega)] at c3
  generalize dgt (2 ^ 64) x 0 = x0 at *
  generalize dgt (2 ^ 64) x 1 = x1 at *
  generalize dgt (2 ^ 64) x 2 = x2 at *
  generalize dgt (2 ^ 64) x 3 = x3 at *
  clear H hx AX
  go_enter Try.func101, Try.ntmps101
  go_wp2_with (first | (refine ld83 rfl (.tmp 2) rfl w.heap.size rfl (primL lm f) B1.out LP.out ?_))
  refine (HRE.out _).mono ?_
  rintro e w1 ⟨rfl, hbw1⟩
  have C2 := Lib.hid (B1.out.below' hbw1)
  have C3 := Lib.hid (B2.out.below' hbw1)
  have C4 := Lib.hid (B3.out.below' hbw1)
  have hbel5 := BEL.out.trans (hbw1.mono BEL.out.size)
  clear B1 B2 B3 hbw1
  clear c0 c1 c2 c3
  go_wp2_with (refine st24 rfl (.tmp 4) (.tmp 15) rfl (w.heap.size + 1 + 1) rfl lr rfl LR.out (zeros 4) C4.out rfl ?_)
  refine bodyPost_ret (v := .agg (natsV .u64 lr).toArray) ?_ rfl ⟨rfl, below_setRow' hbel5 (by omega) _⟩
  exact ret24 Try.results101 _ _ (w.heap.size + 1 + 1) lr rfl (C4.out.setRow _) LR.out
end Go.Proofs.Ytfffmoolkgheaaa
