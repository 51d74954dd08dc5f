/- Parts of proofs of statements, each text behind those that it stands on. No condition of its own. -/
import Derived.Test.YtdkkombpkojjaaaD12
namespace Go.Proofs.Ytdkkombpkojjaaa
set_option maxRecDepth 100000
set_option maxHeartbeats 800000
open Go.RowKit
set_option linter.unusedVariables false
set_option linter.unusedSimpArgs false
theorem keepT3 {w w' : World} {g1 g2 g3 : Nat} {a b c : List Value} (hb : Below w.heap.size w w') (h : w.rangeAt g1 0 a ∧ w.rangeAt g2 0 b ∧ w.rangeAt g3 0 c) : w'.rangeAt g1 0 a ∧ w'.rangeAt g2 0 b ∧ w'.rangeAt g3 0 c :=
 ⟨range_keepV h.1 hb, range_keepV h.2.1 hb, range_keepV h.2.2 hb⟩
theorem ptimes_any (m f v a b : Nat) (w : World) (H : Fld m f v) (hab : a * b < m * 2 ^ 256) (ha : a < 2 ^ 256) (hb : b < 2 ^ 256) :
   Calls Try.prog 51 #[.agg (primL (wds 4 m) f).toArray, .agg (natsV .u64 (wds 4 a)).toArray, .agg (natsV .u64 (wds 4 b)).toArray] w fun e w' => e = .returned (.agg (natsV .u64 (wds 4 (ofF m v (a * b)))).toArray) ∧ Below w.heap.size w w' := by
 have HMU := Hd (fun w => Mul_any a b w ha hb)
 have HRE := Hd (fun w => reduce_any m f v (a * b) w H hab)
 have LA := Hd (wds_len 4 a)
 have LB := Hd (wds_len 4 b)
 have LP := Hd (primL_len (wds 4 m) f (wds_len 4 m))
 have LR := Hd (wds_len 4 (ofF m v (a * b)))
 generalize wds 4 (ofF m v (a * b)) = lr at *
 generalize wds 8 (a * b) = l8 at *
 generalize wds 4 a = la at *
 generalize wds 4 b = lb at *
 generalize wds 4 m = lm at *
 clear H hab ha hb
 have i71 : (Try.prog.info? 82).map (·.size) = some (primL lm f).length := by rw [info83, LP.out]
 have i24a : (Try.prog.info? 24).map (·.size) = some (natsV .u64 la).length := by rw [info24, natsV_length, LA.out]
 have i24b : (Try.prog.info? 24).map (·.size) = some (natsV .u64 lb).length := by rw [info24, natsV_length, LB.out]
 have B1 := Hd ((((Blk.new w 82 (primL lm f)).alloc (.cells (natsV .u64 la).toArray 24)).alloc (.cells (natsV .u64 lb).toArray 24)).alloc (.cells (natsV .u64 (zeros 4)).toArray 24))
 have B2 := Hd (((Blk.new2 w (.cells (primL lm f).toArray 82) 24 (natsV .u64 la)).alloc (.cells (natsV .u64 lb).toArray 24)).alloc (.cells (natsV .u64 (zeros 4)).toArray 24))
 have B3 := Hd ((Blk.new3 w (.cells (primL lm f).toArray 82) (.cells (natsV .u64 la).toArray 24) 24 (natsV .u64 lb)).alloc (.cells (natsV .u64 (zeros 4)).toArray 24))
 have B4 := Hd (Blk.new4 w (.cells (primL lm f).toArray 82) (.cells (natsV .u64 la).toArray 24) (.cells (natsV .u64 lb).toArray 24) 24 (natsV .u64 (zeros 4)))
 have BEL := Hd (((((Below.refl w.heap.size w).alloc (Nat.le_refl _) (.cells (primL lm f).toArray 82)).alloc (by simp) (.cells (natsV .u64 la).toArray 24)).alloc (by simp; omega) (.cells (natsV .u64 lb).toArray 24)).alloc (by simp; omega) (.cells (natsV .u64 (zeros 4)).toArray 24))
 go_enter Try.func51, Try.ntmps51
 go_wp2_with fail
 refine wp_region_held_drew (S := (fun w' => w'.rangeAt w.heap.size 0 (primL lm f) ∧ w'.rangeAt (w.heap.size + 1) 0 (natsV .u64 la) ∧ w'.rangeAt (w.heap.size + 1 + 1) 0 (natsV .u64 lb))) (by kernel_rfl) ⟨blk_rangeV B1.out.drew, blk_rangeV B2.out.drew, blk_rangeV B3.out.drew⟩ (fun hHeld => ?_)
 refine th0 0 rfl (yieldsIf_load_mid (by rfl) _ _ rfl _ _ rfl _ _ (by intro w hSw; exact hSw.1) Try.underlying82 rfl i71) hHeld ?_
 try simp only [Act.put, zq]
 refine th0 1 rfl (yieldsIf_load_mid (by rfl) _ _ rfl _ _ rfl _ _ (by intro w hSw; exact hSw.2.1) Try.underlying24 rfl i24a) hHeld ?_
 try simp only [Act.put, zq]
 refine th0 2 rfl (yieldsIf_load_mid (by rfl) _ _ rfl _ _ rfl _ _ (by intro w hSw; exact hSw.2.2) Try.underlying24 rfl i24b) hHeld ?_
 try simp only [Act.put, zq]
 refine wpAnyH_ready (rs := [3]) (by kernel_rfl) (by simp) ?_
 refine AllReadyH.cons (o := _) rfl (fun K hK => ?_) AllReadyH.nil
 go_simp
 go_at_call 75
 refine (HMU.out _).mono ?_
 rintro e wx1 ⟨rfl, hbx1⟩
 refine hK.out _ _ (keepT3 hbx1 hHeld) (fun hHeld2 => ?_)
 clear hK K hHeld
 have hHeld := hHeld2
 clear hHeld2
 try simp only [Act.put, zq]
 refine wpAnyH_ready (rs := [4]) (by kernel_rfl) (by simp) ?_
 refine AllReadyH.cons (o := _) rfl (fun K hK => ?_) AllReadyH.nil
 go_simp
 go_at_call 74
 refine (HRE.out _).mono ?_
 rintro e wx2 ⟨rfl, hbx2⟩
 refine hK.out _ _ (keepT3 hbx2 hHeld) (fun hHeld2 => ?_)
 clear hK K hHeld
 have hHeld := hHeld2
 clear hHeld2
 try simp only [Act.put, zq]
 refine wpAnyH_ready (rs := [5]) (by kernel_rfl) (by simp) ?_
 refine AllReadyH.cons (o := _) rfl (fun K hK => ?_) AllReadyH.nil
 rw [if_pos (by rfl)]
 refine wst24 (.tmp 6) (.tmp 11) rfl (w.heap.size + 1 + 1 + 1) rfl lr rfl LR.out (zeros 4) ((B4.out.drew.below' hbx1).below' hbx2) rfl ?_
 refine hK.out _ _ (⟨blk_rangeV (((B1.out.drew.below' hbx1).below' hbx2).row (natsV .u64 lr).toArray (show w.heap.size ≠ w.heap.size + 1 + 1 + 1 by omega)), blk_rangeV (((B2.out.drew.below' hbx1).below' hbx2).row (natsV .u64 lr).toArray (show w.heap.size + 1 ≠ w.heap.size + 1 + 1 + 1 by omega)), blk_rangeV (((B3.out.drew.below' hbx1).below' hbx2).row (natsV .u64 lr).toArray (show w.heap.size + 1 + 1 ≠ w.heap.size + 1 + 1 + 1 by omega))⟩) (fun hHeld2 => ?_)
 clear hK K hHeld
 have hHeld := hHeld2
 clear hHeld2
 try simp only [Act.put, zq]
 refine wpAnyH_done (by kernel_rfl) ?_ _
 have j4 := ((B4.out.drew.below' hbx1).below' hbx2).setRow (natsV .u64 lr)
 have hb1 := BEL.out.drew.trans (hbx1.mono BEL.out.drew.size)
 have hb2 := below_setRow' (hb1.trans (hbx2.mono hb1.size)) (show w.heap.size ≤ w.heap.size + 1 + 1 + 1 by omega) (natsV .u64 lr).toArray
 go_wp2_with fail
 refine bodyPost_ret (v := .agg (natsV .u64 lr).toArray) ?_ rfl ⟨rfl, hb2⟩
 exact ret24 Try.results51 _ _ (w.heap.size + 1 + 1 + 1) lr rfl j4 LR.out
theorem tell8 (g : Nat → Nat) : tell g 8 = [g 0, g 1, g 2, g 3, g 4, g 5, g 6, g 7] := by simp [tell, List.range_succ]
theorem dgt_up (x i : Nat) : dgt (2 ^ 64) (0 + 2 ^ 256 * x) (4 + i) = dgt (2 ^ 64) x i := by
 unfold dgt
 rw [Nat.zero_add, Nat.pow_add, ← Nat.div_div_eq_div_mul, show (2 ^ 64) ^ 4 = 2 ^ 256 from pow256, Nat.mul_div_cancel_left _ (Nat.two_pow_pos 256)]
theorem dgt_up0 (x i : Nat) (h : i < 4) : dgt (2 ^ 64) (0 + 2 ^ 256 * x) i = 0 := by
 rw [← pow256, dgt_add_high (2 ^ 64) 0 x i 4 (by decide) h]
 simp [dgt]
theorem wds8_up (x : Nat) : (natsV .u64 (wds 8 (0 + 2 ^ 256 * x))).toArray = #[.int .u64 0, .int .u64 0, .int .u64 0, .int .u64 0, .int .u64 (dgt (2 ^ 64) x 0 : Nat), .int .u64 (dgt (2 ^ 64) x 1 : Nat), .int .u64 (dgt (2 ^ 64) x 2 : Nat), .int .u64 (dgt (2 ^ 64) x 3 : Nat)] := by
 rw [wds, tell8, dgt_up0 x 0 (by omega), dgt_up0 x 1 (by omega), dgt_up0 x 2 (by omega), dgt_up0 x 3 (by omega), show (4 : Nat) = 4 + 0 from rfl, dgt_up x 0, show (5 : Nat) = 4 + 1 from rfl, dgt_up x 1, show (6 : Nat) = 4 + 2 from rfl, dgt_up x 2, show (7 : Nat) = 4 + 3 from rfl, dgt_up x 3]
 simp [natsV]
theorem wds8_low (x : Nat) (hx : x < 2 ^ 256) : (natsV .u64 (wds 8 x)).toArray = #[.int .u64 (dgt (2 ^ 64) x 0 : Nat), .int .u64 (dgt (2 ^ 64) x 1 : Nat), .int .u64 (dgt (2 ^ 64) x 2 : Nat), .int .u64 (dgt (2 ^ 64) x 3 : Nat), .int .u64 0, .int .u64 0, .int .u64 0, .int .u64 0] := by
 have hz : ∀ i, 4 ≤ i → dgt (2 ^ 64) x i = 0 := fun i hi => by
   unfold dgt
   rw [Nat.div_eq_of_lt (Nat.lt_of_lt_of_le hx (by rw [← pow256]; exact Nat.pow_le_pow_right (by decide) hi)), Nat.zero_mod]
 rw [wds, tell8, hz 4 (by omega), hz 5 (by omega), hz 6 (by omega), hz 7 (by omega)]
 simp [natsV]
theorem in_any (m f v x : Nat) (w : World) (H : Fld m f v) (hx : x < 2 ^ 256) :
   Calls Try.prog 50 #[.agg (primL (wds 4 m) f).toArray, .agg (natsV .u64 (wds 4 x)).toArray] w fun e w' => e = .returned (.agg (natsV .u64 (wds 4 (toF m x))).toArray) ∧ Below w.heap.size w w' := by
 have HDR := Hd (fun w => DivRem_any 0 x m w (by decide) hx H.lt (Nat.pos_iff_ne_zero.1 H.pos))
 rw [wds8_up x, show (0 + 2 ^ 256 * x) % m = toF m x by rw [Nat.zero_add, Nat.mul_comm]; rfl] at HDR
 have LX := Hd (wds_len 4 x)
 have AX := Hd (wds_at 4 x)
 have LM := Hd (wds_len 4 m)
 have LP := Hd (primL_len (wds 4 m) f (wds_len 4 m))
 have LR := Hd (wds_len 4 (toF m x))
 have LQ := Hd (wds_len 8 ((0 + 2 ^ 256 * x) / m))
 generalize wds 8 ((0 + 2 ^ 256 * x) / m) = lq at *
 generalize wds 4 (toF m x) = lr at *
 generalize wds 4 m = lm at *
 generalize wds 4 x = lx at *
 have B1 := Hd (((Blk.new w 82 (primL lm f)).alloc (.cells (natsV .u64 lx).toArray 24)).alloc (.cells (natsV .u64 (zeros 4)).toArray 24))
 have B2 := Hd ((Blk.new2 w (.cells (primL lm f).toArray 82) 24 (natsV .u64 lx)).alloc (.cells (natsV .u64 (zeros 4)).toArray 24))
 have B3 := Hd (Blk.new3 w (.cells (primL lm f).toArray 82) (.cells (natsV .u64 lx).toArray 24) 24 (natsV .u64 (zeros 4)))
 have BEL := Hd ((((Below.refl w.heap.size w).alloc (Nat.le_refl _) (.cells (primL lm f).toArray 82)).alloc (by simp) (.cells (natsV .u64 lx).toArray 24)).alloc (by simp; omega) (.cells (natsV .u64 (zeros 4)).toArray 24))
 have c0 : (((w.alloc (.cells (primL lm f).toArray 82)).alloc (.cells (natsV .u64 lx).toArray 24)).alloc (.cells #[.int .u64 0, .int .u64 0, .int .u64 0, .int .u64 0] 24)).cell? ⟨w.heap.size + 1, 0, none⟩ = some (.int .u64 (lx.getD 0 0 : Nat)) := B2.out.nat 0 (by rw [LX.out]; omega)
 have c1 : (((w.alloc (.cells (primL lm f).toArray 82)).alloc (.cells (natsV .u64 lx).toArray 24)).alloc (.cells #[.int .u64 0, .int .u64 0, .int .u64 0, .int .u64 0] 24)).cell? ⟨w.heap.size + 1, 1, none⟩ = some (.int .u64 (lx.getD 1 0 : Nat)) := B2.out.nat 1 (by rw [LX.out]; omega)
 have c2 : (((w.alloc (.cells (primL lm f).toArray 82)).alloc (.cells (natsV .u64 lx).toArray 24)).alloc (.cells #[.int .u64 0, .int .u64 0, .int .u64 0, .int .u64 0] 24)).cell? ⟨w.heap.size + 1, 2, none⟩ = some (.int .u64 (lx.getD 2 0 : Nat)) := B2.out.nat 2 (by rw [LX.out]; omega)
 have c3 : (((w.alloc (.cells (primL lm f).toArray 82)).alloc (.cells (natsV .u64 lx).toArray 24)).alloc (.cells #[.int .u64 0, .int .u64 0, .int .u64 0, .int .u64 0] 24)).cell? ⟨w.heap.size + 1, 3, none⟩ = some (.int .u64 (lx.getD 3 0 : Nat)) := B2.out.nat 3 (by rw [LX.out]; omega)
 rw [AX.out 0 (by omega)] at c0
 rw [AX.out 1 (by omega)] at c1
 rw [AX.out 2 (by omega)] at c2
 rw [AX.out 3 (by omega)] at c3
 generalize dgt (2 ^ 64) x 0 = x0 at *
 generalize dgt (2 ^ 64) x 1 = x1 at *
 generalize dgt (2 ^ 64) x 2 = x2 at *
 generalize dgt (2 ^ 64) x 3 = x3 at *
 clear H hx AX
 go_enter Try.func50, Try.ntmps50
 go_wp2_with (first | (refine ldm rfl (.tmp 18) rfl w.heap.size rfl lm _ B1.out LM.out ?_))
 refine (HDR.out _).mono ?_
 rintro e w1 ⟨rfl, hbw1⟩
 have C2 := Hd (B1.out.below' hbw1)
 have C3 := Hd (B2.out.below' hbw1)
 have C4 := Hd (B3.out.below' hbw1)
 have hbel5 := BEL.out.trans (hbw1.mono BEL.out.size)
 have Z7 := Hd ((Blk.new w1 103 (natsV .u64 (zeros 8))).alloc (.cells (natsV .u64 (zeros 4)).toArray 24))
 have Z8 := Hd (Blk.new2 w1 (.cells (natsV .u64 (zeros 8)).toArray 103) 24 (natsV .u64 (zeros 4)))
 have Z9 := Hd (Z8.out.row (natsV .u64 lq).toArray (show w1.heap.size + 1 ≠ w1.heap.size by omega))
 clear B1 B2 B3 hbw1 c0 c1 c2 c3 C2 C3
 have hz10 := Hd (below_setRow' (below_setRow' ((hbel5.alloc hbel5.size (.cells (natsV .u64 (zeros 8)).toArray 103)).alloc (by have := hbel5.size; simp; omega) (.cells (natsV .u64 (zeros 4)).toArray 24)) hbel5.size (natsV .u64 lq).toArray) (show w.heap.size ≤ w1.heap.size + 1 by have := hbel5.size; omega) (natsV .u64 lr).toArray)
 have Y11 := Hd ((((C4.out.alloc (.cells (natsV .u64 (zeros 8)).toArray 103)).alloc (.cells (natsV .u64 (zeros 4)).toArray 24)).row (natsV .u64 lq).toArray (Nat.ne_of_lt C4.out.lt)).row (natsV .u64 lr).toArray (show (w.heap.size + 1 + 1) ≠ w1.heap.size + 1 by have := C4.out.lt; omega))
 have Y12 := Hd ((Z7.out.setRow (natsV .u64 lq)).row (natsV .u64 lr).toArray (show w1.heap.size ≠ w1.heap.size + 1 by omega))
 have Y13 := Hd (Z9.out.setRow (natsV .u64 lr))
 go_wp2_with (first | (refine st26 rfl (.tmp 5) (.tmp 21) rfl w1.heap.size rfl lq rfl LQ.out (zeros 8) Z7.out rfl ?_) | (refine st24 rfl (.tmp 6) (.tmp 22) rfl (w1.heap.size + 1) rfl lr rfl LR.out (zeros 4) Z9.out rfl ?_; generalize hW : World.setRow _ _ _ = w6; have D15 := Hd (show Blk w6 (w.heap.size + 1 + 1) 24 (natsV .u64 (zeros 4)) from (by rw [← hW]; exact Y11.out)); have D16 := Hd (show Blk w6 w1.heap.size 103 (natsV .u64 lq) from (by rw [← hW]; exact Y12.out)); have D17 := Hd (show Blk w6 (w1.heap.size + 1) 24 (natsV .u64 lr) from (by rw [← hW]; exact Y13.out)); have hbel18 : Below w.heap.size w w6 := (by rw [← hW]; exact hz10.out); clear hW Z7 Z8 Z9 hz10 C4 Y11 Y12 Y13 hbel5; generalize w1.heap.size = G14 at *) | (refine ld24 rfl (.tmp 6) rfl (G14 + 1) rfl lr D17.out LR.out ?_) | (refine st24 rfl (.tmp 4) (.tmp 24) rfl (w.heap.size + 1 + 1) rfl lr rfl LR.out (zeros 4) D15.out rfl ?_))
 refine bodyPost_ret (v := .agg (natsV .u64 lr).toArray) ?_ rfl ⟨rfl, below_setRow' hbel18 (by omega) _⟩
 exact ret24 Try.results50 _ _ (w.heap.size + 1 + 1) lr rfl (D15.out.setRow _) LR.out
theorem out_any (m f v x : Nat) (w : World) (H : Fld m f v) (hx : x < 2 ^ 256) :
   Calls Try.prog 52 #[.agg (primL (wds 4 m) f).toArray, .agg (natsV .u64 (wds 4 x)).toArray] w fun e w' => e = .returned (.agg (natsV .u64 (wds 4 (ofF m v x))).toArray) ∧ Below w.heap.size w w' := by
 have HRE := Hd (fun w => reduce_any m f v x w H (Nat.lt_of_lt_of_le hx (Nat.le_mul_of_pos_left _ H.pos)))
 rw [wds8_low x hx] at HRE
 have LX := Hd (wds_len 4 x)
 have AX := Hd (wds_at 4 x)
 have LP := Hd (primL_len (wds 4 m) f (wds_len 4 m))
 have LR := Hd (wds_len 4 (ofF m v x))
 generalize wds 4 (ofF m v x) = lr at *
 generalize wds 4 m = lm at *
 generalize wds 4 x = lx at *
 have B1 := Hd (((Blk.new w 82 (primL lm f)).alloc (.cells (natsV .u64 lx).toArray 24)).alloc (.cells (natsV .u64 (zeros 4)).toArray 24))
 have B2 := Hd ((Blk.new2 w (.cells (primL lm f).toArray 82) 24 (natsV .u64 lx)).alloc (.cells (natsV .u64 (zeros 4)).toArray 24))
 have B3 := Hd (Blk.new3 w (.cells (primL lm f).toArray 82) (.cells (natsV .u64 lx).toArray 24) 24 (natsV .u64 (zeros 4)))
 have BEL := Hd ((((Below.refl w.heap.size w).alloc (Nat.le_refl _) (.cells (primL lm f).toArray 82)).alloc (by simp) (.cells (natsV .u64 lx).toArray 24)).alloc (by simp; omega) (.cells (natsV .u64 (zeros 4)).toArray 24))
 have c0 : (((w.alloc (.cells (primL lm f).toArray 82)).alloc (.cells (natsV .u64 lx).toArray 24)).alloc (.cells #[.int .u64 0, .int .u64 0, .int .u64 0, .int .u64 0] 24)).cell? ⟨w.heap.size + 1, 0, none⟩ = some (.int .u64 (lx.getD 0 0 : Nat)) := B2.out.nat 0 (by rw [LX.out]; omega)
 have c1 : (((w.alloc (.cells (primL lm f).toArray 82)).alloc (.cells (natsV .u64 lx).toArray 24)).alloc (.cells #[.int .u64 0, .int .u64 0, .int .u64 0, .int .u64 0] 24)).cell? ⟨w.heap.size + 1, 1, none⟩ = some (.int .u64 (lx.getD 1 0 : Nat)) := B2.out.nat 1 (by rw [LX.out]; omega)
 have c2 : (((w.alloc (.cells (primL lm f).toArray 82)).alloc (.cells (natsV .u64 lx).toArray 24)).alloc (.cells #[.int .u64 0, .int .u64 0, .int .u64 0, .int .u64 0] 24)).cell? ⟨w.heap.size + 1, 2, none⟩ = some (.int .u64 (lx.getD 2 0 : Nat)) := B2.out.nat 2 (by rw [LX.out]; omega)
 have c3 : (((w.alloc (.cells (primL lm f).toArray 82)).alloc (.cells (natsV .u64 lx).toArray 24)).alloc (.cells #[.int .u64 0, .int .u64 0, .int .u64 0, .int .u64 0] 24)).cell? ⟨w.heap.size + 1, 3, none⟩ = some (.int .u64 (lx.getD 3 0 : Nat)) := B2.out.nat 3 (by rw [LX.out]; omega)
 rw [AX.out 0 (by omega)] at c0
 rw [AX.out 1 (by omega)] at c1
 rw [AX.out 2 (by omega)] at c2
 rw [AX.out 3 (by omega)] at c3
 generalize dgt (2 ^ 64) x 0 = x0 at *
 generalize dgt (2 ^ 64) x 1 = x1 at *
 generalize dgt (2 ^ 64) x 2 = x2 at *
 generalize dgt (2 ^ 64) x 3 = x3 at *
 clear H hx AX
 go_enter Try.func52, Try.ntmps52
 go_wp2_with (first | (refine ld83 rfl (.tmp 2) rfl w.heap.size rfl (primL lm f) B1.out LP.out ?_))
 refine (HRE.out _).mono ?_
 rintro e w1 ⟨rfl, hbw1⟩
 have C2 := Hd (B1.out.below' hbw1)
 have C3 := Hd (B2.out.below' hbw1)
 have C4 := Hd (B3.out.below' hbw1)
 have hbel5 := BEL.out.trans (hbw1.mono BEL.out.size)
 clear B1 B2 B3 hbw1 c0 c1 c2 c3
 go_wp2_with (refine st24 rfl (.tmp 4) (.tmp 15) rfl (w.heap.size + 1 + 1) rfl lr rfl LR.out (zeros 4) C4.out rfl ?_)
 refine bodyPost_ret (v := .agg (natsV .u64 lr).toArray) ?_ rfl ⟨rfl, below_setRow' hbel5 (by omega) _⟩
 exact ret24 Try.results52 _ _ (w.heap.size + 1 + 1) lr rfl (C4.out.setRow _) LR.out
def lP : List Nat := [18446744073709551615, 4294967295, 0, 18446744069414584321]
def lN : List Nat := [17562291160714782033, 13611842547513532036, 18446744073709551615, 18446744069414584320]
theorem wds_P : wds 4 mP = lP := by decide +kernel
theorem wds_N : wds 4 mN = lN := by decide +kernel
theorem lit_P : (.agg #[.int .u64 18446744073709551615, .int .u64 4294967295, .int .u64 0, .int .u64 18446744069414584321, .int .u32 1] : Value) = .agg (primL lP 1).toArray := by simp [primL, lP, natsV]
theorem lit_N : (.agg #[.int .u64 17562291160714782033, .int .u64 13611842547513532036, .int .u64 18446744073709551615, .int .u64 18446744069414584320, .int .u32 3993025615] : Value) = .agg (primL lN fN).toArray := by simp [primL, lN, natsV, fN]
theorem lit_0 : (.agg #[.int .u64 0, .int .u64 0, .int .u64 0, .int .u64 0, .int .u32 0] : Value) = .agg (primL (zeros 4) 0).toArray := by simp [primL, zeros, natsV]
theorem primL_ok (l : List Nat) (f : Nat) (h : l.length = 4) : (primL l f).length = 5 ∧ (primL l f).toArray.all (·.oneCell') = true := ⟨primL_len l f h, primL_one l f⟩
inductive Wh : Int → Nat → Nat → Nat → Prop
 | p : Wh 1 mP 1 vP
 | n : Wh 2 mN fN vN
theorem Wh.fld {k : Int} {m f v : Nat} (h : Wh k m f v) : Fld m f v := by cases h; exact fld_P; exact fld_N
theorem primeOf_any (k : Int) (m f v : Nat) (w : World) (h : Wh k m f v) :
   Calls Try.prog 72 #[.int .i64 k] w fun e w' => e = .returned (.tuple #[.agg (primL (wds 4 m) f).toArray, .bool true]) ∧ Below w.heap.size w w' := by
 have B := Hd (Blk.new w 82 (primL (zeros 4) 0))
 have hbel := fun cs => below_setRow' ((Below.refl w.heap.size w).alloc (Nat.le_refl _) (.cells (primL (zeros 4) 0).toArray 82)) (Nat.le_refl _) cs
 cases h with
 | p =>
   rw [wds_P]
   have j := B.out.setRow (primL lP 1)
   have hb := hbel (primL lP 1).toArray
   clear hbel
   go_enter Try.func72, Try.ntmps72
   go_wp2_with (refine st83 rfl (.tmp 2) (.tmp 8) rfl w.heap.size rfl (primL lP 1) lit_P (primL_ok lP 1 rfl) (primL (zeros 4) 0) B.out rfl ?_)
   refine bodyPost_ret (v := .tuple #[.agg (primL lP 1).toArray, .bool true]) ?_ rfl ⟨rfl, hb⟩
   exact ret83x Try.results72 _ _ w.heap.size _ _ rfl rfl j rfl
 | n =>
   rw [wds_N]
   have j := B.out.setRow (primL lN fN)
   have hb := hbel (primL lN fN).toArray
   clear hbel
   go_enter Try.func72, Try.ntmps72
   go_wp2_with (refine st83 rfl (.tmp 2) (.tmp 12) rfl w.heap.size rfl (primL lN fN) lit_N (primL_ok lN fN rfl) (primL (zeros 4) 0) B.out rfl ?_)
   refine bodyPost_ret (v := .tuple #[.agg (primL lN fN).toArray, .bool true]) ?_ rfl ⟨rfl, hb⟩
   exact ret83x Try.results72 _ _ w.heap.size _ _ rfl rfl j rfl
theorem primeOf_no (k : Int) (w : World) (h : k ≠ 1 ∧ k ≠ 2) :
   Calls Try.prog 72 #[.int .i64 k] w fun e w' => e = .returned (.tuple #[.agg (primL (zeros 4) 0).toArray, .bool false]) ∧ Below w.heap.size w w' := by
 have B := Hd (Blk.new w 82 (primL (zeros 4) 0))
 have hb := below_setRow' ((Below.refl w.heap.size w).alloc (Nat.le_refl _) (.cells (primL (zeros 4) 0).toArray 82)) (Nat.le_refl _) (primL (zeros 4) 0).toArray
 have j := B.out.setRow (primL (zeros 4) 0)
 obtain ⟨h1, h2⟩ := h
 go_enter Try.func72, Try.ntmps72
 go_wp2_with (refine st83 rfl (.tmp 2) (.tmp 13) rfl w.heap.size rfl (primL (zeros 4) 0) lit_0 (primL_ok (zeros 4) 0 rfl) (primL (zeros 4) 0) B.out rfl ?_)
 refine bodyPost_ret (v := .tuple #[.agg (primL (zeros 4) 0).toArray, .bool false]) ?_ rfl ⟨rfl, hb⟩
 exact ret83x Try.results72 _ _ w.heap.size _ _ rfl rfl j rfl
theorem primeFor_no (k : Int) (A : Option Addr) (n c : Nat) (w : World) (h : k ≠ 1 ∧ k ≠ 2) :
   Calls Try.prog 49 #[.int .i64 k, .slice A n c] w fun e w' => e = .returned (.tuple #[.agg (primL (zeros 4) 0).toArray, .int .i64 51]) ∧ Below w.heap.size w w' := by
 have HP := Hd (fun w => primeOf_no k w h)
 have B1 := Hd (Blk.new w 82 (primL (zeros 4) 0))
 have BEL := Hd ((Below.refl w.heap.size w).alloc (Nat.le_refl _) (.cells (primL (zeros 4) 0).toArray 82))
 go_enter Try.func49, Try.ntmps49
 go_wp2_with fail
 refine (HP.out _).mono ?_
 rintro e w1 ⟨rfl, hbw1⟩
 have C2 := Hd (B1.out.below' hbw1)
 have hbel3 := BEL.out.trans (hbw1.mono BEL.out.size)
 have Z5 := Hd (Blk.new w1 82 ((primL (zeros 4) 0)))
 have hz6 := Hd (below_setRow' (hbel3.alloc hbel3.size (.cells ((primL (zeros 4) 0)).toArray 82)) hbel3.size ((primL (zeros 4) 0)).toArray)
 have Y7 := Hd ((C2.out.alloc (.cells ((primL (zeros 4) 0)).toArray 82)).row ((primL (zeros 4) 0)).toArray (Nat.ne_of_lt C2.out.lt))
 have Y8 := Hd (Z5.out.setRow ((primL (zeros 4) 0)))
 clear B1 hbw1
 go_wp2_with (first | (refine st83 rfl (.tmp 6) (.tmp 13) rfl w1.heap.size rfl (primL (zeros 4) 0) rfl (primL_ok (zeros 4) 0 rfl) (primL (zeros 4) 0) Z5.out rfl ?_; generalize hW : World.setRow _ _ _ = w4; have D10 := Hd (show Blk w4 w.heap.size 82 ((primL (zeros 4) 0)) from (by rw [← hW]; exact Y7.out)); have D11 := Hd (show Blk w4 w1.heap.size 82 ((primL (zeros 4) 0)) from (by rw [← hW]; exact Y8.out)); have LE_D11 := (hbel3).size; have NE_D10 := Nat.ne_of_lt C2.out.lt; have hbel12 : Below w.heap.size w w4 := (by rw [← hW]; exact hz6.out); clear hW Z5 hz6 C2 Y7 Y8 hbel3; generalize w1.heap.size = G9 at *) | (refine st83 rfl (.tmp 4) (.tmp 17) rfl w.heap.size rfl (primL (zeros 4) 0) lit_0 (primL_ok (zeros 4) 0 rfl) (primL (zeros 4) 0) D10.out rfl ?_))
 refine bodyPost_ret (v := .tuple #[.agg (primL (zeros 4) 0).toArray, .int .i64 51]) ?_ rfl ⟨rfl, below_setRow' hbel12 (Nat.le_refl _) _⟩
 exact ret83x Try.results49 _ _ w.heap.size _ _ rfl rfl (D10.out.setRow _) rfl
def Forms (w : World) (A : Option Addr) (xs : List Nat) : Prop := xs.length ≤ 4 ∧ (xs = [] ∨ ∃ g, A = some ⟨g, 0, none⟩ ∧ g < w.heap.size ∧ ∀ i, i < xs.length → w.rangeAt g (4 * i) (natsV .u64 (wds 4 (xs.getD i 0))))
theorem Forms.below {w w' : World} {A : Option Addr} {xs : List Nat} (h : Forms w A xs) (hb : Below w.heap.size w w') : Forms w' A xs := by
 refine ⟨h.1, h.2.imp id ?_⟩
 rintro ⟨g, h1, h2, h3⟩
 exact ⟨g, h1, Nat.lt_of_lt_of_le h2 hb.size, fun i hi j v hv => (hb.cell (p := ⟨g, 4 * i + j, none⟩) h2).trans (h3 i hi j v hv)⟩
def rangeE (m : Nat) (xs : List Nat) : Int := if ∀ x ∈ xs, x < m then 0 else 52
theorem primeFor_any (k : Int) (m f v : Nat) (A : Option Addr) (xs : List Nat) (c : Nat) (w : World) (h : Wh k m f v) (hxs : Forms w A xs) (hx : ∀ x ∈ xs, x < 2 ^ 256) :
   Calls Try.prog 49 #[.int .i64 k, .slice A xs.length c] w fun e w' => e = .returned (.tuple #[.agg (if ∀ x ∈ xs, x < m then primL (wds 4 m) f else primL (zeros 4) 0).toArray, .int .i64 (rangeE m xs)]) ∧ Below w.heap.size w w' := by
 have HP := Hd (fun w => primeOf_any k m f v w h)
 have hm := h.fld.lt
 have HC := Hd (fun x (hx : x < 2 ^ 256) w => Cmp_any x m w hx hm)
 have LM := Hd (wds_len 4 m)
 have LP := Hd (primL_ok (wds 4 m) f (wds_len 4 m))
 have HX := Hd hx
 have HF := Hd hxs
 have hlen := hxs.1
 obtain ⟨N, hN⟩ : ∃ N, N = xs.length := ⟨_, rfl⟩
 have HN := Hd hN
 rw [← hN] at hlen ⊢
 generalize wds 4 m = lm at *
 obtain ⟨rv, hrv⟩ : ∃ r, r = (if ∀ x ∈ xs, x < m then primL lm f else primL (zeros 4) 0) := ⟨_, rfl⟩
 obtain ⟨re, hre⟩ : ∃ r, r = rangeE m xs := ⟨_, rfl⟩
 rw [← hrv, ← hre]
 have HRV := Hd hrv
 have HRE := Hd hre
 have B1 := Hd (Blk.new w 82 (primL (zeros 4) 0))
 have BEL := Hd ((Below.refl w.heap.size w).alloc (Nat.le_refl _) (.cells (primL (zeros 4) 0).toArray 82))
 clear hrv hre h hxs hx hN
 go_enter Try.func49, Try.ntmps49
 go_wp2_with fail
 refine (HP.out _).mono ?_
 rintro e w1 ⟨rfl, hbw1⟩
 have C2 := Hd (B1.out.below' hbw1)
 have hbel3 := BEL.out.trans (hbw1.mono BEL.out.size)
 have HF2 := Hd (HF.out.below hbel3)
 have Z5 := Hd (Blk.new w1 82 ((primL (zeros 4) 0)))
 have hz6 := Hd (below_setRow' (hbel3.alloc hbel3.size (.cells ((primL (zeros 4) 0)).toArray 82)) hbel3.size ((primL lm f)).toArray)
 have Y7 := Hd ((C2.out.alloc (.cells ((primL (zeros 4) 0)).toArray 82)).row ((primL lm f)).toArray (Nat.ne_of_lt C2.out.lt))
 have Y8 := Hd (Z5.out.setRow ((primL lm f)))
 clear B1 hbw1
 go_wp2_with (first | (refine st83 rfl (.tmp 6) (.tmp 13) rfl w1.heap.size rfl (primL lm f) rfl LP.out (primL (zeros 4) 0) Z5.out rfl ?_; generalize hW : World.setRow _ _ _ = w4; have D10 := Hd (show Blk w4 w.heap.size 82 ((primL (zeros 4) 0)) from (by rw [← hW]; exact Y7.out)); have D11 := Hd (show Blk w4 w1.heap.size 82 ((primL lm f)) from (by rw [← hW]; exact Y8.out)); have LE_D11 := (hbel3).size; have NE_D10 := Nat.ne_of_lt C2.out.lt; have hbel12 : Below w.heap.size w w4 := (by rw [← hW]; exact hz6.out); have HF3 := Hd (HF.out.below hbel12); clear hW HF2 Z5 hz6 C2 Y7 Y8 hbel3; generalize w1.heap.size = G9 at *))
 go_loopw [20] (fun i wr => ∃ t : Nat, t ≤ N ∧ i = .int .i64 t ∧ (∀ j, j < t → xs.getD j 0 < m) ∧ Blk wr w.heap.size 82 (primL (zeros 4) 0) ∧ Blk wr G9 82 (primL lm f) ∧ Below w.heap.size w wr) (fun i _ => N - (intOf i).toNat)
 case atStart => exact ⟨0, by omega, rfl, fun j hj => absurd hj (Nat.not_lt_zero j), D10.out, D11.out, hbel12⟩
 case round =>
   clear D10 D11 hbel12 HF3
   obtain ⟨t, ht, rfl, hall, k1, k2, hbel⟩ := hrel
   have K1 := Hd k1
   have K2 := Hd k2
   have HA := Hd hall
   clear k1 k2 hall
   by_cases hs : t < N
   · as_aux_lemma =>
     have hti : (t : Int) < (N : Int) := by omega
     have hmem : xs.getD t 0 ∈ xs := by
       rw [List.getD_eq_getElem?_getD, List.getElem?_eq_getElem (show t < xs.length by rw [← HN.out]; exact hs)]
       exact List.getElem_mem _
     have hx := HX.out _ hmem
     obtain ⟨_, hcase⟩ := HF.out.below hbel
     obtain ⟨g, rfl, hg1, hg2⟩ := hcase.resolve_left (fun h0 => by rw [h0] at HN; have := HN.out; simp at this; omega)
     have HR := Hd (hg2 t (by rw [← HN.out]; exact hs))
     have LX := Hd (wds_len 4 (xs.getD t 0))
     have HCx := Hd (fun w => HC.out _ hx w)
     have HBAD := Hd (fun (h : ¬ xs.getD t 0 < m) => show (¬ ∀ x ∈ xs, x < m) from fun h2 => h (h2 _ hmem))
     have HNX := Hd (fun (h : xs.getD t 0 < m) => show (∀ j, j < t + 1 → xs.getD j 0 < m) from fun j hj => by
       rcases Nat.lt_or_ge j t with h1 | h1
       · exact HA.out j h1
       · obtain rfl : j = t := by omega
         exact h)
     clear HA hmem hx hg2 hcase HX HC
     generalize xs.getD t 0 = x at *
     generalize wds 4 x = lx at *
     have i4 : 4 * (t : Int) = ((4 * t : Nat) : Int) := by omega
     have Z52 := Hd (Blk.new wr 24 (natsV .u64 (zeros 4)))
     have hz53 := Hd (below_setRow' (hbel.alloc hbel.size (.cells (natsV .u64 (zeros 4)).toArray 24)) hbel.size (natsV .u64 lx).toArray)
     have Y54 := Hd ((K1.out.alloc (.cells (natsV .u64 (zeros 4)).toArray 24)).row (natsV .u64 lx).toArray (Nat.ne_of_lt K1.out.lt))
     have Y55 := Hd ((K2.out.alloc (.cells (natsV .u64 (zeros 4)).toArray 24)).row (natsV .u64 lx).toArray (Nat.ne_of_lt K2.out.lt))
     have Y56 := Hd (Z52.out.setRow (natsV .u64 lx))
     go_wp2_with (first | (refine wpList_load_mid rfl 24 (.tmp 22) rfl g (4 * t) (by first | rfl | (simp [Act.eval]; done) | (simp [Act.eval]; omega)) (natsV .u64 lx) _ HR.out Try.underlying24 rfl (by rw [info24, natsV_length, LX.out]) ?_) | (refine st24 rfl (.tmp 9) (.tmp 23) rfl wr.heap.size rfl lx rfl LX.out (zeros 4) Z52.out rfl ?_; generalize hW : World.setRow _ _ _ = w51; have D58 := Hd (show Blk w51 w.heap.size 82 ((primL (zeros 4) 0)) from (by rw [← hW]; exact Y54.out)); have D59 := Hd (show Blk w51 G9 82 ((primL lm f)) from (by rw [← hW]; exact Y55.out)); have D60 := Hd (show Blk w51 wr.heap.size 24 (natsV .u64 lx) from (by rw [← hW]; exact Y56.out)); have LE_D60 := (hbel).size; have NE_D59 := Nat.ne_of_lt K2.out.lt; have hbel61 : Below w.heap.size w w51 := (by rw [← hW]; exact hz53.out); clear hW Z52 hz53 K1 K2 Y54 Y55 Y56 hbel; generalize wr.heap.size = G57 at *) | (refine ld24 rfl (.tmp 9) rfl G57 rfl lx D60.out LX.out ?_) | (refine ldm rfl (.tmp 25) rfl G9 rfl lm _ D59.out LM.out ?_))
     refine (HCx.out _).mono ?_
     rintro e w62 ⟨rfl, hbw62⟩
     have C63 := Hd (D58.out.below' hbw62)
     have C64 := Hd (D59.out.below' hbw62)
     have C65 := Hd (D60.out.below' hbw62)
     have hbel66 := hbel61.trans (hbw62.mono hbel61.size)
     clear D58 D59 D60 hbw62 hbel61
     by_cases hlt : x < m
     · have hcz : ¬ (0 : Int) ≤ cmpZ x m := by rw [cmpZ_lt hlt]; decide
       clear HBAD HCx
       generalize cmpZ x m = cz at *
       go_wp2_with fail
       go_roundw
       case rel => exact ⟨t + 1, by omega, by go_num, HNX.out hlt, C63.out, C64.out, hbel66⟩
       case measure => simp [intOf] <;> omega
     · have hcz : (0 : Int) ≤ cmpZ x m := by
         rcases Nat.lt_or_ge m x with h3 | h3
         · rw [cmpZ_gt h3]; decide
         · obtain rfl : x = m := by omega
           rw [cmpZ_self]; decide
       have hno := HBAD.out hlt
       have er := HRV.out.trans (if_neg hno)
       have ee : re = 52 := HRE.out.trans (if_neg hno)
       clear HRV HRE HCx HNX hno
       subst er ee
       generalize cmpZ x m = cz at *
       go_wp2_with (refine st83 rfl (.tmp 4) (.tmp 29) rfl w.heap.size rfl (primL (zeros 4) 0) lit_0 (primL_ok (zeros 4) 0 rfl) (primL (zeros 4) 0) C63.out rfl ?_)
       refine bodyPost_ret (v := .tuple #[.agg (primL (zeros 4) 0).toArray, .int .i64 52]) ?_ rfl ⟨rfl, below_setRow' hbel66 (Nat.le_refl _) _⟩
       exact ret83x Try.results49 _ _ w.heap.size _ _ rfl rfl (C63.out.setRow _) rfl
   · obtain rfl : t = N := by omega
     have hti : ¬ ((t : Int) < (t : Int)) := by omega
     have hyes : ∀ x ∈ xs, x < m := by
       intro x hx
       obtain ⟨j, hj, rfl⟩ := List.mem_iff_getElem.1 hx
       have := HA.out j (by rw [HN.out]; exact hj)
       rw [List.getD_eq_getElem?_getD, List.getElem?_eq_getElem hj] at this
       exact this
     have er := HRV.out.trans (if_pos hyes)
     have ee : re = 0 := HRE.out.trans (if_pos hyes)
     clear HRV HRE
     subst er ee
     go_wp2_with (first | (refine ld83 rfl (.tmp 6) rfl G9 rfl (primL lm f) K2.out LP.out.1 ?_) | (refine st83 rfl (.tmp 4) (.tmp 31) rfl w.heap.size rfl (primL lm f) rfl LP.out (primL (zeros 4) 0) K1.out rfl ?_))
     refine bodyPost_ret (v := .tuple #[.agg (primL lm f).toArray, .int .i64 0]) ?_ rfl ⟨rfl, below_setRow' hbel (Nat.le_refl _) _⟩
     exact ret83x Try.results49 _ _ w.heap.size _ _ rfl rfl (K1.out.setRow _) LP.out.1
end Go.Proofs.Ytdkkombpkojjaaa
