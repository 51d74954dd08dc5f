/- Parts of proofs of statements, each text behind those that it stands on. No condition of its own. -/
import Derived.Test.YtdkkombpkojjaaaD20
import Derived.Test.YtdkkombpkojjaaaD21
import Derived.Test.YtdkkombpkojjaaaD22
import Derived.Test.YtdkkombpkojjaaaD23
namespace Go.Proofs.Ytdkkombpkojjaaa
set_option maxRecDepth 100000
set_option maxHeartbeats 1600000
open Go.RowKit
set_option linter.unusedVariables false
set_option linter.unusedSimpArgs false
theorem tof_inf 
   (c1 : Ans 20 #[] (.agg (pv (zeros 4) (zeros 4) true).toArray)) (w : World) :
   Calls Try.prog 39 #[.agg (pv (zeros 4) (zeros 4) true).toArray] w fun e w' => e = .returned (.agg (tv (zeros 4) (zeros 4) (zeros 4)).toArray) ∧ Below w.heap.size w w' := by
 have Hc1 := Hd c1
 have QE := Hd (fun w => (eql43 (zeros 4) (zeros 4) (zeros 4) (zeros 4) true true rfl rfl rfl rfl w).trans (by rw [decide_eq_true ⟨rfl, rfl, rfl⟩]))
 have B0_ := Hd ((Blk.new w  32 (pv (zeros 4) (zeros 4) true)).alloc (.cells (natsV .u64 (zeros 12)).toArray 67))
 have B1_ := Hd (Blk.new2 w (.cells (pv (zeros 4) (zeros 4) true).toArray 32) 67 (natsV .u64 (zeros 12)))
 have bel_ := (((Below.refl w.heap.size w).alloc (Nat.le_refl _) (.cells (pv (zeros 4) (zeros 4) true).toArray 32)).alloc (by simp) (.cells (natsV .u64 (zeros 12)).toArray 67))
 clear c1
 go_enter Try.func39, Try.ntmps39
 go_wp2_with fail
 as_aux_lemma =>
 refine wp_region_G (fun w_ => Blk w_ w.heap.size 32 (pv (zeros 4) (zeros 4) true)) 3 (by kernel_rfl) B0_.out.drew ?_
 refine tk gS1 0 rfl (lg' (fun _ hS_ => blk_all (hS_)) Try.underlying32 (i43 rfl rfl)) ?_
 try simp only [Act.put, zq]
 refine tk gS1 1 rfl (cg' Try.func20 (fun w _ => Hc1.out w)) ?_
 try simp only [Act.put, zq]
 refine tk gS1 2 rfl (pureG (by rfl) (by intro w; have q := QE.out; go_simp; first | done | with_reducible rfl)) ?_
 try simp only [Act.put, zq]
 refine wpAnyG_done (by kernel_rfl) ?_ _
 intro w1 hgw1
 try simp only [Act.put, zq]
 have E2 := dq' B0_ hgw1
 have E3 := dq' B1_ hgw1
 have hbel4 := bel_.drew.trans (Below.mono hgw1 bel_.drew.size)
 clear B0_ B1_ bel_ hgw1
 as_aux_lemma =>
 go_wp2_with (first | (refine stB rfl 67 (.tmp 2) (.tmp 6) rfl (w.heap.size + 1) rfl (tv (zeros 4) (zeros 4) (zeros 4)) rfl 67 (natsV .u64 (zeros 12)) E3.out (i103 z4l z4l z4l) (lenEq (show (natsV .u64 (zeros 12)).length = 12 from rfl) (tv_len z4l z4l z4l)) (tv_one _ _ _) ?_))
 refine bodyPost_ret (v := .agg (tv (zeros 4) (zeros 4) (zeros 4)).toArray) ?_ rfl ⟨rfl, below_setRow' hbel4 (by first | exact Nat.le_refl _ | omega) _⟩
 exact results_cell_row Try.results39 _ _ (w.heap.size + 1) 67 _ (0, 0) _ rfl (E3.out.setRow _) Try.underlying67 rfl (by simpa using (i103 z4l z4l z4l))
theorem tof_aff {lx ly ax ay az : List Nat} (hlx : lx.length = 4) (hly : ly.length = 4) (hax : ax.length = 4) (hay : ay.length = 4) (haz : az.length = 4)
   (c1 : Ans 20 #[] (.agg (pv (zeros 4) (zeros 4) true).toArray))
   (c2 : Ans 42 #[.agg (natsV .u64 lx).toArray] (.agg (natsV .u64 ax).toArray))
   (c3 : Ans 42 #[.agg (natsV .u64 ly).toArray] (.agg (natsV .u64 ay).toArray))
   (c4 : Ans 42 #[.agg #[.int .u64 1, .int .u64 0, .int .u64 0, .int .u64 0]] (.agg (natsV .u64 az).toArray)) (w : World) :
   Calls Try.prog 39 #[.agg (pv lx ly false).toArray] w fun e w' => e = .returned (.agg (tv ax ay az).toArray) ∧ Below w.heap.size w w' := by
 have L_lx := Hd hlx
 have L_ly := Hd hly
 have L_ax := Hd hax
 have L_ay := Hd hay
 have L_az := Hd haz
 have Hc1 := Hd c1
 have Hc2 := Hd c2
 have Hc3 := Hd c3
 have Hc4 := Hd c4
 have QE := Hd (fun w => (eql43 lx ly (zeros 4) (zeros 4) false true L_lx.out L_ly.out rfl rfl w).trans (by rw [decide_eq_false (fun h => by cases h.2.2)]))
 have B0_ := Hd ((Blk.new w  32 (pv lx ly false)).alloc (.cells (natsV .u64 (zeros 12)).toArray 67))
 have B1_ := Hd (Blk.new2 w (.cells (pv lx ly false).toArray 32) 67 (natsV .u64 (zeros 12)))
 have bel_ := (((Below.refl w.heap.size w).alloc (Nat.le_refl _) (.cells (pv lx ly false).toArray 32)).alloc (by simp) (.cells (natsV .u64 (zeros 12)).toArray 67))
 clear hlx hly hax hay haz c1 c2 c3 c4
 go_enter Try.func39, Try.ntmps39
 go_wp2_with fail
 as_aux_lemma =>
 refine wp_region_G (fun w_ => Blk w_ w.heap.size 32 (pv lx ly false)) 3 (by kernel_rfl) B0_.out.drew ?_
 refine tk gS1 0 rfl (lg' (fun _ hS_ => blk_all (hS_)) Try.underlying32 (i43 L_lx.out L_ly.out)) ?_
 try simp only [Act.put, zq]
 refine tk gS1 1 rfl (cg' Try.func20 (fun w _ => Hc1.out w)) ?_
 try simp only [Act.put, zq]
 refine tk gS1 2 rfl (pureG (by rfl) (by intro w; have q := QE.out; go_simp; first | done | with_reducible rfl)) ?_
 try simp only [Act.put, zq]
 refine wpAnyG_done (by kernel_rfl) ?_ _
 intro w1 hgw1
 try simp only [Act.put, zq]
 have E2 := dq' B0_ hgw1
 have E3 := dq' B1_ hgw1
 have hbel4 := bel_.drew.trans (Below.mono hgw1 bel_.drew.size)
 clear B0_ B1_ bel_ hgw1
 as_aux_lemma =>
 go_wp2_with fail
 as_aux_lemma =>
 refine wp_region_G (fun w_ => Blk w_ w.heap.size 32 (pv lx ly false)) 9 (by kernel_rfl) E2.out.drew ?_
 refine tkp gS1 0 rfl ?_
 try simp only [Act.put, zq]
 refine tk gS1 1 rfl (lg' (fun _ hS_ => pv_x (hS_)) Try.underlying24 (i24 L_lx.out)) ?_
 try simp only [Act.put, zq]
 refine tk gS1 2 rfl (cg' Try.func42 (fun w _ => Hc2.out w)) ?_
 try simp only [Act.put, zq]
 refine tkp gS1 3 rfl ?_
 try simp only [Act.put, zq]
 refine tk gS1 4 rfl (lg' (fun _ hS_ => pv_y (hS_) L_lx.out) Try.underlying24 (i24 L_ly.out)) ?_
 try simp only [Act.put, zq]
 refine tk gS1 5 rfl (cg' Try.func42 (fun w _ => Hc3.out w)) ?_
 try simp only [Act.put, zq]
 refine tkp gS1 6 rfl ?_
 try simp only [Act.put, zq]
 refine tk gS1 7 rfl (cg' Try.func42 (fun w _ => Hc4.out w)) ?_
 try simp only [Act.put, zq]
 refine tk gS1 8 rfl (buildG (by rfl) _ _ rfl _ (built103 L_ax.out L_ay.out L_az.out) (by simp [Act.eval])) ?_
 try simp only [Act.put, zq]
 refine wpAnyG_set (i := 9) (by kernel_rfl) (by kernel_rfl) rfl rfl E3.out.drew (lenEq (show (natsV .u64 (zeros 12)).length = 12 from rfl) (tv_len L_ax.out L_ay.out L_az.out)) (StoresG.mk (cs := (tv ax ay az)) (by rfl) 67 _ _ rfl rfl rfl (i103 L_ax.out L_ay.out L_az.out) (tv_one _ _ _)) ?_
 intro w5 hgw5 hn_
 try simp only [Act.put, zq]
 have hbel6 := belStore hbel4.drew hgw5 (show w.heap.size ≤ (w.heap.size + 1) by omega)
 have D7 := Hd hn_
 go_wp2_with fail
 refine bodyPost_ret (v := .agg (tv ax ay az).toArray) ?_ rfl ⟨rfl, hbel6⟩
 exact results_cell_row Try.results39 _ _ (w.heap.size + 1) 67 _ (0, 0) _ rfl D7.out Try.underlying67 rfl (by simpa using (i103 L_ax.out L_ay.out L_az.out))
theorem pt_inf {lx ly lz : List Nat} (hlx : lx.length = 4) (hly : ly.length = 4) (hlz : lz.length = 4)
   (c1 : Ans 62 #[.agg (tv lx ly lz).toArray] (.bool true))
   (c2 : Ans 20 #[] (.agg (pv (zeros 4) (zeros 4) true).toArray)) (w : World) :
   Calls Try.prog 40 #[.agg (tv lx ly lz).toArray] w fun e w' => e = .returned (.agg (pv (zeros 4) (zeros 4) true).toArray) ∧ Below w.heap.size w w' := by
 have L_lx := Hd hlx
 have L_ly := Hd hly
 have L_lz := Hd hlz
 have Hc1 := Hd c1
 have Hc2 := Hd c2
 have B0_ := Hd ((Blk.new w  67 (tv lx ly lz)).alloc (.cells (pv (zeros 4) (zeros 4) false).toArray 32))
 have B1_ := Hd (Blk.new2 w (.cells (tv lx ly lz).toArray 67) 32 (pv (zeros 4) (zeros 4) false))
 have bel_ := (((Below.refl w.heap.size w).alloc (Nat.le_refl _) (.cells (tv lx ly lz).toArray 67)).alloc (by simp) (.cells (pv (zeros 4) (zeros 4) false).toArray 32))
 clear hlx hly hlz c1 c2
 go_enter Try.func40, Try.ntmps40
 go_wp2_with (first | (refine lm' (blk_all (B0_.out)) Try.underlying67 (i103 L_lx.out L_ly.out L_lz.out) ?_))
 refine (Hc1.out _).mono ?_
 rintro e w1 ⟨rfl, hbw1⟩
 have C2 := gq' B0_ hbw1
 have C3 := gq' B1_ hbw1
 have hbel4 := bel_.trans (Below.mono hbw1 bel_.size)
 clear B0_ B1_ bel_ hbw1
 go_wp2_with fail
 refine (Hc2.out _).mono ?_
 rintro e w5 ⟨rfl, hbw5⟩
 have C6 := gq' C2 hbw5
 have C7 := gq' C3 hbw5
 have hbel8 := hbel4.trans (Below.mono hbw5 hbel4.size)
 clear C2 C3 hbel4 hbw5
 go_wp2_with (first | (refine stB rfl 32 (.tmp 2) (.tmp 7) rfl (w.heap.size + 1) rfl (pv (zeros 4) (zeros 4) true) rfl 32 (pv (zeros 4) (zeros 4) false) C7.out (i43 rfl rfl) (lenEq pz9 (show (pv (zeros 4) (zeros 4) true).length = 9 from rfl)) p1_ ?_))
 refine bodyPost_ret (v := .agg (pv (zeros 4) (zeros 4) true).toArray) ?_ rfl ⟨rfl, below_setRow' hbel8 (by first | exact Nat.le_refl _ | omega) _⟩
 exact results_cell_row Try.results40 _ _ (w.heap.size + 1) 32 _ (0, 0) _ rfl (C7.out.setRow _) Try.underlying32 rfl (by simpa using (i43 rfl rfl))
theorem pt_aff {lx ly lz wi sq x1 nx y1 y2 ny : List Nat} (hlx : lx.length = 4) (hly : ly.length = 4) (hlz : lz.length = 4) (hwi : wi.length = 4) (hsq : sq.length = 4) (hx1 : x1.length = 4) (hnx : nx.length = 4) (hy1 : y1.length = 4) (hy2 : y2.length = 4) (hny : ny.length = 4)
   (c1 : Ans 62 #[.agg (tv lx ly lz).toArray] (.bool false))
   (c2 : Ans 63 #[.agg (natsV .u64 lz).toArray] (.agg (natsV .u64 wi).toArray))
   (c3 : Ans 43 #[.agg (natsV .u64 wi).toArray] (.agg (natsV .u64 sq).toArray))
   (c4 : Ans 64 #[.agg (natsV .u64 lx).toArray, .agg (natsV .u64 sq).toArray] (.agg (natsV .u64 x1).toArray))
   (c5 : Ans 65 #[.agg (natsV .u64 x1).toArray] (.agg (natsV .u64 nx).toArray))
   (c6 : Ans 64 #[.agg (natsV .u64 ly).toArray, .agg (natsV .u64 sq).toArray] (.agg (natsV .u64 y1).toArray))
   (c7 : Ans 64 #[.agg (natsV .u64 y1).toArray, .agg (natsV .u64 wi).toArray] (.agg (natsV .u64 y2).toArray))
   (c8 : Ans 65 #[.agg (natsV .u64 y2).toArray] (.agg (natsV .u64 ny).toArray)) (w : World) :
   Calls Try.prog 40 #[.agg (tv lx ly lz).toArray] w fun e w' => e = .returned (.agg (pv nx ny false).toArray) ∧ Below w.heap.size w w' := by
 have L_lx := Hd hlx
 have L_ly := Hd hly
 have L_lz := Hd hlz
 have L_wi := Hd hwi
 have L_sq := Hd hsq
 have L_x1 := Hd hx1
 have L_nx := Hd hnx
 have L_y1 := Hd hy1
 have L_y2 := Hd hy2
 have L_ny := Hd hny
 have Hc1 := Hd c1
 have Hc2 := Hd c2
 have Hc3 := Hd c3
 have Hc4 := Hd c4
 have Hc5 := Hd c5
 have Hc6 := Hd c6
 have Hc7 := Hd c7
 have Hc8 := Hd c8
 have B0_ := Hd ((Blk.new w  67 (tv lx ly lz)).alloc (.cells (pv (zeros 4) (zeros 4) false).toArray 32))
 have B1_ := Hd (Blk.new2 w (.cells (tv lx ly lz).toArray 67) 32 (pv (zeros 4) (zeros 4) false))
 have bel_ := (((Below.refl w.heap.size w).alloc (Nat.le_refl _) (.cells (tv lx ly lz).toArray 67)).alloc (by simp) (.cells (pv (zeros 4) (zeros 4) false).toArray 32))
 clear hlx hly hlz hwi hsq hx1 hnx hy1 hy2 hny c1 c2 c3 c4 c5 c6 c7 c8
 go_enter Try.func40, Try.ntmps40
 go_wp2_with (first | (refine lm' (blk_all (B0_.out)) Try.underlying67 (i103 L_lx.out L_ly.out L_lz.out) ?_))
 refine (Hc1.out _).mono ?_
 rintro e w1 ⟨rfl, hbw1⟩
 have C2 := gq' B0_ hbw1
 have C3 := gq' B1_ hbw1
 have hbel4 := bel_.trans (Below.mono hbw1 bel_.size)
 clear B0_ B1_ bel_ hbw1
 go_wp2_with (first | (refine lm' (tv_z (C2.out) L_lx.out L_ly.out) Try.underlying65 (i94 L_lz.out) ?_))
 refine (Hc2.out _).mono ?_
 rintro e w5 ⟨rfl, hbw5⟩
 have C6 := gq' C2 hbw5
 have C7 := gq' C3 hbw5
 have hbel8 := hbel4.trans (Below.mono hbw5 hbel4.size)
 clear C2 C3 hbel4 hbw5
 go_wp2_with (first | (refine stN rfl 65 (.tmp 3) (.tmp 10) rfl w5 rfl (natsV .u64 wi) rfl 65 (natsV .u64 (zeros 4)) (i94 L_wi.out) (lz4 L_wi.out) n1' ?_; intro w9 hgw9 hnw9; have C12 := gq' C6 hgw9; clear C6; have C13 := gq' C7 hgw9; clear C7; have hbel14 := hbel8.trans (Below.mono hgw9 hbel8.size); clear hbel8; have D11 := Hd hnw9; clear hnw9 hgw9; generalize w5.heap.size = G10 at *) | (refine lm' (blk_all (D11.out)) Try.underlying65 (i94 L_wi.out) ?_))
 refine (Hc3.out _).mono ?_
 rintro e w15 ⟨rfl, hbw15⟩
 have C16 := gq' C12 hbw15
 have C17 := gq' C13 hbw15
 have C18 := gq' D11 hbw15
 have hbel19 := hbel14.trans (Below.mono hbw15 hbel14.size)
 clear C12 C13 D11 hbel14 hbw15
 go_wp2_with (first | (refine stN rfl 65 (.tmp 4) (.tmp 12) rfl w15 rfl (natsV .u64 sq) rfl 65 (natsV .u64 (zeros 4)) (i94 L_sq.out) (lz4 L_sq.out) n1' ?_; intro w20 hgw20 hnw20; have C23 := gq' C16 hgw20; clear C16; have C24 := gq' C17 hgw20; clear C17; have C25 := gq' C18 hgw20; clear C18; have hbel26 := hbel19.trans (Below.mono hgw20 hbel19.size); clear hbel19; have D22 := Hd hnw20; clear hnw20 hgw20; generalize w15.heap.size = G21 at *))
 as_aux_lemma =>
 refine wp_region_G (fun w_ => Blk w_ w.heap.size 67 (tv lx ly lz) ∧ Blk w_ G21 65 (natsV .u64 sq) ∧ Blk w_ G10 65 (natsV .u64 wi)) 13 (by kernel_rfl) ⟨C23.out.drew, D22.out.drew, C25.out.drew⟩ ?_
 refine tkp gS3 0 rfl ?_
 try simp only [Act.put, zq]
 refine tk gS3 1 rfl (lg' (fun _ hS_ => tv_x (hS_.1)) Try.underlying65 (i94 L_lx.out)) ?_
 try simp only [Act.put, zq]
 refine tk gS3 2 rfl (lg' (fun _ hS_ => blk_all (hS_.2.1)) Try.underlying65 (i94 L_sq.out)) ?_
 try simp only [Act.put, zq]
 refine tk gS3 3 rfl (cg' Try.func64 (fun w _ => Hc4.out w)) ?_
 try simp only [Act.put, zq]
 refine tk gS3 4 rfl (cg' Try.func65 (fun w _ => Hc5.out w)) ?_
 try simp only [Act.put, zq]
 refine tkp gS3 5 rfl ?_
 try simp only [Act.put, zq]
 refine tk gS3 6 rfl (lg' (fun _ hS_ => tv_y (hS_.1) L_lx.out) Try.underlying65 (i94 L_ly.out)) ?_
 try simp only [Act.put, zq]
 refine tk gS3 7 rfl (lg' (fun _ hS_ => blk_all (hS_.2.1)) Try.underlying65 (i94 L_sq.out)) ?_
 try simp only [Act.put, zq]
 refine tk gS3 8 rfl (cg' Try.func64 (fun w _ => Hc6.out w)) ?_
 try simp only [Act.put, zq]
 refine tk gS3 9 rfl (lg' (fun _ hS_ => blk_all (hS_.2.2)) Try.underlying65 (i94 L_wi.out)) ?_
 try simp only [Act.put, zq]
 refine tk gS3 10 rfl (cg' Try.func64 (fun w _ => Hc7.out w)) ?_
 try simp only [Act.put, zq]
 refine tk gS3 11 rfl (cg' Try.func65 (fun w _ => Hc8.out w)) ?_
 try simp only [Act.put, zq]
 refine tk gS3 12 rfl (buildG (by rfl) _ _ rfl _ (built43 L_nx.out L_ny.out) (by simp [Act.eval])) ?_
 try simp only [Act.put, zq]
 refine wpAnyG_set (i := 13) (by kernel_rfl) (by kernel_rfl) rfl rfl C24.out.drew (lenEq pz9 (pv_len L_nx.out L_ny.out)) (StoresG.mk (cs := (pv nx ny false)) (by rfl) 32 _ _ rfl rfl rfl (i43 L_nx.out L_ny.out) p1_) ?_
 intro w27 hgw27 hn_
 try simp only [Act.put, zq]
 have hbel28 := belStore hbel26.drew hgw27 (show w.heap.size ≤ (w.heap.size + 1) by omega)
 have D29 := Hd hn_
 go_wp2_with fail
 refine bodyPost_ret (v := .agg (pv nx ny false).toArray) ?_ rfl ⟨rfl, hbel28⟩
 exact results_cell_row Try.results40 _ _ (w.heap.size + 1) 32 _ (0, 0) _ rfl D29.out Try.underlying32 rfl (by simpa using (i43 L_nx.out L_ny.out))
theorem on_inf {lx ly : List Nat} (hlx : lx.length = 4) (hly : ly.length = 4)
   (c1 : Ans 20 #[] (.agg (pv (zeros 4) (zeros 4) true).toArray)) (w : World) :
   Calls Try.prog 21 #[.agg (pv lx ly true).toArray] w fun e w' => e = .returned (.bool (decide (lx = zeros 4 ∧ ly = zeros 4))) ∧ Below w.heap.size w w' := by
 have L_lx := Hd hlx
 have L_ly := Hd hly
 have Hc1 := Hd c1
 clear hlx hly c1
 obtain ⟨bb, hbb⟩ : ∃ bb, bb = decide (lx = zeros 4 ∧ ly = zeros 4) := ⟨_, rfl⟩
 have QE := Hd (fun w => (eql43 lx ly (zeros 4) (zeros 4) true true L_lx.out L_ly.out rfl rfl w).trans (by rw [show decide (lx = zeros 4 ∧ ly = zeros 4 ∧ true = true) = bb by rw [hbb]; simp]))
 rw [← hbb]
 have B0_ := Hd (Blk.new w  32 (pv lx ly true))
 have bel_ := ((Below.refl w.heap.size w).alloc (Nat.le_refl _) (.cells (pv lx ly true).toArray 32))
 clear hbb
 go_enter Try.func21, Try.ntmps21
 have ci := pv_i B0_.out L_lx.out L_ly.out
 go_wp2_with fail
 as_aux_lemma =>
 refine wp_region_G (fun w_ => Blk w_ w.heap.size 32 (pv lx ly true)) 4 (by kernel_rfl) B0_.out.drew ?_
 refine tk gS1 0 rfl (lg' (fun _ hS_ => blk_all (hS_)) Try.underlying32 (i43 L_lx.out L_ly.out)) ?_
 try simp only [Act.put, zq]
 refine tk gS1 1 rfl (cg' Try.func20 (fun w _ => Hc1.out w)) ?_
 try simp only [Act.put, zq]
 refine tk gS1 2 rfl (pureG (by rfl) (by intro w; have q := QE.out; go_simp; first | done | with_reducible rfl)) ?_
 try simp only [Act.put, zq]
 refine tkp gS1 3 rfl ?_
 try simp only [Act.put, zq]
 refine wpAnyG_done (by kernel_rfl) ?_ _
 intro w1 hgw1
 try simp only [Act.put, zq]
 have E2 := dq' B0_ hgw1
 have hbel3 := bel_.drew.trans (Below.mono hgw1 bel_.drew.size)
 clear B0_ bel_ hgw1
 as_aux_lemma =>
 go_wp2_with fail
 go_ret
 exact ⟨rfl, hbel3⟩
theorem on_a {lx ly : List Nat} (hlx : lx.length = 4) (hly : ly.length = 4)
   (c1 : Ans 41 #[.agg (natsV .u64 lx).toArray] (.bool false)) (w : World) :
   Calls Try.prog 21 #[.agg (pv lx ly false).toArray] w fun e w' => e = .returned (.bool false) ∧ Below w.heap.size w w' := by
 have L_lx := Hd hlx
 have L_ly := Hd hly
 have Hc1 := Hd c1
 have B0_ := Hd (Blk.new w  32 (pv lx ly false))
 have bel_ := ((Below.refl w.heap.size w).alloc (Nat.le_refl _) (.cells (pv lx ly false).toArray 32))
 clear hlx hly c1
 go_enter Try.func21, Try.ntmps21
 have ci := pv_i B0_.out L_lx.out L_ly.out
 go_wp2_with (first | (refine lm' (pv_x (B0_.out)) Try.underlying24 (i24 L_lx.out) ?_))
 refine (Hc1.out _).mono ?_
 rintro e w1 ⟨rfl, hbw1⟩
 have C2 := gq' B0_ hbw1
 have hbel3 := bel_.trans (Below.mono hbw1 bel_.size)
 clear B0_ bel_ hbw1
 go_wp2_with fail
 go_ret
 exact ⟨rfl, hbel3⟩
theorem on_b {lx ly : List Nat} (hlx : lx.length = 4) (hly : ly.length = 4)
   (c1 : Ans 41 #[.agg (natsV .u64 lx).toArray] (.bool true))
   (c2 : Ans 41 #[.agg (natsV .u64 ly).toArray] (.bool false)) (w : World) :
   Calls Try.prog 21 #[.agg (pv lx ly false).toArray] w fun e w' => e = .returned (.bool false) ∧ Below w.heap.size w w' := by
 have L_lx := Hd hlx
 have L_ly := Hd hly
 have Hc1 := Hd c1
 have Hc2 := Hd c2
 have B0_ := Hd (Blk.new w  32 (pv lx ly false))
 have bel_ := ((Below.refl w.heap.size w).alloc (Nat.le_refl _) (.cells (pv lx ly false).toArray 32))
 clear hlx hly c1 c2
 go_enter Try.func21, Try.ntmps21
 have ci := pv_i B0_.out L_lx.out L_ly.out
 go_wp2_with (first | (refine lm' (pv_x (B0_.out)) Try.underlying24 (i24 L_lx.out) ?_))
 refine (Hc1.out _).mono ?_
 rintro e w1 ⟨rfl, hbw1⟩
 have C2 := gq' B0_ hbw1
 have hbel3 := bel_.trans (Below.mono hbw1 bel_.size)
 clear B0_ bel_ hbw1
 go_wp2_with (first | (refine ldwM 24 (.tmp 13) rfl w.heap.size 4 rfl (natsV .u64 ly) _ (pv_y (C2.out) L_lx.out) Try.underlying24 rfl (i24 L_ly.out) 4 false rfl 12 rfl rfl ?_))
 refine (Hc2.out _).mono ?_
 rintro e w4 ⟨rfl, hbw4⟩
 have C5 := gq' C2 hbw4
 have hbel6 := hbel3.trans (Below.mono hbw4 hbel3.size)
 clear C2 hbel3 hbw4
 go_wp2_with fail
 go_ret
 exact ⟨rfl, hbel6⟩
theorem on_c {lx ly fy sy fx rs : List Nat} (hlx : lx.length = 4) (hly : ly.length = 4) (hfy : fy.length = 4) (hsy : sy.length = 4) (hfx : fx.length = 4) (hrs : rs.length = 4)
   (c1 : Ans 41 #[.agg (natsV .u64 lx).toArray] (.bool true))
   (c2 : Ans 41 #[.agg (natsV .u64 ly).toArray] (.bool true))
   (c3 : Ans 42 #[.agg (natsV .u64 ly).toArray] (.agg (natsV .u64 fy).toArray))
   (c4 : Ans 43 #[.agg (natsV .u64 fy).toArray] (.agg (natsV .u64 sy).toArray))
   (c5 : Ans 42 #[.agg (natsV .u64 lx).toArray] (.agg (natsV .u64 fx).toArray))
   (c6 : Ans 44 #[.agg (natsV .u64 fx).toArray] (.agg (natsV .u64 rs).toArray)) (w : World) :
   Calls Try.prog 21 #[.agg (pv lx ly false).toArray] w fun e w' => e = .returned (.bool (decide (sy = rs))) ∧ Below w.heap.size w w' := by
 have L_lx := Hd hlx
 have L_ly := Hd hly
 have L_fy := Hd hfy
 have L_sy := Hd hsy
 have L_fx := Hd hfx
 have L_rs := Hd hrs
 have Hc1 := Hd c1
 have Hc2 := Hd c2
 have Hc3 := Hd c3
 have Hc4 := Hd c4
 have Hc5 := Hd c5
 have Hc6 := Hd c6
 have QE := Hd (fun w => eql94 sy rs L_sy.out L_rs.out w)
 have B0_ := Hd (Blk.new w  32 (pv lx ly false))
 have bel_ := ((Below.refl w.heap.size w).alloc (Nat.le_refl _) (.cells (pv lx ly false).toArray 32))
 clear hlx hly hfy hsy hfx hrs c1 c2 c3 c4 c5 c6
 go_enter Try.func21, Try.ntmps21
 have ci := pv_i B0_.out L_lx.out L_ly.out
 go_wp2_with (first | (refine lm' (pv_x (B0_.out)) Try.underlying24 (i24 L_lx.out) ?_))
 refine (Hc1.out _).mono ?_
 rintro e w1 ⟨rfl, hbw1⟩
 have C2 := gq' B0_ hbw1
 have hbel3 := bel_.trans (Below.mono hbw1 bel_.size)
 clear B0_ bel_ hbw1
 go_wp2_with (first | (refine ldwM 24 (.tmp 13) rfl w.heap.size 4 rfl (natsV .u64 ly) _ (pv_y (C2.out) L_lx.out) Try.underlying24 rfl (i24 L_ly.out) 4 false rfl 12 rfl rfl ?_))
 refine (Hc2.out _).mono ?_
 rintro e w4 ⟨rfl, hbw4⟩
 have C5 := gq' C2 hbw4
 have hbel6 := hbel3.trans (Below.mono hbw4 hbel3.size)
 clear C2 hbel3 hbw4
 go_wp2_with fail
 as_aux_lemma =>
 refine wp_region_G (fun w_ => Blk w_ w.heap.size 32 (pv lx ly false)) 10 (by kernel_rfl) C5.out.drew ?_
 refine tkp gS1 0 rfl ?_
 try simp only [Act.put, zq]
 refine tk gS1 1 rfl (lg' (fun _ hS_ => pv_y (hS_) L_lx.out) Try.underlying24 (i24 L_ly.out)) ?_
 try simp only [Act.put, zq]
 refine tk gS1 2 rfl (cg' Try.func42 (fun w _ => Hc3.out w)) ?_
 try simp only [Act.put, zq]
 refine tk gS1 3 rfl (cg' Try.func43 (fun w _ => Hc4.out w)) ?_
 try simp only [Act.put, zq]
 refine tkp gS1 4 rfl ?_
 try simp only [Act.put, zq]
 refine tk gS1 5 rfl (lg' (fun _ hS_ => pv_x (hS_)) Try.underlying24 (i24 L_lx.out)) ?_
 try simp only [Act.put, zq]
 refine tk gS1 6 rfl (cg' Try.func42 (fun w _ => Hc5.out w)) ?_
 try simp only [Act.put, zq]
 refine tk gS1 7 rfl (cg' Try.func44 (fun w _ => Hc6.out w)) ?_
 try simp only [Act.put, zq]
 refine tk gS1 8 rfl (pureG (by rfl) (by intro w; have q := QE.out; go_simp; first | done | with_reducible rfl)) ?_
 try simp only [Act.put, zq]
 refine tkp gS1 9 rfl ?_
 try simp only [Act.put, zq]
 refine wpAnyG_done (by kernel_rfl) ?_ _
 intro w7 hgw7
 try simp only [Act.put, zq]
 have E8 := dq' C5 hgw7
 have hbel9 := hbel6.drew.trans (Below.mono hgw7 hbel6.drew.size)
 clear C5 hbel6 hgw7
 as_aux_lemma =>
 go_wp2_with fail
 go_ret
 exact ⟨rfl, hbel9⟩
def tj (s : EC.Tr mP) : Value := .agg (tv (cw s.x) (cw s.y) (cw s.z)).toArray
def ptV : EC.Pt mP → Value
 | .inf => .agg (pv (zeros 4) (zeros 4) true).toArray
 | .aff x y => .agg (pv (nw x) (nw y) false).toArray
theorem k_isinf (s : EC.Tr mP) : Ans 62 #[tj s] (.bool (decide (s.z = 0))) := fun w => by
 have h := isinf (cw_len s.x) (cw_len s.y) (cw_len s.z) w
 rw [show decide (cw s.z = zeros 4) = decide (s.z = 0) from decide_eq_decide.2 cw_0] at h
 exact h
theorem k_isinf_t {s : EC.Tr mP} (h : s.z = 0) : Ans 62 #[tj s] (.bool true) := by have k := k_isinf s; rw [decide_eq_true h] at k; exact k
theorem k_isinf_f {s : EC.Tr mP} (h : s.z ≠ 0) : Ans 62 #[tj s] (.bool false) := by have k := k_isinf s; rw [decide_eq_false h] at k; exact k
theorem k_twice (s : EC.Tr mP) : Ans 60 #[tj s] (tj (EC.twiceF s)) := fun w =>
 twice_w (cw_len _) (cw_len _) (cw_len _) (cw_len _) (cw_len _) (cw_len _) (cw_len _) (cw_len _) (cw_len _) (cw_len _) (cw_len _) (cw_len _) (cw_len _) (cw_len _) (cw_len _) (cw_len _) (cw_len _) (cw_len _) (cw_len _) (cw_len _) (cw_len _) (cw_len _) (cw_len _) (cw_len _)
   (k_sq s.y) (k_sq s.z) (k_add s.x _) (k_sub s.x _) (k_mul _ _) (k_dbl _) (k_add _ _) (k_mul s.x _) (k_dbl _) (k_dbl _) (k_sq _) (k_dbl _) (k_sub _ _) (k_sub _ _) (k_mul _ _) (k_dbl _) (k_sq _) (k_dbl _) (k_sub _ _) (k_mul s.y s.z) (k_dbl _) w
theorem k_plus (s t : EC.Tr mP) : Ans 58 #[tj s, tj t] (tj (EC.plusF s t)) := fun w => by
 unfold EC.plusF
 by_cases h1 : s.z = 0
 · rw [if_pos h1]
   exact plus_a (cw_len _) (cw_len _) (cw_len _) (cw_len _) (cw_len _) (cw_len _) (k_isinf_t h1) w
 · rw [if_neg h1]
   by_cases h2 : t.z = 0
   · rw [if_pos h2]
     exact plus_b (cw_len _) (cw_len _) (cw_len _) (cw_len _) (cw_len _) (cw_len _) (k_isinf_f h1) (k_isinf_t h2) w
   · rw [if_neg h2]
     by_cases hx : s.x * (t.z * t.z) = t.x * (s.z * s.z)
     · by_cases hy : s.y * (t.z * t.z) * t.z = t.y * (s.z * s.z) * s.z
       · rw [if_pos ⟨hx, hy⟩]
         exact plus_c (cw_len _) (cw_len _) (cw_len _) (cw_len _) (cw_len _) (cw_len _) (cw_len _) (cw_len _) (cw_len _) (cw_len _) (cw_len _) (cw_len _) (cw_len _) (cw_len _) (cw_len _)
           (k_isinf_f h1) (k_isinf_f h2) (k_sq s.z) (k_sq t.z) (k_mul s.x _) (fun w => by rw [hx]; exact k_mul t.x _ w) (k_mul s.y _) (k_mul _ t.z) (k_mul t.y _) (fun w => by rw [hy]; exact k_mul _ s.z w) (k_twice s) w
       · rw [if_neg (fun h => hy h.2)]
         exact plus_e (cw_len _) (cw_len _) (cw_len _) (cw_len _) (cw_len _) (cw_len _) (cw_len _) (cw_len _) (cw_len _) (cw_len _) (cw_len _) (cw_len _) (cw_len _) (cw_len _) (cw_len _) (cw_len _) (cw_len _) (cw_len _) (cw_len _) (cw_len _) (cw_len _) (cw_len _) (cw_len _) (cw_len _) (cw_len _) (cw_len _) (cw_len _) (cw_len _)
           (k_isinf_f h1) (k_isinf_f h2) (k_sq s.z) (k_sq t.z) (k_mul s.x _) (fun w => by rw [hx]; exact k_mul t.x _ w) (k_mul s.y _) (k_mul _ t.z) (k_mul t.y _) (k_mul _ s.z)
           (fun w => by have k := k_sub (t.x * (s.z * s.z)) (s.x * (t.z * t.z)) w; rw [show cw (t.x * (s.z * s.z)) = cw (s.x * (t.z * t.z)) from congrArg cw hx.symm] at k; exact k) (k_sub _ _) (k_sq _) (k_mul _ _) (k_mul _ _) (k_sq _) (k_sub _ _) (k_dbl _) (k_sub _ _) (k_sub _ _) (k_mul _ _) (k_mul _ _) (k_sub _ _) (k_mul s.z t.z) (k_mul _ _) (fun h => hy (cw_inj h)) w
     · rw [if_neg (fun h => hx h.1)]
       exact plus_d (cw_len _) (cw_len _) (cw_len _) (cw_len _) (cw_len _) (cw_len _) (cw_len _) (cw_len _) (cw_len _) (cw_len _) (cw_len _) (cw_len _) (cw_len _) (cw_len _) (cw_len _) (cw_len _) (cw_len _) (cw_len _) (cw_len _) (cw_len _) (cw_len _) (cw_len _) (cw_len _) (cw_len _) (cw_len _) (cw_len _) (cw_len _) (cw_len _) (cw_len _)
         (k_isinf_f h1) (k_isinf_f h2) (k_sq s.z) (k_sq t.z) (k_mul s.x _) (k_mul t.x _) (k_mul s.y _) (k_mul _ t.z) (k_mul t.y _) (k_mul _ s.z)
         (k_sub _ _) (k_sub _ _) (k_sq _) (k_mul _ _) (k_mul _ _) (k_sq _) (k_sub _ _) (k_dbl _) (k_sub _ _) (k_sub _ _) (k_mul _ _) (k_mul _ _) (k_sub _ _) (k_mul s.z t.z) (k_mul _ _) (fun h => hx (cw_inj h)) w
def trOf : EC.Pt mP → EC.Tr mP
 | .inf => ⟨0, 0, 0⟩
 | .aff x y => ⟨x, y, 1⟩
theorem trOf_jac (P : EC.Pt mP) : EC.Jac (trOf P) P := by
 cases P with
 | inf => exact (rfl : (0 : FP) = 0)
 | aff x y => exact ⟨by show (1 : FP) ≠ 0; decide, g_1 x, g_2 y⟩
theorem k_tof (P : EC.Pt mP) : Ans 39 #[ptV P] (tj (trOf P)) := fun w => by
 cases P with
 | inf =>
   have h := tof_inf cinf_any w
   have e : tj (trOf .inf) = .agg (tv (zeros 4) (zeros 4) (zeros 4)).toArray := by unfold tj trOf; rw [cw_zero]
   rw [e]; exact h
 | aff x y =>
   have h := tof_aff (nw_len x) (nw_len y) (cw_len (fv x.val)) (cw_len (fv y.val)) (cw_len (fv 1)) cinf_any (k_of x.val (lt256 x)) (k_of y.val (lt256 y)) (fun w => by rw [num_lit1]; exact k_of 1 (by decide) w) w
   rw [fv_of, fv_of] at h
   exact h
theorem k_point {s : EC.Tr mP} {P : EC.Pt mP} (hJ : EC.Jac s P) : Ans 40 #[tj s] (ptV P) := fun w => by
 cases P with
 | inf => exact pt_inf (cw_len _) (cw_len _) (cw_len _) (k_isinf_t hJ) cinf_any w
 | aff X Y =>
   obtain ⟨hz, hx, hy⟩ := hJ
   have hi := inv_fp s.z hz
   rw [← iv_fp s.z hz] at hi
   have e1 : s.x * (EC.iv s.z * EC.iv s.z) = X := by rw [hx]; exact EC.pt1 hi
   have e2 : s.y * (EC.iv s.z * EC.iv s.z) * EC.iv s.z = Y := by rw [hy]; exact EC.pt2 hi
   exact pt_aff (cw_len _) (cw_len _) (cw_len _) (cw_len _) (cw_len _) (cw_len X) (nw_len X) (cw_len _) (cw_len Y) (nw_len Y) (k_isinf_f hz) (k_inv s.z hz) (k_sq _) (fun w => by rw [← e1]; exact k_mul s.x _ w) (k_num X) (k_mul s.y _) (fun w => by rw [← e2]; exact k_mul _ _ w) (k_num Y) w
theorem lit_B : (.agg #[.int .u64 4309448131093880907, .int .u64 7285987128567378166, .int .u64 12964664127075681980, .int .u64 6540974713487397863] : Value) = .agg (natsV .u64 (nw bP)).toArray := by
 rw [show nw bP = [4309448131093880907, 7285987128567378166, 12964664127075681980, 6540974713487397863] by decide +kernel]; rfl
def lGX : List Nat := [17627433388654248598, 8575836109218198432, 17923454489921339634, 7716867327612699207]
theorem lGX_eq : nw gX = lGX := by decide +kernel
def lGY : List Nat := [14678990851816772085, 3156516839386865358, 10297457778147434006, 5756518291402817435]
theorem lGY_eq : nw gY = lGY := by decide +kernel
def lB : List Nat := [4309448131093880907, 7285987128567378166, 12964664127075681980, 6540974713487397863]
theorem base_any (w : World) :
   Calls Try.prog 8 #[] w fun e w' => e = .returned (.agg (pv (nw gX) (nw gY) false).toArray) ∧ Below w.heap.size w w' := by
 rw [lGX_eq, lGY_eq]
 have B0_ := Hd (Blk.new w  32 (pv (zeros 4) (zeros 4) false))
 have bel_ := ((Below.refl w.heap.size w).alloc (Nat.le_refl _) (.cells (pv (zeros 4) (zeros 4) false).toArray 32))
 go_enter Try.func8, Try.ntmps8
 go_wp2_with (first | (refine stB rfl 32 (.tmp 0) (.tmp 3) rfl w.heap.size rfl (pv lGX lGY false) rfl 32 (pv (zeros 4) (zeros 4) false) B0_.out (i43 (show lGX.length = 4 from rfl) (show lGY.length = 4 from rfl)) (lenEq pz9 (pv_len (show lGX.length = 4 from rfl) (show lGY.length = 4 from rfl))) p1_ ?_))
 refine bodyPost_ret (v := .agg (pv lGX lGY false).toArray) ?_ rfl ⟨rfl, below_setRow' bel_ (by first | exact Nat.le_refl _ | omega) _⟩
 exact results_cell_row Try.results8 _ _ w.heap.size 32 _ (0, 0) _ rfl (B0_.out.setRow _) Try.underlying32 rfl (by simpa using (i43 (show lGX.length = 4 from rfl) (show lGY.length = 4 from rfl)))
theorem allon {l1 m1 l2 m2 : List Nat} {i1 i2 b1 b2 : Bool} (hl1 : l1.length = 4) (hm1 : m1.length = 4) (hl2 : l2.length = 4) (hm2 : m2.length = 4)
   (h1 : ∀ w, Calls Try.prog 21 #[.agg (pv l1 m1 i1).toArray] w fun e w' => e = .returned (.bool b1) ∧ Below w.heap.size w w')
   (h2 : ∀ w, Calls Try.prog 21 #[.agg (pv l2 m2 i2).toArray] w fun e w' => e = .returned (.bool b2) ∧ Below w.heap.size w w')
   (g : Nat) (w : World) (hr1 : w.rangeAt g 0 (pv l1 m1 i1)) (hr2 : w.rangeAt g 9 (pv l2 m2 i2)) :
   Calls Try.prog 37 #[.slice (some ⟨g, 0, none⟩) 2 2] w fun e w' => e = .returned (.bool (b1 && b2)) ∧ Below w.heap.size w w' := by
 have L_l1 := Hd hl1
 have L_m1 := Hd hm1
 have L_l2 := Hd hl2
 have L_m2 := Hd hm2
 have H1 := Hd h1
 have H2 := Hd h2
 have R1 := Hd hr1
 have R2 := Hd hr2
 clear hl1 hm1 hl2 hm2 h1 h2 hr1 hr2
 go_enter Try.func37, Try.ntmps37
 go_wp2_with fail
 go_loopw [7] (fun i wr => ∃ t : Nat, t ≤ 2 ∧ i = .int .i64 t ∧ (0 < t → b1 = true) ∧ (1 < t → b2 = true) ∧ Below w.heap.size w wr) (fun i _ => 2 - (intOf i).toNat)
 case atStart => exact ⟨0, by omega, rfl, fun h => by omega, fun h => by omega, Below.refl _ _⟩
 case round =>
   obtain ⟨t, ht, rfl, k1, k2, hbel⟩ := hrel
   have ht3 : t = 0 ∨ t = 1 ∨ t = 2 := by omega
   clear ht
   rcases ht3 with rfl | rfl | rfl
   · clear k1 k2
     have RR := range_gr R1.out hbel
     go_wp2_with (first | (refine lm' RR Try.underlying32 (i43 L_l1.out L_m1.out) ?_) | (refine stB rfl 32 (.tmp 4) (.tmp 10) rfl wr.heap.size rfl (pv l1 m1 i1) rfl 32 (pv (zeros 4) (zeros 4) false) (Blk.new wr 32 (pv (zeros 4) (zeros 4) false)) (i43 L_l1.out L_m1.out) (lenEq pz9 (pv_len L_l1.out L_m1.out)) p1_ ?_; generalize hW : World.setRow _ _ _ = wq; obtain ⟨hg1, hn1⟩ := newfacts hW; clear hW; have D1 := Hd hn1; have hbel2 := hbel.trans (Below.mono hg1 hbel.size); clear hn1 hg1 RR hbel; generalize wr.heap.size = gq at *) | (refine lm' (blk_all D1.out) Try.underlying32 (i43 L_l1.out L_m1.out) ?_))
     refine (H1.out _).mono ?_
     rintro e wz ⟨rfl, hbz⟩
     have hbel3 := hbel2.trans (Below.mono hbz hbel2.size)
     clear hbz hbel2 D1
     cases hb : b1
     · go_wp2_with fail
       go_ret
       exact ⟨by rw [hb]; rfl, hbel3⟩
     · have hbh := Hd hb
       clear hb
       go_wp2_with fail
       go_roundw
       case rel => exact ⟨1, by omega, by go_num, fun _ => hbh.out, fun _ => by omega, hbel3⟩
       case measure => simp [intOf] <;> omega
   · have hb1 := Hd (k1 (by omega))
     have RR := range_gr R2.out hbel
     clear k1 k2
     go_wp2_with (first | (refine lm' RR Try.underlying32 (i43 L_l2.out L_m2.out) ?_) | (refine stB rfl 32 (.tmp 4) (.tmp 10) rfl wr.heap.size rfl (pv l2 m2 i2) rfl 32 (pv (zeros 4) (zeros 4) false) (Blk.new wr 32 (pv (zeros 4) (zeros 4) false)) (i43 L_l2.out L_m2.out) (lenEq pz9 (pv_len L_l2.out L_m2.out)) p1_ ?_; generalize hW : World.setRow _ _ _ = wq; obtain ⟨hg1, hn1⟩ := newfacts hW; clear hW; have D1 := Hd hn1; have hbel2 := hbel.trans (Below.mono hg1 hbel.size); clear hn1 hg1 RR hbel; generalize wr.heap.size = gq at *) | (refine lm' (blk_all D1.out) Try.underlying32 (i43 L_l2.out L_m2.out) ?_))
     refine (H2.out _).mono ?_
     rintro e wz ⟨rfl, hbz⟩
     have hbel3 := hbel2.trans (Below.mono hbz hbel2.size)
     clear hbz hbel2 D1
     cases hb : b2
     · go_wp2_with fail
       go_ret
       exact ⟨by rw [hb1.out, hb]; rfl, hbel3⟩
     · have hbh := Hd hb
       clear hb
       go_wp2_with fail
       go_roundw
       case rel => exact ⟨2, by omega, by go_num, fun _ => hb1.out, fun _ => hbh.out, hbel3⟩
       case measure => simp [intOf] <;> omega
   · have hb1 := Hd (k1 (by omega))
     have hb2 := Hd (k2 (by omega))
     clear k1 k2
     go_wp2_with fail
     go_ret
     exact ⟨by rw [hb1.out, hb2.out]; rfl, hbel⟩
end Go.Proofs.Ytdkkombpkojjaaa
