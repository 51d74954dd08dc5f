/- Parts of proofs of statements, each text behind those that it stands on. No condition of its own. -/
import Derived.Great.Walk
import Derived.Test.YtdkkombpkojjaaaD11
namespace Go.Proofs.Ytdkkombpkojjaaa
set_option maxRecDepth 100000
set_option maxHeartbeats 6400000
open Go.RowKit
set_option linter.unusedVariables false
set_option linter.unusedSimpArgs false
theorem plus_a {lx ly lz mx my mz : List Nat} (hlx : lx.length = 4) (hly : ly.length = 4) (hlz : lz.length = 4) (hmx : mx.length = 4) (hmy : my.length = 4) (hmz : mz.length = 4)
   (c1 : Ans 62 #[.agg (tv lx ly lz).toArray] (.bool true)) (w : World) :
   Calls Try.prog 58 #[.agg (tv lx ly lz).toArray, .agg (tv mx my mz).toArray] w fun e w' => e = .returned (.agg (tv mx my mz).toArray) ∧ Below w.heap.size w w' := by
 have L_lx := Hd hlx
 have L_ly := Hd hly
 have L_lz := Hd hlz
 have L_mx := Hd hmx
 have L_my := Hd hmy
 have L_mz := Hd hmz
 have Hc1 := Hd c1
 have B0_ := Hd (((Blk.new w  67 (tv lx ly lz)).alloc (.cells (tv mx my mz).toArray 67)).alloc (.cells (natsV .u64 (zeros 12)).toArray 67))
 have B1_ := Hd ((Blk.new2 w (.cells (tv lx ly lz).toArray 67) 67 (tv mx my mz)).alloc (.cells (natsV .u64 (zeros 12)).toArray 67))
 have B2_ := Hd (Blk.new3 w (.cells (tv lx ly lz).toArray 67) (.cells (tv mx my mz).toArray 67) 67 (natsV .u64 (zeros 12)))
 clear hlx hly hlz hmx hmy hmz c1
 have bel_ := ((((Below.refl w.heap.size w).alloc (Nat.le_refl _) (.cells (tv lx ly lz).toArray 67)).alloc (by simp) (.cells (tv mx my mz).toArray 67)).alloc (by simp; omega) (.cells (natsV .u64 (zeros 12)).toArray 67))
 go_enter Try.func58, Try.ntmps58
 go_wp2_with (first | (refine lm' (blk_all (B0_.out)) Try.underlying67 (i103 L_lx.out L_ly.out L_lz.out) ?_))
 refine (Hc1.out _).mono ?_
 rintro e w1 ⟨rfl, hbw1⟩
 have C2 := gq' B0_ hbw1
 have C3 := gq' B1_ hbw1
 have C4 := gq' B2_ hbw1
 have hbel5 := bel_.trans (Below.mono hbw1 bel_.size)
 clear B0_ B1_ B2_ bel_ hbw1
 go_wp2_with (first | (refine lm' (blk_all (C3.out)) Try.underlying67 (i103 L_mx.out L_my.out L_mz.out) ?_) | (refine stB rfl 67 (.tmp 4) (.tmp 20) rfl (w.heap.size + 1 + 1) rfl (tv mx my mz) rfl 67 (natsV .u64 (zeros 12)) C4.out (i103 L_mx.out L_my.out L_mz.out) (lenEq (show (natsV .u64 (zeros 12)).length = 12 from rfl) (tv_len L_mx.out L_my.out L_mz.out)) (tv_one _ _ _) ?_))
 refine bodyPost_ret (v := .agg (tv mx my mz).toArray) ?_ rfl ⟨rfl, below_setRow' hbel5 (by first | exact Nat.le_refl _ | omega) _⟩
 exact results_cell_row Try.results58 _ _ (w.heap.size + 1 + 1) 67 _ (0, 0) _ rfl (C4.out.setRow _) Try.underlying67 rfl (by simpa using (i103 L_mx.out L_my.out L_mz.out))
theorem plus_b {lx ly lz mx my mz : List Nat} (hlx : lx.length = 4) (hly : ly.length = 4) (hlz : lz.length = 4) (hmx : mx.length = 4) (hmy : my.length = 4) (hmz : mz.length = 4)
   (c1 : Ans 62 #[.agg (tv lx ly lz).toArray] (.bool false))
   (c2 : Ans 62 #[.agg (tv mx my mz).toArray] (.bool true)) (w : World) :
   Calls Try.prog 58 #[.agg (tv lx ly lz).toArray, .agg (tv mx my mz).toArray] w fun e w' => e = .returned (.agg (tv lx ly lz).toArray) ∧ Below w.heap.size w w' := by
 have L_lx := Hd hlx
 have L_ly := Hd hly
 have L_lz := Hd hlz
 have L_mx := Hd hmx
 have L_my := Hd hmy
 have L_mz := Hd hmz
 have Hc1 := Hd c1
 have Hc2 := Hd c2
 have B0_ := Hd (((Blk.new w  67 (tv lx ly lz)).alloc (.cells (tv mx my mz).toArray 67)).alloc (.cells (natsV .u64 (zeros 12)).toArray 67))
 have B1_ := Hd ((Blk.new2 w (.cells (tv lx ly lz).toArray 67) 67 (tv mx my mz)).alloc (.cells (natsV .u64 (zeros 12)).toArray 67))
 have B2_ := Hd (Blk.new3 w (.cells (tv lx ly lz).toArray 67) (.cells (tv mx my mz).toArray 67) 67 (natsV .u64 (zeros 12)))
 clear hlx hly hlz hmx hmy hmz c1 c2
 have bel_ := ((((Below.refl w.heap.size w).alloc (Nat.le_refl _) (.cells (tv lx ly lz).toArray 67)).alloc (by simp) (.cells (tv mx my mz).toArray 67)).alloc (by simp; omega) (.cells (natsV .u64 (zeros 12)).toArray 67))
 go_enter Try.func58, Try.ntmps58
 go_wp2_with (first | (refine lm' (blk_all (B0_.out)) Try.underlying67 (i103 L_lx.out L_ly.out L_lz.out) ?_))
 refine (Hc1.out _).mono ?_
 rintro e w1 ⟨rfl, hbw1⟩
 have C2 := gq' B0_ hbw1
 have C3 := gq' B1_ hbw1
 have C4 := gq' B2_ hbw1
 have hbel5 := bel_.trans (Below.mono hbw1 bel_.size)
 clear B0_ B1_ B2_ bel_ hbw1
 go_wp2_with (first | (refine lm' (blk_all (C3.out)) Try.underlying67 (i103 L_mx.out L_my.out L_mz.out) ?_))
 refine (Hc2.out _).mono ?_
 rintro e w6 ⟨rfl, hbw6⟩
 have C7 := gq' C2 hbw6
 have C8 := gq' C3 hbw6
 have C9 := gq' C4 hbw6
 have hbel10 := hbel5.trans (Below.mono hbw6 hbel5.size)
 clear C2 C3 C4 hbel5 hbw6
 go_wp2_with (first | (refine lm' (blk_all (C7.out)) Try.underlying67 (i103 L_lx.out L_ly.out L_lz.out) ?_) | (refine stB rfl 67 (.tmp 4) (.tmp 23) rfl (w.heap.size + 1 + 1) rfl (tv lx ly lz) rfl 67 (natsV .u64 (zeros 12)) C9.out (i103 L_lx.out L_ly.out L_lz.out) (lenEq (show (natsV .u64 (zeros 12)).length = 12 from rfl) (tv_len L_lx.out L_ly.out L_lz.out)) (tv_one _ _ _) ?_))
 refine bodyPost_ret (v := .agg (tv lx ly lz).toArray) ?_ rfl ⟨rfl, below_setRow' hbel10 (by first | exact Nat.le_refl _ | omega) _⟩
 exact results_cell_row Try.results58 _ _ (w.heap.size + 1 + 1) 67 _ (0, 0) _ rfl (C9.out.setRow _) Try.underlying67 rfl (by simpa using (i103 L_lx.out L_ly.out L_lz.out))
theorem plus_c {lx ly lz mx my mz ss st xs y1 ys y2 ux uy uz : List Nat} (hlx : lx.length = 4) (hly : ly.length = 4) (hlz : lz.length = 4) (hmx : mx.length = 4) (hmy : my.length = 4) (hmz : mz.length = 4) (hss : ss.length = 4) (hst : st.length = 4) (hxs : xs.length = 4) (hy1 : y1.length = 4) (hys : ys.length = 4) (hy2 : y2.length = 4) (hux : ux.length = 4) (huy : uy.length = 4) (huz : uz.length = 4)
   (c1 : Ans 62 #[.agg (tv lx ly lz).toArray] (.bool false))
   (c2 : Ans 62 #[.agg (tv mx my mz).toArray] (.bool false))
   (c3 : Ans 43 #[.agg (natsV .u64 lz).toArray] (.agg (natsV .u64 ss).toArray))
   (c4 : Ans 43 #[.agg (natsV .u64 mz).toArray] (.agg (natsV .u64 st).toArray))
   (c5 : Ans 64 #[.agg (natsV .u64 lx).toArray, .agg (natsV .u64 st).toArray] (.agg (natsV .u64 xs).toArray))
   (c6 : Ans 64 #[.agg (natsV .u64 mx).toArray, .agg (natsV .u64 ss).toArray] (.agg (natsV .u64 xs).toArray))
   (c7 : Ans 64 #[.agg (natsV .u64 ly).toArray, .agg (natsV .u64 st).toArray] (.agg (natsV .u64 y1).toArray))
   (c8 : Ans 64 #[.agg (natsV .u64 y1).toArray, .agg (natsV .u64 mz).toArray] (.agg (natsV .u64 ys).toArray))
   (c9 : Ans 64 #[.agg (natsV .u64 my).toArray, .agg (natsV .u64 ss).toArray] (.agg (natsV .u64 y2).toArray))
   (c10 : Ans 64 #[.agg (natsV .u64 y2).toArray, .agg (natsV .u64 lz).toArray] (.agg (natsV .u64 ys).toArray))
   (c11 : Ans 60 #[.agg (tv lx ly lz).toArray] (.agg (tv ux uy uz).toArray)) (w : World) :
   Calls Try.prog 58 #[.agg (tv lx ly lz).toArray, .agg (tv mx my mz).toArray] w fun e w' => e = .returned (.agg (tv ux uy uz).toArray) ∧ Below w.heap.size w w' := by
 have L_lx := Hd hlx
 have L_ly := Hd hly
 have L_lz := Hd hlz
 have L_mx := Hd hmx
 have L_my := Hd hmy
 have L_mz := Hd hmz
 have L_ss := Hd hss
 have L_st := Hd hst
 have L_xs := Hd hxs
 have L_y1 := Hd hy1
 have L_ys := Hd hys
 have L_y2 := Hd hy2
 have L_ux := Hd hux
 have L_uy := Hd huy
 have L_uz := Hd huz
 have Hc1 := Hd c1
 have Hc2 := Hd c2
 have Hc3 := Hd c3
 have Hc4 := Hd c4
 have Hc5 := Hd c5
 have Hc6 := Hd c6
 have Hc7 := Hd c7
 have Hc8 := Hd c8
 have Hc9 := Hd c9
 have Hc10 := Hd c10
 have Hc11 := Hd c11
 have QX := Hd (fun w => (eql94 xs xs L_xs.out L_xs.out w).trans (by rw [decide_eq_true rfl]))
 have QY := Hd (fun w => (eql94 ys ys L_ys.out L_ys.out w).trans (by rw [decide_eq_true rfl]))
 have B0_ := Hd (((Blk.new w  67 (tv lx ly lz)).alloc (.cells (tv mx my mz).toArray 67)).alloc (.cells (natsV .u64 (zeros 12)).toArray 67))
 have B1_ := Hd ((Blk.new2 w (.cells (tv lx ly lz).toArray 67) 67 (tv mx my mz)).alloc (.cells (natsV .u64 (zeros 12)).toArray 67))
 have B2_ := Hd (Blk.new3 w (.cells (tv lx ly lz).toArray 67) (.cells (tv mx my mz).toArray 67) 67 (natsV .u64 (zeros 12)))
 clear hlx hly hlz hmx hmy hmz hss hst hxs hy1 hys hy2 hux huy huz c1 c2 c3 c4 c5 c6 c7 c8 c9 c10 c11
 have bel_ := ((((Below.refl w.heap.size w).alloc (Nat.le_refl _) (.cells (tv lx ly lz).toArray 67)).alloc (by simp) (.cells (tv mx my mz).toArray 67)).alloc (by simp; omega) (.cells (natsV .u64 (zeros 12)).toArray 67))
 go_enter Try.func58, Try.ntmps58
 go_wp2_with (first | (refine lm' (blk_all (B0_.out)) Try.underlying67 (i103 L_lx.out L_ly.out L_lz.out) ?_))
 refine (Hc1.out _).mono ?_
 rintro e w1 ⟨rfl, hbw1⟩
 have C2 := gq' B0_ hbw1
 have C3 := gq' B1_ hbw1
 have C4 := gq' B2_ hbw1
 have hbel5 := bel_.trans (Below.mono hbw1 bel_.size)
 clear B0_ B1_ B2_ bel_ hbw1
 go_wp2_with (first | (refine lm' (blk_all (C3.out)) Try.underlying67 (i103 L_mx.out L_my.out L_mz.out) ?_))
 refine (Hc2.out _).mono ?_
 rintro e w6 ⟨rfl, hbw6⟩
 have C7 := gq' C2 hbw6
 have C8 := gq' C3 hbw6
 have C9 := gq' C4 hbw6
 have hbel10 := hbel5.trans (Below.mono hbw6 hbel5.size)
 clear C2 C3 C4 hbel5 hbw6
 go_wp2_with fail
 as_aux_lemma =>
 refine wp_region_G (fun w_ => Blk w_ w.heap.size 67 (tv lx ly lz) ∧ Blk w_ (w.heap.size + 1) 67 (tv mx my mz)) 9 (by kernel_rfl) ⟨C7.out.drew, C8.out.drew⟩ ?_
 refine tkp gS2 0 rfl ?_
 try simp only [Act.put, zq]
 refine tk gS2 1 rfl (lg' (fun _ hS_ => tv_z (hS_.1) L_lx.out L_ly.out) Try.underlying65 (i94 L_lz.out)) ?_
 try simp only [Act.put, zq]
 refine tk gS2 2 rfl (cg' Try.func43 (fun w _ => Hc3.out w)) ?_
 try simp only [Act.put, zq]
 refine tkp gS2 3 rfl ?_
 try simp only [Act.put, zq]
 refine tk gS2 4 rfl (lg' (fun _ hS_ => tv_z (hS_.2) L_mx.out L_my.out) Try.underlying65 (i94 L_mz.out)) ?_
 try simp only [Act.put, zq]
 refine tk gS2 5 rfl (cg' Try.func43 (fun w _ => Hc4.out w)) ?_
 try simp only [Act.put, zq]
 refine wpAnyG_def2 (i := 6) (j := 7) (k := 8) (l := 9) gS2 (by kernel_rfl) (by kernel_rfl) (by kernel_rfl) (by kernel_rfl) (by kernel_rfl) (by kernel_rfl) (by decide) rfl rfl rfl rfl rfl (allocG (by rfl) rfl _ alloc94) (allocG (by rfl) rfl _ alloc94) (fun _ => allocG (by rfl) rfl _ alloc94) (fun _ => allocG (by rfl) rfl _ alloc94) (fun _ _ => rfl) (lz4 L_ss.out) (lz4 L_st.out) (fun _ _ => StoresG.mk (cs := (natsV .u64 ss)) (by rfl) 65 _ _ rfl rfl rfl (i94 L_ss.out) n1') (fun _ _ => StoresG.mk (cs := (natsV .u64 st)) (by rfl) 65 _ _ rfl rfl rfl (i94 L_st.out) n1') (fun g_ w_ hS_ hz_ hb_ => ⟨(hS_.1.gr hb_).row _ (Nat.ne_of_lt (Nat.lt_of_lt_of_le hS_.1.lt hz_)), (hS_.2.gr hb_).row _ (Nat.ne_of_lt (Nat.lt_of_lt_of_le hS_.2.lt hz_))⟩) (⟨C7.out.drew, C8.out.drew⟩) ?_
 intro w11 G12 G13 hgw11 hz_ hz2_ hne_ hn_ hn2_
 try simp only [Act.put, zq]
 have E14 := dq' C7 hgw11
 have E15 := dq' C8 hgw11
 have E16 := dq' C9 hgw11
 have hbel17 := hbel10.drew.trans (Below.mono hgw11 hbel10.drew.size)
 have D18 := Hd hn_
 have D19 := Hd hn2_
 clear C7 C8 C9 hbel10 hn_ hn2_ hz_ hz2_ hne_ hgw11
 as_aux_lemma =>
 go_wp2_with fail
 as_aux_lemma =>
 refine wp_region_G (fun w_ => Blk w_ w.heap.size 67 (tv lx ly lz) ∧ Blk w_ G13 65 (natsV .u64 st) ∧ Blk w_ (w.heap.size + 1) 67 (tv mx my mz) ∧ Blk w_ G12 65 (natsV .u64 ss)) 11 (by kernel_rfl) ⟨E14.out.drew, D19.out.drew, E15.out.drew, D18.out.drew⟩ ?_
 refine tkp gS4 0 rfl ?_
 try simp only [Act.put, zq]
 refine tk gS4 1 rfl (lg' (fun _ hS_ => tv_x (hS_.1)) Try.underlying65 (i94 L_lx.out)) ?_
 try simp only [Act.put, zq]
 refine tk gS4 2 rfl (lg' (fun _ hS_ => blk_all (hS_.2.1)) Try.underlying65 (i94 L_st.out)) ?_
 try simp only [Act.put, zq]
 refine tk gS4 3 rfl (cg' Try.func64 (fun w _ => Hc5.out w)) ?_
 try simp only [Act.put, zq]
 refine tkp gS4 4 rfl ?_
 try simp only [Act.put, zq]
 refine tk gS4 5 rfl (lg' (fun _ hS_ => tv_x (hS_.2.2.1)) Try.underlying65 (i94 L_mx.out)) ?_
 try simp only [Act.put, zq]
 refine tk gS4 6 rfl (lg' (fun _ hS_ => blk_all (hS_.2.2.2)) Try.underlying65 (i94 L_ss.out)) ?_
 try simp only [Act.put, zq]
 refine tk gS4 7 rfl (cg' Try.func64 (fun w _ => Hc6.out w)) ?_
 try simp only [Act.put, zq]
 refine wpAnyG_def2 (i := 8) (j := 9) (k := 10) (l := 11) gS4 (by kernel_rfl) (by kernel_rfl) (by kernel_rfl) (by kernel_rfl) (by kernel_rfl) (by kernel_rfl) (by decide) rfl rfl rfl rfl rfl (allocG (by rfl) rfl _ alloc94) (allocG (by rfl) rfl _ alloc94) (fun _ => allocG (by rfl) rfl _ alloc94) (fun _ => allocG (by rfl) rfl _ alloc94) (fun _ _ => rfl) (lz4 L_xs.out) (lz4 L_xs.out) (fun _ _ => StoresG.mk (cs := (natsV .u64 xs)) (by rfl) 65 _ _ rfl rfl rfl (i94 L_xs.out) n1') (fun _ _ => StoresG.mk (cs := (natsV .u64 xs)) (by rfl) 65 _ _ rfl rfl rfl (i94 L_xs.out) n1') (fun g_ w_ hS_ hz_ hb_ => ⟨(hS_.1.gr hb_).row _ (Nat.ne_of_lt (Nat.lt_of_lt_of_le hS_.1.lt hz_)), (hS_.2.1.gr hb_).row _ (Nat.ne_of_lt (Nat.lt_of_lt_of_le hS_.2.1.lt hz_)), (hS_.2.2.1.gr hb_).row _ (Nat.ne_of_lt (Nat.lt_of_lt_of_le hS_.2.2.1.lt hz_)), (hS_.2.2.2.gr hb_).row _ (Nat.ne_of_lt (Nat.lt_of_lt_of_le hS_.2.2.2.lt hz_))⟩) (⟨E14.out.drew, D19.out.drew, E15.out.drew, D18.out.drew⟩) ?_
 intro w20 G21 G22 hgw20 hz_ hz2_ hne_ hn_ hn2_
 try simp only [Act.put, zq]
 have E23 := dq' E14 hgw20
 have E24 := dq' E15 hgw20
 have E25 := dq' E16 hgw20
 have E26 := dq' D18 hgw20
 have E27 := dq' D19 hgw20
 have hbel28 := hbel17.drew.trans (Below.mono hgw20 hbel17.drew.size)
 have D29 := Hd hn_
 have D30 := Hd hn2_
 clear E14 E15 E16 D18 D19 hbel17 hn_ hn2_ hz_ hz2_ hne_ hgw20
 as_aux_lemma =>
 go_wp2_with fail
 as_aux_lemma =>
 refine wp_region_G (fun w_ => Blk w_ w.heap.size 67 (tv lx ly lz) ∧ Blk w_ G13 65 (natsV .u64 st) ∧ Blk w_ (w.heap.size + 1) 67 (tv mx my mz) ∧ Blk w_ G12 65 (natsV .u64 ss)) 17 (by kernel_rfl) ⟨E23.out.drew, E27.out.drew, E24.out.drew, E26.out.drew⟩ ?_
 refine tkp gS4 0 rfl ?_
 try simp only [Act.put, zq]
 refine tk gS4 1 rfl (lg' (fun _ hS_ => tv_y (hS_.1) L_lx.out) Try.underlying65 (i94 L_ly.out)) ?_
 try simp only [Act.put, zq]
 refine tk gS4 2 rfl (lg' (fun _ hS_ => blk_all (hS_.2.1)) Try.underlying65 (i94 L_st.out)) ?_
 try simp only [Act.put, zq]
 refine tk gS4 3 rfl (cg' Try.func64 (fun w _ => Hc7.out w)) ?_
 try simp only [Act.put, zq]
 refine tkp gS4 4 rfl ?_
 try simp only [Act.put, zq]
 refine tk gS4 5 rfl (lg' (fun _ hS_ => tv_z (hS_.2.2.1) L_mx.out L_my.out) Try.underlying65 (i94 L_mz.out)) ?_
 try simp only [Act.put, zq]
 refine tk gS4 6 rfl (cg' Try.func64 (fun w _ => Hc8.out w)) ?_
 try simp only [Act.put, zq]
 refine tkp gS4 7 rfl ?_
 try simp only [Act.put, zq]
 refine tk gS4 8 rfl (lg' (fun _ hS_ => tv_y (hS_.2.2.1) L_mx.out) Try.underlying65 (i94 L_my.out)) ?_
 try simp only [Act.put, zq]
 refine tk gS4 9 rfl (lg' (fun _ hS_ => blk_all (hS_.2.2.2)) Try.underlying65 (i94 L_ss.out)) ?_
 try simp only [Act.put, zq]
 refine tk gS4 10 rfl (cg' Try.func64 (fun w _ => Hc9.out w)) ?_
 try simp only [Act.put, zq]
 refine tkp gS4 11 rfl ?_
 try simp only [Act.put, zq]
 refine tk gS4 12 rfl (lg' (fun _ hS_ => tv_z (hS_.1) L_lx.out L_ly.out) Try.underlying65 (i94 L_lz.out)) ?_
 try simp only [Act.put, zq]
 refine tk gS4 13 rfl (cg' Try.func64 (fun w _ => Hc10.out w)) ?_
 try simp only [Act.put, zq]
 refine wpAnyG_def2 (i := 14) (j := 15) (k := 16) (l := 17) gS4 (by kernel_rfl) (by kernel_rfl) (by kernel_rfl) (by kernel_rfl) (by kernel_rfl) (by kernel_rfl) (by decide) rfl rfl rfl rfl rfl (allocG (by rfl) rfl _ alloc94) (allocG (by rfl) rfl _ alloc94) (fun _ => allocG (by rfl) rfl _ alloc94) (fun _ => allocG (by rfl) rfl _ alloc94) (fun _ _ => rfl) (lz4 L_ys.out) (lz4 L_ys.out) (fun _ _ => StoresG.mk (cs := (natsV .u64 ys)) (by rfl) 65 _ _ rfl rfl rfl (i94 L_ys.out) n1') (fun _ _ => StoresG.mk (cs := (natsV .u64 ys)) (by rfl) 65 _ _ rfl rfl rfl (i94 L_ys.out) n1') (fun g_ w_ hS_ hz_ hb_ => ⟨(hS_.1.gr hb_).row _ (Nat.ne_of_lt (Nat.lt_of_lt_of_le hS_.1.lt hz_)), (hS_.2.1.gr hb_).row _ (Nat.ne_of_lt (Nat.lt_of_lt_of_le hS_.2.1.lt hz_)), (hS_.2.2.1.gr hb_).row _ (Nat.ne_of_lt (Nat.lt_of_lt_of_le hS_.2.2.1.lt hz_)), (hS_.2.2.2.gr hb_).row _ (Nat.ne_of_lt (Nat.lt_of_lt_of_le hS_.2.2.2.lt hz_))⟩) (⟨E23.out.drew, E27.out.drew, E24.out.drew, E26.out.drew⟩) ?_
 intro w31 G32 G33 hgw31 hz_ hz2_ hne_ hn_ hn2_
 try simp only [Act.put, zq]
 have E34 := dq' E23 hgw31
 have E35 := dq' E24 hgw31
 have E36 := dq' E25 hgw31
 have E37 := dq' E26 hgw31
 have E38 := dq' E27 hgw31
 have E39 := dq' D29 hgw31
 have E40 := dq' D30 hgw31
 have hbel41 := hbel28.drew.trans (Below.mono hgw31 hbel28.drew.size)
 have D42 := Hd hn_
 have D43 := Hd hn2_
 clear E23 E24 E25 E26 E27 D29 D30 hbel28 hn_ hn2_ hz_ hz2_ hne_ hgw31
 as_aux_lemma =>
 have qx := QX.out
 have qy := QY.out
 go_wp2_with (first | (refine lm' (blk_all (E39.out)) Try.underlying65 (i94 L_xs.out) ?_) | (refine lm' (blk_all (E40.out)) Try.underlying65 (i94 L_xs.out) ?_) | (refine ldw 65 (.tmp 9) rfl G32 rfl .u64 ys D42.out _ _ Try.underlying65 (by rw [info94, L_ys.out]) 3 rfl 55 rfl rfl ?_) | (refine ldw 65 (.tmp 10) rfl G33 rfl .u64 ys D43.out _ _ Try.underlying65 (by rw [info94, L_ys.out]) 3 rfl 55 rfl rfl ?_) | (refine lm' (blk_all (E34.out)) Try.underlying67 (i103 L_lx.out L_ly.out L_lz.out) ?_))
 refine (Hc11.out _).mono ?_
 rintro e w44 ⟨rfl, hbw44⟩
 have C45 := gq' E34 hbw44
 have C46 := gq' E35 hbw44
 have C47 := gq' E36 hbw44
 have C48 := gq' E37 hbw44
 have C49 := gq' E38 hbw44
 have C50 := gq' E39 hbw44
 have C51 := gq' E40 hbw44
 have C52 := gq' D42 hbw44
 have C53 := gq' D43 hbw44
 have hbel54 := hbel41.trans (Below.mono hbw44 hbel41.size)
 clear E34 E35 E36 E37 E38 E39 E40 D42 D43 hbel41 hbw44
 go_wp2_with (first | (refine stB rfl 67 (.tmp 4) (.tmp 61) rfl (w.heap.size + 1 + 1) rfl (tv ux uy uz) rfl 67 (natsV .u64 (zeros 12)) C47.out (i103 L_ux.out L_uy.out L_uz.out) (lenEq (show (natsV .u64 (zeros 12)).length = 12 from rfl) (tv_len L_ux.out L_uy.out L_uz.out)) (tv_one _ _ _) ?_))
 refine bodyPost_ret (v := .agg (tv ux uy uz).toArray) ?_ rfl ⟨rfl, below_setRow' hbel54 (by first | exact Nat.le_refl _ | omega) _⟩
 exact results_cell_row Try.results58 _ _ (w.heap.size + 1 + 1) 67 _ (0, 0) _ rfl (C47.out.setRow _) Try.underlying67 rfl (by simpa using (i103 L_ux.out L_uy.out L_uz.out))
end Go.Proofs.Ytdkkombpkojjaaa
