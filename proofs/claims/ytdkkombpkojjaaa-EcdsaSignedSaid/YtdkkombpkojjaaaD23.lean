/- Parts of proofs of statements, each text behind those that it stands on. No condition of its own. -/
import Derived.Great.Walk
import Derived.Test.YtdkkombpkojjaaaD11
namespace Go.Proofs.Ytdkkombpkojjaaa
set_option maxRecDepth 100000
set_option maxHeartbeats 6400000
open Go.RowKit
set_option linter.unusedVariables false
set_option linter.unusedSimpArgs false
theorem plus_e {lx ly lz mx my mz ss st xs y1 ys y2 yt run rise sq cu sh r2 r3 d1 ux e1 e2 e3 uy z1 uz : List Nat} (hlx : lx.length = 4) (hly : ly.length = 4) (hlz : lz.length = 4) (hmx : mx.length = 4) (hmy : my.length = 4) (hmz : mz.length = 4) (hss : ss.length = 4) (hst : st.length = 4) (hxs : xs.length = 4) (hy1 : y1.length = 4) (hys : ys.length = 4) (hy2 : y2.length = 4) (hyt : yt.length = 4) (hrun : run.length = 4) (hrise : rise.length = 4) (hsq : sq.length = 4) (hcu : cu.length = 4) (hsh : sh.length = 4) (hr2 : r2.length = 4) (hr3 : r3.length = 4) (hd1 : d1.length = 4) (hux : ux.length = 4) (he1 : e1.length = 4) (he2 : e2.length = 4) (he3 : e3.length = 4) (huy : uy.length = 4) (hz1 : z1.length = 4) (huz : uz.length = 4)
   (c1 : Ans 62 #[.agg (tv lx ly lz).toArray] (.bool false))
   (c2 : Ans 62 #[.agg (tv mx my mz).toArray] (.bool false))
   (c3 : Ans 43 #[.agg (natsV .u64 lz).toArray] (.agg (natsV .u64 ss).toArray))
   (c4 : Ans 43 #[.agg (natsV .u64 mz).toArray] (.agg (natsV .u64 st).toArray))
   (c5 : Ans 64 #[.agg (natsV .u64 lx).toArray, .agg (natsV .u64 st).toArray] (.agg (natsV .u64 xs).toArray))
   (c6 : Ans 64 #[.agg (natsV .u64 mx).toArray, .agg (natsV .u64 ss).toArray] (.agg (natsV .u64 xs).toArray))
   (c7 : Ans 64 #[.agg (natsV .u64 ly).toArray, .agg (natsV .u64 st).toArray] (.agg (natsV .u64 y1).toArray))
   (c8 : Ans 64 #[.agg (natsV .u64 y1).toArray, .agg (natsV .u64 mz).toArray] (.agg (natsV .u64 ys).toArray))
   (c9 : Ans 64 #[.agg (natsV .u64 my).toArray, .agg (natsV .u64 ss).toArray] (.agg (natsV .u64 y2).toArray))
   (c10 : Ans 64 #[.agg (natsV .u64 y2).toArray, .agg (natsV .u64 lz).toArray] (.agg (natsV .u64 yt).toArray))
   (c11 : Ans 69 #[.agg (natsV .u64 xs).toArray, .agg (natsV .u64 xs).toArray] (.agg (natsV .u64 run).toArray))
   (c12 : Ans 69 #[.agg (natsV .u64 yt).toArray, .agg (natsV .u64 ys).toArray] (.agg (natsV .u64 rise).toArray))
   (c13 : Ans 43 #[.agg (natsV .u64 run).toArray] (.agg (natsV .u64 sq).toArray))
   (c14 : Ans 64 #[.agg (natsV .u64 sq).toArray, .agg (natsV .u64 run).toArray] (.agg (natsV .u64 cu).toArray))
   (c15 : Ans 64 #[.agg (natsV .u64 xs).toArray, .agg (natsV .u64 sq).toArray] (.agg (natsV .u64 sh).toArray))
   (c16 : Ans 43 #[.agg (natsV .u64 rise).toArray] (.agg (natsV .u64 r2).toArray))
   (c17 : Ans 69 #[.agg (natsV .u64 r2).toArray, .agg (natsV .u64 cu).toArray] (.agg (natsV .u64 r3).toArray))
   (c18 : Ans 67 #[.agg (natsV .u64 sh).toArray] (.agg (natsV .u64 d1).toArray))
   (c19 : Ans 69 #[.agg (natsV .u64 r3).toArray, .agg (natsV .u64 d1).toArray] (.agg (natsV .u64 ux).toArray))
   (c20 : Ans 69 #[.agg (natsV .u64 sh).toArray, .agg (natsV .u64 ux).toArray] (.agg (natsV .u64 e1).toArray))
   (c21 : Ans 64 #[.agg (natsV .u64 rise).toArray, .agg (natsV .u64 e1).toArray] (.agg (natsV .u64 e2).toArray))
   (c22 : Ans 64 #[.agg (natsV .u64 ys).toArray, .agg (natsV .u64 cu).toArray] (.agg (natsV .u64 e3).toArray))
   (c23 : Ans 69 #[.agg (natsV .u64 e2).toArray, .agg (natsV .u64 e3).toArray] (.agg (natsV .u64 uy).toArray))
   (c24 : Ans 64 #[.agg (natsV .u64 lz).toArray, .agg (natsV .u64 mz).toArray] (.agg (natsV .u64 z1).toArray))
   (c25 : Ans 64 #[.agg (natsV .u64 z1).toArray, .agg (natsV .u64 run).toArray] (.agg (natsV .u64 uz).toArray)) (hne : ¬ ys = yt) (w : World) :
   Calls Try.prog 58 #[.agg (tv lx ly lz).toArray, .agg (tv mx my mz).toArray] w fun e w' => e = .returned (.agg (tv ux uy uz).toArray) ∧ Below w.heap.size w w' := by
 have L_lx := Hd hlx
 have L_ly := Hd hly
 have L_lz := Hd hlz
 have L_mx := Hd hmx
 have L_my := Hd hmy
 have L_mz := Hd hmz
 have L_ss := Hd hss
 have L_st := Hd hst
 have L_xs := Hd hxs
 have L_y1 := Hd hy1
 have L_ys := Hd hys
 have L_y2 := Hd hy2
 have L_yt := Hd hyt
 have L_run := Hd hrun
 have L_rise := Hd hrise
 have L_sq := Hd hsq
 have L_cu := Hd hcu
 have L_sh := Hd hsh
 have L_r2 := Hd hr2
 have L_r3 := Hd hr3
 have L_d1 := Hd hd1
 have L_ux := Hd hux
 have L_e1 := Hd he1
 have L_e2 := Hd he2
 have L_e3 := Hd he3
 have L_uy := Hd huy
 have L_z1 := Hd hz1
 have L_uz := Hd huz
 have Hc1 := Hd c1
 have Hc2 := Hd c2
 have Hc3 := Hd c3
 have Hc4 := Hd c4
 have Hc5 := Hd c5
 have Hc6 := Hd c6
 have Hc7 := Hd c7
 have Hc8 := Hd c8
 have Hc9 := Hd c9
 have Hc10 := Hd c10
 have Hc11 := Hd c11
 have Hc12 := Hd c12
 have Hc13 := Hd c13
 have Hc14 := Hd c14
 have Hc15 := Hd c15
 have Hc16 := Hd c16
 have Hc17 := Hd c17
 have Hc18 := Hd c18
 have Hc19 := Hd c19
 have Hc20 := Hd c20
 have Hc21 := Hd c21
 have Hc22 := Hd c22
 have Hc23 := Hd c23
 have Hc24 := Hd c24
 have Hc25 := Hd c25
 have QX := Hd (fun w => (eql94 xs xs L_xs.out L_xs.out w).trans (by rw [decide_eq_true rfl]))
 have QY := Hd (fun w => (eql94 ys yt L_ys.out L_yt.out w).trans (by rw [decide_eq_false hne]))
 have B0_ := Hd (((Blk.new w  67 (tv lx ly lz)).alloc (.cells (tv mx my mz).toArray 67)).alloc (.cells (natsV .u64 (zeros 12)).toArray 67))
 have B1_ := Hd ((Blk.new2 w (.cells (tv lx ly lz).toArray 67) 67 (tv mx my mz)).alloc (.cells (natsV .u64 (zeros 12)).toArray 67))
 have B2_ := Hd (Blk.new3 w (.cells (tv lx ly lz).toArray 67) (.cells (tv mx my mz).toArray 67) 67 (natsV .u64 (zeros 12)))
 clear hlx hly hlz hmx hmy hmz hss hst hxs hy1 hys hy2 hyt hrun hrise hsq hcu hsh hr2 hr3 hd1 hux he1 he2 he3 huy hz1 huz c1 c2 c3 c4 c5 c6 c7 c8 c9 c10 c11 c12 c13 c14 c15 c16 c17 c18 c19 c20 c21 c22 c23 c24 c25 hne
 have bel_ := ((((Below.refl w.heap.size w).alloc (Nat.le_refl _) (.cells (tv lx ly lz).toArray 67)).alloc (by simp) (.cells (tv mx my mz).toArray 67)).alloc (by simp; omega) (.cells (natsV .u64 (zeros 12)).toArray 67))
 go_enter Try.func58, Try.ntmps58
 go_wp2_with (first | (refine lm' (blk_all (B0_.out)) Try.underlying67 (i103 L_lx.out L_ly.out L_lz.out) ?_))
 refine (Hc1.out _).mono ?_
 rintro e w1 ⟨rfl, hbw1⟩
 have C2 := gq' B0_ hbw1
 have C3 := gq' B1_ hbw1
 have C4 := gq' B2_ hbw1
 have hbel5 := bel_.trans (Below.mono hbw1 bel_.size)
 clear B0_ B1_ B2_ bel_ hbw1
 go_wp2_with (first | (refine lm' (blk_all (C3.out)) Try.underlying67 (i103 L_mx.out L_my.out L_mz.out) ?_))
 refine (Hc2.out _).mono ?_
 rintro e w6 ⟨rfl, hbw6⟩
 have C7 := gq' C2 hbw6
 have C8 := gq' C3 hbw6
 have C9 := gq' C4 hbw6
 have hbel10 := hbel5.trans (Below.mono hbw6 hbel5.size)
 clear C2 C3 C4 hbel5 hbw6
 go_wp2_with fail
 as_aux_lemma =>
 refine wp_region_G (fun w_ => Blk w_ w.heap.size 67 (tv lx ly lz) ∧ Blk w_ (w.heap.size + 1) 67 (tv mx my mz)) 9 (by kernel_rfl) ⟨C7.out.drew, C8.out.drew⟩ ?_
 refine tkp gS2 0 rfl ?_
 try simp only [Act.put, zq]
 refine tk gS2 1 rfl (lg' (fun _ hS_ => tv_z (hS_.1) L_lx.out L_ly.out) Try.underlying65 (i94 L_lz.out)) ?_
 try simp only [Act.put, zq]
 refine tk gS2 2 rfl (cg' Try.func43 (fun w _ => Hc3.out w)) ?_
 try simp only [Act.put, zq]
 refine tkp gS2 3 rfl ?_
 try simp only [Act.put, zq]
 refine tk gS2 4 rfl (lg' (fun _ hS_ => tv_z (hS_.2) L_mx.out L_my.out) Try.underlying65 (i94 L_mz.out)) ?_
 try simp only [Act.put, zq]
 refine tk gS2 5 rfl (cg' Try.func43 (fun w _ => Hc4.out w)) ?_
 try simp only [Act.put, zq]
 refine wpAnyG_def2 (i := 6) (j := 7) (k := 8) (l := 9) gS2 (by kernel_rfl) (by kernel_rfl) (by kernel_rfl) (by kernel_rfl) (by kernel_rfl) (by kernel_rfl) (by decide) rfl rfl rfl rfl rfl (allocG (by rfl) rfl _ alloc94) (allocG (by rfl) rfl _ alloc94) (fun _ => allocG (by rfl) rfl _ alloc94) (fun _ => allocG (by rfl) rfl _ alloc94) (fun _ _ => rfl) (lz4 L_ss.out) (lz4 L_st.out) (fun _ _ => StoresG.mk (cs := (natsV .u64 ss)) (by rfl) 65 _ _ rfl rfl rfl (i94 L_ss.out) n1') (fun _ _ => StoresG.mk (cs := (natsV .u64 st)) (by rfl) 65 _ _ rfl rfl rfl (i94 L_st.out) n1') (fun g_ w_ hS_ hz_ hb_ => ⟨(hS_.1.gr hb_).row _ (Nat.ne_of_lt (Nat.lt_of_lt_of_le hS_.1.lt hz_)), (hS_.2.gr hb_).row _ (Nat.ne_of_lt (Nat.lt_of_lt_of_le hS_.2.lt hz_))⟩) (⟨C7.out.drew, C8.out.drew⟩) ?_
 intro w11 G12 G13 hgw11 hz_ hz2_ hne_ hn_ hn2_
 try simp only [Act.put, zq]
 have E14 := dq' C7 hgw11
 have E15 := dq' C8 hgw11
 have E16 := dq' C9 hgw11
 have hbel17 := hbel10.drew.trans (Below.mono hgw11 hbel10.drew.size)
 have D18 := Hd hn_
 have D19 := Hd hn2_
 clear C7 C8 C9 hbel10 hn_ hn2_ hz_ hz2_ hne_ hgw11
 as_aux_lemma =>
 go_wp2_with fail
 as_aux_lemma =>
 refine wp_region_G (fun w_ => Blk w_ w.heap.size 67 (tv lx ly lz) ∧ Blk w_ G13 65 (natsV .u64 st) ∧ Blk w_ (w.heap.size + 1) 67 (tv mx my mz) ∧ Blk w_ G12 65 (natsV .u64 ss)) 11 (by kernel_rfl) ⟨E14.out.drew, D19.out.drew, E15.out.drew, D18.out.drew⟩ ?_
 refine tkp gS4 0 rfl ?_
 try simp only [Act.put, zq]
 refine tk gS4 1 rfl (lg' (fun _ hS_ => tv_x (hS_.1)) Try.underlying65 (i94 L_lx.out)) ?_
 try simp only [Act.put, zq]
 refine tk gS4 2 rfl (lg' (fun _ hS_ => blk_all (hS_.2.1)) Try.underlying65 (i94 L_st.out)) ?_
 try simp only [Act.put, zq]
 refine tk gS4 3 rfl (cg' Try.func64 (fun w _ => Hc5.out w)) ?_
 try simp only [Act.put, zq]
 refine tkp gS4 4 rfl ?_
 try simp only [Act.put, zq]
 refine tk gS4 5 rfl (lg' (fun _ hS_ => tv_x (hS_.2.2.1)) Try.underlying65 (i94 L_mx.out)) ?_
 try simp only [Act.put, zq]
 refine tk gS4 6 rfl (lg' (fun _ hS_ => blk_all (hS_.2.2.2)) Try.underlying65 (i94 L_ss.out)) ?_
 try simp only [Act.put, zq]
 refine tk gS4 7 rfl (cg' Try.func64 (fun w _ => Hc6.out w)) ?_
 try simp only [Act.put, zq]
 refine wpAnyG_def2 (i := 8) (j := 9) (k := 10) (l := 11) gS4 (by kernel_rfl) (by kernel_rfl) (by kernel_rfl) (by kernel_rfl) (by kernel_rfl) (by kernel_rfl) (by decide) rfl rfl rfl rfl rfl (allocG (by rfl) rfl _ alloc94) (allocG (by rfl) rfl _ alloc94) (fun _ => allocG (by rfl) rfl _ alloc94) (fun _ => allocG (by rfl) rfl _ alloc94) (fun _ _ => rfl) (lz4 L_xs.out) (lz4 L_xs.out) (fun _ _ => StoresG.mk (cs := (natsV .u64 xs)) (by rfl) 65 _ _ rfl rfl rfl (i94 L_xs.out) n1') (fun _ _ => StoresG.mk (cs := (natsV .u64 xs)) (by rfl) 65 _ _ rfl rfl rfl (i94 L_xs.out) n1') (fun g_ w_ hS_ hz_ hb_ => ⟨(hS_.1.gr hb_).row _ (Nat.ne_of_lt (Nat.lt_of_lt_of_le hS_.1.lt hz_)), (hS_.2.1.gr hb_).row _ (Nat.ne_of_lt (Nat.lt_of_lt_of_le hS_.2.1.lt hz_)), (hS_.2.2.1.gr hb_).row _ (Nat.ne_of_lt (Nat.lt_of_lt_of_le hS_.2.2.1.lt hz_)), (hS_.2.2.2.gr hb_).row _ (Nat.ne_of_lt (Nat.lt_of_lt_of_le hS_.2.2.2.lt hz_))⟩) (⟨E14.out.drew, D19.out.drew, E15.out.drew, D18.out.drew⟩) ?_
 intro w20 G21 G22 hgw20 hz_ hz2_ hne_ hn_ hn2_
 try simp only [Act.put, zq]
 have E23 := dq' E14 hgw20
 have E24 := dq' E15 hgw20
 have E25 := dq' E16 hgw20
 have E26 := dq' D18 hgw20
 have E27 := dq' D19 hgw20
 have hbel28 := hbel17.drew.trans (Below.mono hgw20 hbel17.drew.size)
 have D29 := Hd hn_
 have D30 := Hd hn2_
 clear E14 E15 E16 D18 D19 hbel17 hn_ hn2_ hz_ hz2_ hne_ hgw20
 as_aux_lemma =>
 go_wp2_with fail
 as_aux_lemma =>
 refine wp_region_G (fun w_ => Blk w_ w.heap.size 67 (tv lx ly lz) ∧ Blk w_ G13 65 (natsV .u64 st) ∧ Blk w_ (w.heap.size + 1) 67 (tv mx my mz) ∧ Blk w_ G12 65 (natsV .u64 ss)) 17 (by kernel_rfl) ⟨E23.out.drew, E27.out.drew, E24.out.drew, E26.out.drew⟩ ?_
 refine tkp gS4 0 rfl ?_
 try simp only [Act.put, zq]
 refine tk gS4 1 rfl (lg' (fun _ hS_ => tv_y (hS_.1) L_lx.out) Try.underlying65 (i94 L_ly.out)) ?_
 try simp only [Act.put, zq]
 refine tk gS4 2 rfl (lg' (fun _ hS_ => blk_all (hS_.2.1)) Try.underlying65 (i94 L_st.out)) ?_
 try simp only [Act.put, zq]
 refine tk gS4 3 rfl (cg' Try.func64 (fun w _ => Hc7.out w)) ?_
 try simp only [Act.put, zq]
 refine tkp gS4 4 rfl ?_
 try simp only [Act.put, zq]
 refine tk gS4 5 rfl (lg' (fun _ hS_ => tv_z (hS_.2.2.1) L_mx.out L_my.out) Try.underlying65 (i94 L_mz.out)) ?_
 try simp only [Act.put, zq]
 refine tk gS4 6 rfl (cg' Try.func64 (fun w _ => Hc8.out w)) ?_
 try simp only [Act.put, zq]
 refine tkp gS4 7 rfl ?_
 try simp only [Act.put, zq]
 refine tk gS4 8 rfl (lg' (fun _ hS_ => tv_y (hS_.2.2.1) L_mx.out) Try.underlying65 (i94 L_my.out)) ?_
 try simp only [Act.put, zq]
 refine tk gS4 9 rfl (lg' (fun _ hS_ => blk_all (hS_.2.2.2)) Try.underlying65 (i94 L_ss.out)) ?_
 try simp only [Act.put, zq]
 refine tk gS4 10 rfl (cg' Try.func64 (fun w _ => Hc9.out w)) ?_
 try simp only [Act.put, zq]
 refine tkp gS4 11 rfl ?_
 try simp only [Act.put, zq]
 refine tk gS4 12 rfl (lg' (fun _ hS_ => tv_z (hS_.1) L_lx.out L_ly.out) Try.underlying65 (i94 L_lz.out)) ?_
 try simp only [Act.put, zq]
 refine tk gS4 13 rfl (cg' Try.func64 (fun w _ => Hc10.out w)) ?_
 try simp only [Act.put, zq]
 refine wpAnyG_def2 (i := 14) (j := 15) (k := 16) (l := 17) gS4 (by kernel_rfl) (by kernel_rfl) (by kernel_rfl) (by kernel_rfl) (by kernel_rfl) (by kernel_rfl) (by decide) rfl rfl rfl rfl rfl (allocG (by rfl) rfl _ alloc94) (allocG (by rfl) rfl _ alloc94) (fun _ => allocG (by rfl) rfl _ alloc94) (fun _ => allocG (by rfl) rfl _ alloc94) (fun _ _ => rfl) (lz4 L_ys.out) (lz4 L_yt.out) (fun _ _ => StoresG.mk (cs := (natsV .u64 ys)) (by rfl) 65 _ _ rfl rfl rfl (i94 L_ys.out) n1') (fun _ _ => StoresG.mk (cs := (natsV .u64 yt)) (by rfl) 65 _ _ rfl rfl rfl (i94 L_yt.out) n1') (fun g_ w_ hS_ hz_ hb_ => ⟨(hS_.1.gr hb_).row _ (Nat.ne_of_lt (Nat.lt_of_lt_of_le hS_.1.lt hz_)), (hS_.2.1.gr hb_).row _ (Nat.ne_of_lt (Nat.lt_of_lt_of_le hS_.2.1.lt hz_)), (hS_.2.2.1.gr hb_).row _ (Nat.ne_of_lt (Nat.lt_of_lt_of_le hS_.2.2.1.lt hz_)), (hS_.2.2.2.gr hb_).row _ (Nat.ne_of_lt (Nat.lt_of_lt_of_le hS_.2.2.2.lt hz_))⟩) (⟨E23.out.drew, E27.out.drew, E24.out.drew, E26.out.drew⟩) ?_
 intro w31 G32 G33 hgw31 hz_ hz2_ hne_ hn_ hn2_
 try simp only [Act.put, zq]
 have E34 := dq' E23 hgw31
 have E35 := dq' E24 hgw31
 have E36 := dq' E25 hgw31
 have E37 := dq' E26 hgw31
 have E38 := dq' E27 hgw31
 have E39 := dq' D29 hgw31
 have E40 := dq' D30 hgw31
 have hbel41 := hbel28.drew.trans (Below.mono hgw31 hbel28.drew.size)
 have D42 := Hd hn_
 have D43 := Hd hn2_
 clear E23 E24 E25 E26 E27 D29 D30 hbel28 hn_ hn2_ hz_ hz2_ hne_ hgw31
 as_aux_lemma =>
 have qx := QX.out
 have qy := QY.out
 go_wp2_with (first | (refine lm' (blk_all (E39.out)) Try.underlying65 (i94 L_xs.out) ?_) | (refine lm' (blk_all (E40.out)) Try.underlying65 (i94 L_xs.out) ?_) | (refine ldw 65 (.tmp 9) rfl G32 rfl .u64 ys D42.out _ _ Try.underlying65 (by rw [info94, L_ys.out]) 3 rfl 55 rfl rfl ?_) | (refine ldw 65 (.tmp 10) rfl G33 rfl .u64 yt D43.out _ _ Try.underlying65 (by rw [info94, L_yt.out]) 3 rfl 55 rfl rfl ?_))
 as_aux_lemma =>
 refine wp_region_G (fun w_ => Blk w_ G22 65 (natsV .u64 xs) ∧ Blk w_ G21 65 (natsV .u64 xs) ∧ Blk w_ G33 65 (natsV .u64 yt) ∧ Blk w_ G32 65 (natsV .u64 ys)) 9 (by kernel_rfl) ⟨E40.out.drew, E39.out.drew, D43.out.drew, D42.out.drew⟩ ?_
 refine tk gS4 0 rfl (lg' (fun _ hS_ => blk_all (hS_.1)) Try.underlying65 (i94 L_xs.out)) ?_
 try simp only [Act.put, zq]
 refine tk gS4 1 rfl (lg' (fun _ hS_ => blk_all (hS_.2.1)) Try.underlying65 (i94 L_xs.out)) ?_
 try simp only [Act.put, zq]
 refine tk gS4 2 rfl (cg' Try.func69 (fun w _ => Hc11.out w)) ?_
 try simp only [Act.put, zq]
 refine tk gS4 3 rfl (lg' (fun _ hS_ => blk_all (hS_.2.2.1)) Try.underlying65 (i94 L_yt.out)) ?_
 try simp only [Act.put, zq]
 refine tk gS4 4 rfl (lg' (fun _ hS_ => blk_all (hS_.2.2.2)) Try.underlying65 (i94 L_ys.out)) ?_
 try simp only [Act.put, zq]
 refine tk gS4 5 rfl (cg' Try.func69 (fun w _ => Hc12.out w)) ?_
 try simp only [Act.put, zq]
 refine wpAnyG_def2 (i := 6) (j := 7) (k := 8) (l := 9) gS4 (by kernel_rfl) (by kernel_rfl) (by kernel_rfl) (by kernel_rfl) (by kernel_rfl) (by kernel_rfl) (by decide) rfl rfl rfl rfl rfl (allocG (by rfl) rfl _ alloc94) (allocG (by rfl) rfl _ alloc94) (fun _ => allocG (by rfl) rfl _ alloc94) (fun _ => allocG (by rfl) rfl _ alloc94) (fun _ _ => rfl) (lz4 L_run.out) (lz4 L_rise.out) (fun _ _ => StoresG.mk (cs := (natsV .u64 run)) (by rfl) 65 _ _ rfl rfl rfl (i94 L_run.out) n1') (fun _ _ => StoresG.mk (cs := (natsV .u64 rise)) (by rfl) 65 _ _ rfl rfl rfl (i94 L_rise.out) n1') (fun g_ w_ hS_ hz_ hb_ => ⟨(hS_.1.gr hb_).row _ (Nat.ne_of_lt (Nat.lt_of_lt_of_le hS_.1.lt hz_)), (hS_.2.1.gr hb_).row _ (Nat.ne_of_lt (Nat.lt_of_lt_of_le hS_.2.1.lt hz_)), (hS_.2.2.1.gr hb_).row _ (Nat.ne_of_lt (Nat.lt_of_lt_of_le hS_.2.2.1.lt hz_)), (hS_.2.2.2.gr hb_).row _ (Nat.ne_of_lt (Nat.lt_of_lt_of_le hS_.2.2.2.lt hz_))⟩) (⟨E40.out.drew, E39.out.drew, D43.out.drew, D42.out.drew⟩) ?_
 intro w44 G45 G46 hgw44 hz_ hz2_ hne_ hn_ hn2_
 try simp only [Act.put, zq]
 have E47 := dq' E34 hgw44
 have E48 := dq' E35 hgw44
 have E49 := dq' E36 hgw44
 have E50 := dq' E37 hgw44
 have E51 := dq' E38 hgw44
 have E52 := dq' E39 hgw44
 have E53 := dq' E40 hgw44
 have E54 := dq' D42 hgw44
 have E55 := dq' D43 hgw44
 have hbel56 := hbel41.drew.trans (Below.mono hgw44 hbel41.drew.size)
 have D57 := Hd hn_
 have D58 := Hd hn2_
 clear E34 E35 E36 E37 E38 E39 E40 D42 D43 hbel41 hn_ hn2_ hz_ hz2_ hne_ hgw44
 as_aux_lemma =>
 go_wp2_with (first | (refine lm' (blk_all (D57.out)) Try.underlying65 (i94 L_run.out) ?_))
 refine (Hc13.out _).mono ?_
 rintro e w59 ⟨rfl, hbw59⟩
 have C60 := gq' E47 hbw59
 have C61 := gq' E48 hbw59
 have C62 := gq' E49 hbw59
 have C63 := gq' E50 hbw59
 have C64 := gq' E51 hbw59
 have C65 := gq' E52 hbw59
 have C66 := gq' E53 hbw59
 have C67 := gq' E54 hbw59
 have C68 := gq' E55 hbw59
 have C69 := gq' D57 hbw59
 have C70 := gq' D58 hbw59
 have hbel71 := hbel56.trans (Below.mono hbw59 hbel56.size)
 clear E47 E48 E49 E50 E51 E52 E53 E54 E55 D57 D58 hbel56 hbw59
 go_wp2_with (first | (refine stN rfl 65 (.tmp 13) (.tmp 69) rfl w59 rfl (natsV .u64 sq) rfl 65 (natsV .u64 (zeros 4)) (i94 L_sq.out) (lz4 L_sq.out) n1' ?_; intro w72 hgw72 hnw72; have C74 := gq' C60 hgw72; clear C60; have C75 := gq' C61 hgw72; clear C61; have C76 := gq' C62 hgw72; clear C62; have C77 := gq' C63 hgw72; clear C63; have C78 := gq' C64 hgw72; clear C64; have C79 := gq' C65 hgw72; clear C65; have C80 := gq' C66 hgw72; clear C66; have C81 := gq' C67 hgw72; clear C67; have C82 := gq' C68 hgw72; clear C68; have C83 := gq' C69 hgw72; clear C69; have C84 := gq' C70 hgw72; clear C70; have hbel85 := hbel71.trans (Below.mono hgw72 hbel71.size); clear hbel71; have D86 := Hd hnw72; clear hnw72 hgw72; generalize w59.heap.size = G73 at *) | (refine lm' (blk_all (D86.out)) Try.underlying65 (i94 L_sq.out) ?_) | (refine lm' (blk_all (C83.out)) Try.underlying65 (i94 L_run.out) ?_))
 refine (Hc14.out _).mono ?_
 rintro e w87 ⟨rfl, hbw87⟩
 have C88 := gq' C74 hbw87
 have C89 := gq' C75 hbw87
 have C90 := gq' C76 hbw87
 have C91 := gq' C77 hbw87
 have C92 := gq' C78 hbw87
 have C93 := gq' C79 hbw87
 have C94 := gq' C80 hbw87
 have C95 := gq' C81 hbw87
 have C96 := gq' C82 hbw87
 have C97 := gq' C83 hbw87
 have C98 := gq' C84 hbw87
 have C99 := gq' D86 hbw87
 have hbel100 := hbel85.trans (Below.mono hbw87 hbel85.size)
 clear C74 C75 C76 C77 C78 C79 C80 C81 C82 C83 C84 D86 hbel85 hbw87
 go_wp2_with (first | (refine stN rfl 65 (.tmp 14) (.tmp 72) rfl w87 rfl (natsV .u64 cu) rfl 65 (natsV .u64 (zeros 4)) (i94 L_cu.out) (lz4 L_cu.out) n1' ?_; intro w101 hgw101 hnw101; have C103 := gq' C88 hgw101; clear C88; have C104 := gq' C89 hgw101; clear C89; have C105 := gq' C90 hgw101; clear C90; have C106 := gq' C91 hgw101; clear C91; have C107 := gq' C92 hgw101; clear C92; have C108 := gq' C93 hgw101; clear C93; have C109 := gq' C94 hgw101; clear C94; have C110 := gq' C95 hgw101; clear C95; have C111 := gq' C96 hgw101; clear C96; have C112 := gq' C97 hgw101; clear C97; have C113 := gq' C98 hgw101; clear C98; have C114 := gq' C99 hgw101; clear C99; have hbel115 := hbel100.trans (Below.mono hgw101 hbel100.size); clear hbel100; have D116 := Hd hnw101; clear hnw101 hgw101; generalize w87.heap.size = G102 at *) | (refine lm' (blk_all (C108.out)) Try.underlying65 (i94 L_xs.out) ?_) | (refine lm' (blk_all (C114.out)) Try.underlying65 (i94 L_sq.out) ?_))
 refine (Hc15.out _).mono ?_
 rintro e w117 ⟨rfl, hbw117⟩
 have C118 := gq' C103 hbw117
 have C119 := gq' C104 hbw117
 have C120 := gq' C105 hbw117
 have C121 := gq' C106 hbw117
 have C122 := gq' C107 hbw117
 have C123 := gq' C108 hbw117
 have C124 := gq' C109 hbw117
 have C125 := gq' C110 hbw117
 have C126 := gq' C111 hbw117
 have C127 := gq' C112 hbw117
 have C128 := gq' C113 hbw117
 have C129 := gq' C114 hbw117
 have C130 := gq' D116 hbw117
 have hbel131 := hbel115.trans (Below.mono hbw117 hbel115.size)
 clear C103 C104 C105 C106 C107 C108 C109 C110 C111 C112 C113 C114 D116 hbel115 hbw117
 go_wp2_with (first | (refine stN rfl 65 (.tmp 15) (.tmp 75) rfl w117 rfl (natsV .u64 sh) rfl 65 (natsV .u64 (zeros 4)) (i94 L_sh.out) (lz4 L_sh.out) n1' ?_; intro w132 hgw132 hnw132; have C134 := gq' C118 hgw132; clear C118; have C135 := gq' C119 hgw132; clear C119; have C136 := gq' C120 hgw132; clear C120; have C137 := gq' C121 hgw132; clear C121; have C138 := gq' C122 hgw132; clear C122; have C139 := gq' C123 hgw132; clear C123; have C140 := gq' C124 hgw132; clear C124; have C141 := gq' C125 hgw132; clear C125; have C142 := gq' C126 hgw132; clear C126; have C143 := gq' C127 hgw132; clear C127; have C144 := gq' C128 hgw132; clear C128; have C145 := gq' C129 hgw132; clear C129; have C146 := gq' C130 hgw132; clear C130; have hbel147 := hbel131.trans (Below.mono hgw132 hbel131.size); clear hbel131; have D148 := Hd hnw132; clear hnw132 hgw132; generalize w117.heap.size = G133 at *))
 as_aux_lemma =>
 refine wp_region_G (fun w_ => Blk w_ G46 65 (natsV .u64 rise) ∧ Blk w_ G102 65 (natsV .u64 cu) ∧ Blk w_ G133 65 (natsV .u64 sh)) 8 (by kernel_rfl) ⟨C144.out.drew, C146.out.drew, D148.out.drew⟩ ?_
 refine tk gS3 0 rfl (lg' (fun _ hS_ => blk_all (hS_.1)) Try.underlying65 (i94 L_rise.out)) ?_
 try simp only [Act.put, zq]
 refine tk gS3 1 rfl (cg' Try.func43 (fun w _ => Hc16.out w)) ?_
 try simp only [Act.put, zq]
 refine tk gS3 2 rfl (lg' (fun _ hS_ => blk_all (hS_.2.1)) Try.underlying65 (i94 L_cu.out)) ?_
 try simp only [Act.put, zq]
 refine tk gS3 3 rfl (cg' Try.func69 (fun w _ => Hc17.out w)) ?_
 try simp only [Act.put, zq]
 refine tk gS3 4 rfl (lg' (fun _ hS_ => blk_all (hS_.2.2)) Try.underlying65 (i94 L_sh.out)) ?_
 try simp only [Act.put, zq]
 refine tk gS3 5 rfl (cg' Try.func67 (fun w _ => Hc18.out w)) ?_
 try simp only [Act.put, zq]
 refine tk gS3 6 rfl (cg' Try.func69 (fun w _ => Hc19.out w)) ?_
 try simp only [Act.put, zq]
 refine wpAnyG_def (i := 7) (j := 8) gS3 (by kernel_rfl) (by kernel_rfl) (by kernel_rfl) rfl rfl rfl (allocG (by rfl) rfl _ alloc94) (lz4 L_ux.out) (fun _ => StoresG.mk (cs := (natsV .u64 ux)) (by rfl) 65 _ _ rfl rfl rfl (i94 L_ux.out) n1') ?_
 intro w149 G150 hgw149 hz_ hn_
 try simp only [Act.put, zq]
 have E151 := dq' C134 hgw149
 have E152 := dq' C135 hgw149
 have E153 := dq' C136 hgw149
 have E154 := dq' C137 hgw149
 have E155 := dq' C138 hgw149
 have E156 := dq' C139 hgw149
 have E157 := dq' C140 hgw149
 have E158 := dq' C141 hgw149
 have E159 := dq' C142 hgw149
 have E160 := dq' C143 hgw149
 have E161 := dq' C144 hgw149
 have E162 := dq' C145 hgw149
 have E163 := dq' C146 hgw149
 have E164 := dq' D148 hgw149
 have hbel165 := hbel147.drew.trans (Below.mono hgw149 hbel147.drew.size)
 have D166 := Hd hn_
 clear C134 C135 C136 C137 C138 C139 C140 C141 C142 C143 C144 C145 C146 D148 hbel147 hn_ hz_ hgw149
 as_aux_lemma =>
 go_wp2_with fail
 as_aux_lemma =>
 refine wp_region_G (fun w_ => Blk w_ G46 65 (natsV .u64 rise) ∧ Blk w_ G133 65 (natsV .u64 sh) ∧ Blk w_ G150 65 (natsV .u64 ux) ∧ Blk w_ G32 65 (natsV .u64 ys) ∧ Blk w_ G102 65 (natsV .u64 cu)) 10 (by kernel_rfl) ⟨E161.out.drew, E164.out.drew, D166.out.drew, E158.out.drew, E163.out.drew⟩ ?_
 refine tk gS5 0 rfl (lg' (fun _ hS_ => blk_all (hS_.1)) Try.underlying65 (i94 L_rise.out)) ?_
 try simp only [Act.put, zq]
 refine tk gS5 1 rfl (lg' (fun _ hS_ => blk_all (hS_.2.1)) Try.underlying65 (i94 L_sh.out)) ?_
 try simp only [Act.put, zq]
 refine tk gS5 2 rfl (lg' (fun _ hS_ => blk_all (hS_.2.2.1)) Try.underlying65 (i94 L_ux.out)) ?_
 try simp only [Act.put, zq]
 refine tk gS5 3 rfl (cg' Try.func69 (fun w _ => Hc20.out w)) ?_
 try simp only [Act.put, zq]
 refine tk gS5 4 rfl (cg' Try.func64 (fun w _ => Hc21.out w)) ?_
 try simp only [Act.put, zq]
 refine tk gS5 5 rfl (lg' (fun _ hS_ => blk_all (hS_.2.2.2.1)) Try.underlying65 (i94 L_ys.out)) ?_
 try simp only [Act.put, zq]
 refine tk gS5 6 rfl (lg' (fun _ hS_ => blk_all (hS_.2.2.2.2)) Try.underlying65 (i94 L_cu.out)) ?_
 try simp only [Act.put, zq]
 refine tk gS5 7 rfl (cg' Try.func64 (fun w _ => Hc22.out w)) ?_
 try simp only [Act.put, zq]
 refine tk gS5 8 rfl (cg' Try.func69 (fun w _ => Hc23.out w)) ?_
 try simp only [Act.put, zq]
 refine wpAnyG_def (i := 9) (j := 10) gS5 (by kernel_rfl) (by kernel_rfl) (by kernel_rfl) rfl rfl rfl (allocG (by rfl) rfl _ alloc94) (lz4 L_uy.out) (fun _ => StoresG.mk (cs := (natsV .u64 uy)) (by rfl) 65 _ _ rfl rfl rfl (i94 L_uy.out) n1') ?_
 intro w167 G168 hgw167 hz_ hn_
 try simp only [Act.put, zq]
 have E169 := dq' E151 hgw167
 have E170 := dq' E152 hgw167
 have E171 := dq' E153 hgw167
 have E172 := dq' E154 hgw167
 have E173 := dq' E155 hgw167
 have E174 := dq' E156 hgw167
 have E175 := dq' E157 hgw167
 have E176 := dq' E158 hgw167
 have E177 := dq' E159 hgw167
 have E178 := dq' E160 hgw167
 have E179 := dq' E161 hgw167
 have E180 := dq' E162 hgw167
 have E181 := dq' E163 hgw167
 have E182 := dq' E164 hgw167
 have E183 := dq' D166 hgw167
 have hbel184 := hbel165.drew.trans (Below.mono hgw167 hbel165.drew.size)
 have D185 := Hd hn_
 clear E151 E152 E153 E154 E155 E156 E157 E158 E159 E160 E161 E162 E163 E164 D166 hbel165 hn_ hz_ hgw167
 as_aux_lemma =>
 go_wp2_with fail
 as_aux_lemma =>
 refine wp_region_G (fun w_ => Blk w_ G150 65 (natsV .u64 ux) ∧ Blk w_ G168 65 (natsV .u64 uy) ∧ Blk w_ w.heap.size 67 (tv lx ly lz) ∧ Blk w_ (w.heap.size + 1) 67 (tv mx my mz) ∧ Blk w_ G45 65 (natsV .u64 run)) 10 (by kernel_rfl) ⟨E183.out.drew, D185.out.drew, E169.out.drew, E170.out.drew, E178.out.drew⟩ ?_
 refine tk gS5 0 rfl (lg' (fun _ hS_ => blk_all (hS_.1)) Try.underlying65 (i94 L_ux.out)) ?_
 try simp only [Act.put, zq]
 refine tk gS5 1 rfl (lg' (fun _ hS_ => blk_all (hS_.2.1)) Try.underlying65 (i94 L_uy.out)) ?_
 try simp only [Act.put, zq]
 refine tkp gS5 2 rfl ?_
 try simp only [Act.put, zq]
 refine tk gS5 3 rfl (lg' (fun _ hS_ => tv_z (hS_.2.2.1) L_lx.out L_ly.out) Try.underlying65 (i94 L_lz.out)) ?_
 try simp only [Act.put, zq]
 refine tkp gS5 4 rfl ?_
 try simp only [Act.put, zq]
 refine tk gS5 5 rfl (lg' (fun _ hS_ => tv_z (hS_.2.2.2.1) L_mx.out L_my.out) Try.underlying65 (i94 L_mz.out)) ?_
 try simp only [Act.put, zq]
 refine tk gS5 6 rfl (cg' Try.func64 (fun w _ => Hc24.out w)) ?_
 try simp only [Act.put, zq]
 refine tk gS5 7 rfl (lg' (fun _ hS_ => blk_all (hS_.2.2.2.2)) Try.underlying65 (i94 L_run.out)) ?_
 try simp only [Act.put, zq]
 refine tk gS5 8 rfl (cg' Try.func64 (fun w _ => Hc25.out w)) ?_
 try simp only [Act.put, zq]
 refine tk gS5 9 rfl (buildG (by rfl) _ _ rfl _ (built103 L_ux.out L_uy.out L_uz.out) (by simp [Act.eval])) ?_
 try simp only [Act.put, zq]
 refine wpAnyG_set (i := 10) (by kernel_rfl) (by kernel_rfl) rfl rfl E171.out.drew (lenEq (show (natsV .u64 (zeros 12)).length = 12 from rfl) (tv_len L_ux.out L_uy.out L_uz.out)) (StoresG.mk (cs := (tv ux uy uz)) (by rfl) 67 _ _ rfl rfl rfl (i103 L_ux.out L_uy.out L_uz.out) (tv_one _ _ _)) ?_
 intro w186 hgw186 hn_
 try simp only [Act.put, zq]
 have hbel187 := belStore hbel184.drew hgw186 (by first | exact Nat.le_refl _ | omega | simp)
 have D188 := Hd hn_
 go_wp2_with fail
 refine bodyPost_ret (v := .agg (tv ux uy uz).toArray) ?_ rfl ⟨rfl, hbel187⟩
 exact results_cell_row Try.results58 _ _ (w.heap.size + 1 + 1) 67 _ (0, 0) _ rfl D188.out Try.underlying67 rfl (by simpa using (i103 L_ux.out L_uy.out L_uz.out))
end Go.Proofs.Ytdkkombpkojjaaa
