/- Parts of proofs of statements, each text behind those that it stands on. No condition of its own. -/
import Derived.Test.YtdkkombpkojjaaaGreatC31
namespace Go.Proofs.YtdkkombpkojjaaaGreat
set_option maxRecDepth 100000
set_option maxHeartbeats 6400000
open Go.RowKit
set_option linter.unusedVariables false
set_option linter.unusedSimpArgs false
theorem dsum_d {lx ly lz mx my mz ya yb xa zz up dn sy q1 q2 q p1 p2 d1 d2 dd u2 u3 sx e1 x f1 f2 f3 g1 g2 uy ux uz : List Nat} (hlx : lx.length = 4) (hly : ly.length = 4) (hlz : lz.length = 4) (hmx : mx.length = 4) (hmy : my.length = 4) (hmz : mz.length = 4) (hya : ya.length = 4) (hyb : yb.length = 4) (hxa : xa.length = 4) (hzz : zz.length = 4) (hup : up.length = 4) (hdn : dn.length = 4) (hsy : sy.length = 4) (hq1 : q1.length = 4) (hq2 : q2.length = 4) (hq : q.length = 4) (hp1 : p1.length = 4) (hp2 : p2.length = 4) (hd1 : d1.length = 4) (hd2 : d2.length = 4) (hdd : dd.length = 4) (hu2 : u2.length = 4) (hu3 : u3.length = 4) (hsx : sx.length = 4) (he1 : e1.length = 4) (hx : x.length = 4) (hf1 : f1.length = 4) (hf2 : f2.length = 4) (hf3 : f3.length = 4) (hg1 : g1.length = 4) (hg2 : g2.length = 4) (huy : uy.length = 4) (hux : ux.length = 4) (huz : uz.length = 4)
   (c1 : Ans 74 #[.agg (natsV .u64 ly).toArray, .agg (natsV .u64 mz).toArray] (.agg (natsV .u64 ya).toArray))
   (c2 : Ans 74 #[.agg (natsV .u64 my).toArray, .agg (natsV .u64 lz).toArray] (.agg (natsV .u64 yb).toArray))
   (c3 : Ans 74 #[.agg (natsV .u64 lx).toArray, .agg (natsV .u64 mz).toArray] (.agg (natsV .u64 xa).toArray))
   (c4 : Ans 74 #[.agg (natsV .u64 mx).toArray, .agg (natsV .u64 lz).toArray] (.agg (natsV .u64 xa).toArray))
   (c5 : Ans 74 #[.agg (natsV .u64 lz).toArray, .agg (natsV .u64 mz).toArray] (.agg (natsV .u64 zz).toArray))
   (c6 : Ans 102 #[.agg (natsV .u64 yb).toArray, .agg (natsV .u64 ya).toArray] (.agg (natsV .u64 up).toArray))
   (c7 : Ans 102 #[.agg (natsV .u64 xa).toArray, .agg (natsV .u64 xa).toArray] (.agg (natsV .u64 dn).toArray))
   (c8 : Ans 103 #[.agg (natsV .u64 ya).toArray, .agg (natsV .u64 yb).toArray] (.agg (natsV .u64 sy).toArray))
   (c9 : Ans 74 #[.agg (natsV .u64 xa).toArray, .agg (natsV .u64 xa).toArray] (.agg (natsV .u64 q1).toArray))
   (c10 : Ans 74 #[.agg (natsV .u64 zz).toArray, .agg (natsV .u64 zz).toArray] (.agg (natsV .u64 q2).toArray))
   (c11 : Ans 102 #[.agg (natsV .u64 q1).toArray, .agg (natsV .u64 q2).toArray] (.agg (natsV .u64 q).toArray))
   (c12 : Ans 103 #[.agg (natsV .u64 q).toArray, .agg (natsV .u64 q).toArray] (.agg (natsV .u64 p1).toArray))
   (c13 : Ans 103 #[.agg (natsV .u64 p1).toArray, .agg (natsV .u64 q).toArray] (.agg (natsV .u64 p2).toArray))
   (c14 : Ans 103 #[.agg (natsV .u64 ya).toArray, .agg (natsV .u64 ya).toArray] (.agg (natsV .u64 d1).toArray))
   (c15 : Ans 74 #[.agg (natsV .u64 d1).toArray, .agg (natsV .u64 zz).toArray] (.agg (natsV .u64 d2).toArray))
   (c16 : Ans 74 #[.agg (natsV .u64 d2).toArray, .agg (natsV .u64 d2).toArray] (.agg (natsV .u64 dd).toArray))
   (c17 : Ans 74 #[.agg (natsV .u64 p2).toArray, .agg (natsV .u64 p2).toArray] (.agg (natsV .u64 u2).toArray))
   (c18 : Ans 74 #[.agg (natsV .u64 u2).toArray, .agg (natsV .u64 zz).toArray] (.agg (natsV .u64 u3).toArray))
   (c19 : Ans 103 #[.agg (natsV .u64 xa).toArray, .agg (natsV .u64 xa).toArray] (.agg (natsV .u64 sx).toArray))
   (c20 : Ans 74 #[.agg (natsV .u64 dd).toArray, .agg (natsV .u64 sx).toArray] (.agg (natsV .u64 e1).toArray))
   (c21 : Ans 102 #[.agg (natsV .u64 u3).toArray, .agg (natsV .u64 e1).toArray] (.agg (natsV .u64 x).toArray))
   (c22 : Ans 74 #[.agg (natsV .u64 xa).toArray, .agg (natsV .u64 dd).toArray] (.agg (natsV .u64 f1).toArray))
   (c23 : Ans 102 #[.agg (natsV .u64 f1).toArray, .agg (natsV .u64 x).toArray] (.agg (natsV .u64 f2).toArray))
   (c24 : Ans 74 #[.agg (natsV .u64 p2).toArray, .agg (natsV .u64 f2).toArray] (.agg (natsV .u64 f3).toArray))
   (c25 : Ans 74 #[.agg (natsV .u64 dd).toArray, .agg (natsV .u64 d2).toArray] (.agg (natsV .u64 g1).toArray))
   (c26 : Ans 74 #[.agg (natsV .u64 ya).toArray, .agg (natsV .u64 g1).toArray] (.agg (natsV .u64 g2).toArray))
   (c27 : Ans 102 #[.agg (natsV .u64 f3).toArray, .agg (natsV .u64 g2).toArray] (.agg (natsV .u64 uy).toArray))
   (c28 : Ans 74 #[.agg (natsV .u64 x).toArray, .agg (natsV .u64 d2).toArray] (.agg (natsV .u64 ux).toArray))
   (c29 : Ans 74 #[.agg (natsV .u64 dd).toArray, .agg (natsV .u64 d2).toArray] (.agg (natsV .u64 g1).toArray))
   (c30 : Ans 74 #[.agg (natsV .u64 g1).toArray, .agg (natsV .u64 zz).toArray] (.agg (natsV .u64 uz).toArray)) (h1 : ¬ lz = zeros 4) (h2 : ¬ mz = zeros 4) (h4 : ¬ sy = zeros 4) (w : World) :
   Calls Tryz.prog 73 #[.agg (tv lx ly lz).toArray, .agg (tv mx my mz).toArray] w fun e w' => e = .returned (.agg (tv ux uy uz).toArray) ∧ Below w.heap.size w w' := by
 have L_lx := Hd hlx
 have L_ly := Hd hly
 have L_lz := Hd hlz
 have L_mx := Hd hmx
 have L_my := Hd hmy
 have L_mz := Hd hmz
 have L_ya := Hd hya
 have L_yb := Hd hyb
 have L_xa := Hd hxa
 have L_zz := Hd hzz
 have L_up := Hd hup
 have L_dn := Hd hdn
 have L_sy := Hd hsy
 have L_q1 := Hd hq1
 have L_q2 := Hd hq2
 have L_q := Hd hq
 have L_p1 := Hd hp1
 have L_p2 := Hd hp2
 have L_d1 := Hd hd1
 have L_d2 := Hd hd2
 have L_dd := Hd hdd
 have L_u2 := Hd hu2
 have L_u3 := Hd hu3
 have L_sx := Hd hsx
 have L_e1 := Hd he1
 have L_x := Hd hx
 have L_f1 := Hd hf1
 have L_f2 := Hd hf2
 have L_f3 := Hd hf3
 have L_g1 := Hd hg1
 have L_g2 := Hd hg2
 have L_uy := Hd huy
 have L_ux := Hd hux
 have L_uz := Hd huz
 have Hc1 := Hd c1
 have Hc2 := Hd c2
 have Hc3 := Hd c3
 have Hc4 := Hd c4
 have Hc5 := Hd c5
 have Hc6 := Hd c6
 have Hc7 := Hd c7
 have Hc8 := Hd c8
 have Hc9 := Hd c9
 have Hc10 := Hd c10
 have Hc11 := Hd c11
 have Hc12 := Hd c12
 have Hc13 := Hd c13
 have Hc14 := Hd c14
 have Hc15 := Hd c15
 have Hc16 := Hd c16
 have Hc17 := Hd c17
 have Hc18 := Hd c18
 have Hc19 := Hd c19
 have Hc20 := Hd c20
 have Hc21 := Hd c21
 have Hc22 := Hd c22
 have Hc23 := Hd c23
 have Hc24 := Hd c24
 have Hc25 := Hd c25
 have Hc26 := Hd c26
 have Hc27 := Hd c27
 have Hc28 := Hd c28
 have Hc29 := Hd c29
 have Hc30 := Hd c30
 have Q1 := Hd (fun w => (eql24 lz (zeros 4) L_lz.out z4l w).trans (by rw [decide_eq_false h1]))
 have Q2 := Hd (fun w => (eql24 mz (zeros 4) L_mz.out z4l w).trans (by rw [decide_eq_false h2]))
 have Q3 := Hd (fun w => (eql24 xa xa L_xa.out L_xa.out w).trans (by rw [decide_eq_true rfl]))
 have Q4 := Hd (fun w => (eql24 sy (zeros 4) L_sy.out z4l w).trans (by rw [decide_eq_false h4]))
 have B0_ := Hd ((((Blk.new w  97 (tv lx ly lz)).alloc (.cells (tv mx my mz).toArray 97)).alloc (.cells (natsV .u64 (zeros 12)).toArray 97)).alloc (.cells (natsV .u64 (zeros 4)).toArray 26))
 have B1_ := Hd (((Blk.new2 w (.cells (tv lx ly lz).toArray 97) 97 (tv mx my mz)).alloc (.cells (natsV .u64 (zeros 12)).toArray 97)).alloc (.cells (natsV .u64 (zeros 4)).toArray 26))
 have B2_ := Hd ((Blk.new3 w (.cells (tv lx ly lz).toArray 97) (.cells (tv mx my mz).toArray 97) 97 (natsV .u64 (zeros 12))).alloc (.cells (natsV .u64 (zeros 4)).toArray 26))
 have B3_ := Hd (Blk.new4 w (.cells (tv lx ly lz).toArray 97) (.cells (tv mx my mz).toArray 97) (.cells (natsV .u64 (zeros 12)).toArray 97) 26 (natsV .u64 (zeros 4)))
 clear hlx hly hlz hmx hmy hmz hya hyb hxa hzz hup hdn hsy hq1 hq2 hq hp1 hp2 hd1 hd2 hdd hu2 hu3 hsx he1 hx hf1 hf2 hf3 hg1 hg2 huy hux huz c1 c2 c3 c4 c5 c6 c7 c8 c9 c10 c11 c12 c13 c14 c15 c16 c17 c18 c19 c20 c21 c22 c23 c24 c25 c26 c27 c28 c29 c30 h1 h2 h4
 have bel_ := (((((Below.refl w.heap.size w).alloc (Nat.le_refl _) (.cells (tv lx ly lz).toArray 97)).alloc (by simp) (.cells (tv mx my mz).toArray 97)).alloc (by simp; omega) (.cells (natsV .u64 (zeros 12)).toArray 97)).alloc (by simp; omega) (.cells (natsV .u64 (zeros 4)).toArray 26))
 go_enter Tryz.func73, Tryz.ntmps73
 have qf1 := Q1.out
 have qf2 := Q2.out
 go_wp2_with (first | (refine lm' (tv_z (B0_.out) L_lx.out L_ly.out) Tryz.underlying26 (i24 L_lz.out) ?_) | (refine lm' (blk_all (B3_.out)) Tryz.underlying26 (i24 z4l) ?_) | (refine lm' (tv_z (B1_.out) L_mx.out L_my.out) Tryz.underlying26 (i24 L_mz.out) ?_) | (refine lm' (blk_all (B3_.out)) Tryz.underlying26 (i24 z4l) ?_) | (refine lm' (tv_y (B0_.out) L_lx.out) Tryz.underlying26 (i24 L_ly.out) ?_) | (refine lm' (tv_z (B1_.out) L_mx.out L_my.out) Tryz.underlying26 (i24 L_mz.out) ?_))
 refine (Hc1.out _).mono ?_
 rintro e w1 ⟨rfl, hbw1⟩
 have C2 := gq' B0_ hbw1
 have C3 := gq' B1_ hbw1
 have C4 := gq' B2_ hbw1
 have C5 := gq' B3_ hbw1
 have hbel6 := bel_.trans (Below.mono hbw1 bel_.size)
 clear B0_ B1_ B2_ B3_ bel_ hbw1
 go_wp2_with (first | (refine stN rfl 26 (.tmp 6) (.tmp 32) rfl w1 rfl (natsV .u64 ya) rfl 26 (natsV .u64 (zeros 4)) (i24 L_ya.out) (lz4 L_ya.out) n1' ?_; intro w7 hgw7 hnw7; have C10 := gq' C2 hgw7; clear C2; have C11 := gq' C3 hgw7; clear C3; have C12 := gq' C4 hgw7; clear C4; have C13 := gq' C5 hgw7; clear C5; have hbel14 := hbel6.trans (Below.mono hgw7 hbel6.size); clear hbel6; have D9 := Hd hnw7; clear hnw7 hgw7; generalize w1.heap.size = G8 at *) | (refine lm' (tv_y (C11.out) L_mx.out) Tryz.underlying26 (i24 L_my.out) ?_) | (refine lm' (tv_z (C10.out) L_lx.out L_ly.out) Tryz.underlying26 (i24 L_lz.out) ?_))
 refine (Hc2.out _).mono ?_
 rintro e w15 ⟨rfl, hbw15⟩
 have C16 := gq' C10 hbw15
 have C17 := gq' C11 hbw15
 have C18 := gq' C12 hbw15
 have C19 := gq' C13 hbw15
 have C20 := gq' D9 hbw15
 have hbel21 := hbel14.trans (Below.mono hbw15 hbel14.size)
 clear C10 C11 C12 C13 D9 hbel14 hbw15
 go_wp2_with (first | (refine stN rfl 26 (.tmp 7) (.tmp 37) rfl w15 rfl (natsV .u64 yb) rfl 26 (natsV .u64 (zeros 4)) (i24 L_yb.out) (lz4 L_yb.out) n1' ?_; intro w22 hgw22 hnw22; have C25 := gq' C16 hgw22; clear C16; have C26 := gq' C17 hgw22; clear C17; have C27 := gq' C18 hgw22; clear C18; have C28 := gq' C19 hgw22; clear C19; have C29 := gq' C20 hgw22; clear C20; have hbel30 := hbel21.trans (Below.mono hgw22 hbel21.size); clear hbel21; have D24 := Hd hnw22; clear hnw22 hgw22; generalize w15.heap.size = G23 at *) | (refine lm' (tv_x (C25.out)) Tryz.underlying26 (i24 L_lx.out) ?_) | (refine lm' (tv_z (C26.out) L_mx.out L_my.out) Tryz.underlying26 (i24 L_mz.out) ?_))
 refine (Hc3.out _).mono ?_
 rintro e w31 ⟨rfl, hbw31⟩
 have C32 := gq' C25 hbw31
 have C33 := gq' C26 hbw31
 have C34 := gq' C27 hbw31
 have C35 := gq' C28 hbw31
 have C36 := gq' C29 hbw31
 have C37 := gq' D24 hbw31
 have hbel38 := hbel30.trans (Below.mono hbw31 hbel30.size)
 clear C25 C26 C27 C28 C29 D24 hbel30 hbw31
 go_wp2_with (first | (refine stN rfl 26 (.tmp 8) (.tmp 42) rfl w31 rfl (natsV .u64 xa) rfl 26 (natsV .u64 (zeros 4)) (i24 L_xa.out) (lz4 L_xa.out) n1' ?_; intro w39 hgw39 hnw39; have C42 := gq' C32 hgw39; clear C32; have C43 := gq' C33 hgw39; clear C33; have C44 := gq' C34 hgw39; clear C34; have C45 := gq' C35 hgw39; clear C35; have C46 := gq' C36 hgw39; clear C36; have C47 := gq' C37 hgw39; clear C37; have hbel48 := hbel38.trans (Below.mono hgw39 hbel38.size); clear hbel38; have D41 := Hd hnw39; clear hnw39 hgw39; generalize w31.heap.size = G40 at *) | (refine lm' (tv_x (C43.out)) Tryz.underlying26 (i24 L_mx.out) ?_) | (refine lm' (tv_z (C42.out) L_lx.out L_ly.out) Tryz.underlying26 (i24 L_lz.out) ?_))
 refine (Hc4.out _).mono ?_
 rintro e w49 ⟨rfl, hbw49⟩
 have C50 := gq' C42 hbw49
 have C51 := gq' C43 hbw49
 have C52 := gq' C44 hbw49
 have C53 := gq' C45 hbw49
 have C54 := gq' C46 hbw49
 have C55 := gq' C47 hbw49
 have C56 := gq' D41 hbw49
 have hbel57 := hbel48.trans (Below.mono hbw49 hbel48.size)
 clear C42 C43 C44 C45 C46 C47 D41 hbel48 hbw49
 go_wp2_with (first | (refine stN rfl 26 (.tmp 9) (.tmp 47) rfl w49 rfl (natsV .u64 xa) rfl 26 (natsV .u64 (zeros 4)) (i24 L_xa.out) (lz4 L_xa.out) n1' ?_; intro w58 hgw58 hnw58; have C61 := gq' C50 hgw58; clear C50; have C62 := gq' C51 hgw58; clear C51; have C63 := gq' C52 hgw58; clear C52; have C64 := gq' C53 hgw58; clear C53; have C65 := gq' C54 hgw58; clear C54; have C66 := gq' C55 hgw58; clear C55; have C67 := gq' C56 hgw58; clear C56; have hbel68 := hbel57.trans (Below.mono hgw58 hbel57.size); clear hbel57; have D60 := Hd hnw58; clear hnw58 hgw58; generalize w49.heap.size = G59 at *) | (refine lm' (tv_z (C61.out) L_lx.out L_ly.out) Tryz.underlying26 (i24 L_lz.out) ?_) | (refine lm' (tv_z (C62.out) L_mx.out L_my.out) Tryz.underlying26 (i24 L_mz.out) ?_))
 refine (Hc5.out _).mono ?_
 rintro e w69 ⟨rfl, hbw69⟩
 have C70 := gq' C61 hbw69
 have C71 := gq' C62 hbw69
 have C72 := gq' C63 hbw69
 have C73 := gq' C64 hbw69
 have C74 := gq' C65 hbw69
 have C75 := gq' C66 hbw69
 have C76 := gq' C67 hbw69
 have C77 := gq' D60 hbw69
 have hbel78 := hbel68.trans (Below.mono hbw69 hbel68.size)
 clear C61 C62 C63 C64 C65 C66 C67 D60 hbel68 hbw69
 go_wp2_with (first | (refine stN rfl 26 (.tmp 10) (.tmp 52) rfl w69 rfl (natsV .u64 zz) rfl 26 (natsV .u64 (zeros 4)) (i24 L_zz.out) (lz4 L_zz.out) n1' ?_; intro w79 hgw79 hnw79; have C82 := gq' C70 hgw79; clear C70; have C83 := gq' C71 hgw79; clear C71; have C84 := gq' C72 hgw79; clear C72; have C85 := gq' C73 hgw79; clear C73; have C86 := gq' C74 hgw79; clear C74; have C87 := gq' C75 hgw79; clear C75; have C88 := gq' C76 hgw79; clear C76; have C89 := gq' C77 hgw79; clear C77; have hbel90 := hbel78.trans (Below.mono hgw79 hbel78.size); clear hbel78; have D81 := Hd hnw79; clear hnw79 hgw79; generalize w69.heap.size = G80 at *) | (refine lm' (blk_all (C87.out)) Tryz.underlying26 (i24 L_yb.out) ?_) | (refine lm' (blk_all (C86.out)) Tryz.underlying26 (i24 L_ya.out) ?_))
 refine (Hc6.out _).mono ?_
 rintro e w91 ⟨rfl, hbw91⟩
 have C92 := gq' C82 hbw91
 have C93 := gq' C83 hbw91
 have C94 := gq' C84 hbw91
 have C95 := gq' C85 hbw91
 have C96 := gq' C86 hbw91
 have C97 := gq' C87 hbw91
 have C98 := gq' C88 hbw91
 have C99 := gq' C89 hbw91
 have C100 := gq' D81 hbw91
 have hbel101 := hbel90.trans (Below.mono hbw91 hbel90.size)
 clear C82 C83 C84 C85 C86 C87 C88 C89 D81 hbel90 hbw91
 go_wp2_with (first | (refine stN rfl 26 (.tmp 11) (.tmp 55) rfl w91 rfl (natsV .u64 up) rfl 26 (natsV .u64 (zeros 4)) (i24 L_up.out) (lz4 L_up.out) n1' ?_; intro w102 hgw102 hnw102; have NE105 := Hd (Nat.ne_of_lt (C92.out.lt)); have NE106 := Hd (Nat.ne_of_lt (C93.out.lt)); have NE107 := Hd (Nat.ne_of_lt (C94.out.lt)); have NE108 := Hd (Nat.ne_of_lt (C95.out.lt)); have NE109 := Hd (Nat.ne_of_lt (C96.out.lt)); have NE110 := Hd (Nat.ne_of_lt (C97.out.lt)); have NE111 := Hd (Nat.ne_of_lt (C98.out.lt)); have NE112 := Hd (Nat.ne_of_lt (C99.out.lt)); have NE113 := Hd (Nat.ne_of_lt (C100.out.lt)); have GE114 := Hd hbel101.size; have C115 := gq' C92 hgw102; clear C92; have C116 := gq' C93 hgw102; clear C93; have C117 := gq' C94 hgw102; clear C94; have C118 := gq' C95 hgw102; clear C95; have C119 := gq' C96 hgw102; clear C96; have C120 := gq' C97 hgw102; clear C97; have C121 := gq' C98 hgw102; clear C98; have C122 := gq' C99 hgw102; clear C99; have C123 := gq' C100 hgw102; clear C100; have hbel124 := hbel101.trans (Below.mono hgw102 hbel101.size); clear hbel101; have D104 := Hd hnw102; clear hnw102 hgw102; generalize w91.heap.size = G103 at *) | (refine lm' (blk_all (C122.out)) Tryz.underlying26 (i24 L_xa.out) ?_) | (refine lm' (blk_all (C121.out)) Tryz.underlying26 (i24 L_xa.out) ?_))
 refine (Hc7.out _).mono ?_
 rintro e w125 ⟨rfl, hbw125⟩
 have C126 := gq' C115 hbw125
 have C127 := gq' C116 hbw125
 have C128 := gq' C117 hbw125
 have C129 := gq' C118 hbw125
 have C130 := gq' C119 hbw125
 have C131 := gq' C120 hbw125
 have C132 := gq' C121 hbw125
 have C133 := gq' C122 hbw125
 have C134 := gq' C123 hbw125
 have C135 := gq' D104 hbw125
 have hbel136 := hbel124.trans (Below.mono hbw125 hbel124.size)
 have qf3 := Q3.out
 clear C115 C116 C117 C118 C119 C120 C121 C122 C123 D104 hbel124 hbw125
 go_wp2_with (first | (refine stN rfl 26 (.tmp 12) (.tmp 58) rfl w125 rfl (natsV .u64 dn) rfl 26 (natsV .u64 (zeros 4)) (i24 L_dn.out) (lz4 L_dn.out) n1' ?_; intro w137 hgw137 hnw137; have NE140 := Hd (Nat.ne_of_lt (C126.out.lt)); have NE141 := Hd (Nat.ne_of_lt (C127.out.lt)); have NE142 := Hd (Nat.ne_of_lt (C128.out.lt)); have NE143 := Hd (Nat.ne_of_lt (C129.out.lt)); have NE144 := Hd (Nat.ne_of_lt (C130.out.lt)); have NE145 := Hd (Nat.ne_of_lt (C131.out.lt)); have NE146 := Hd (Nat.ne_of_lt (C132.out.lt)); have NE147 := Hd (Nat.ne_of_lt (C133.out.lt)); have NE148 := Hd (Nat.ne_of_lt (C134.out.lt)); have NE149 := Hd (Nat.ne_of_lt (C135.out.lt)); have GE150 := Hd hbel136.size; have C151 := gq' C126 hgw137; clear C126; have C152 := gq' C127 hgw137; clear C127; have C153 := gq' C128 hgw137; clear C128; have C154 := gq' C129 hgw137; clear C129; have C155 := gq' C130 hgw137; clear C130; have C156 := gq' C131 hgw137; clear C131; have C157 := gq' C132 hgw137; clear C132; have C158 := gq' C133 hgw137; clear C133; have C159 := gq' C134 hgw137; clear C134; have C160 := gq' C135 hgw137; clear C135; have hbel161 := hbel136.trans (Below.mono hgw137 hbel136.size); clear hbel136; have D139 := Hd hnw137; clear hnw137 hgw137; generalize w125.heap.size = G138 at *) | (refine lm' (blk_all (C157.out)) Tryz.underlying26 (i24 L_xa.out) ?_) | (refine lm' (blk_all (C158.out)) Tryz.underlying26 (i24 L_xa.out) ?_))
 as_aux_lemma =>
 refine wp_region_G (fun w_ => Blk w_ G8 26 (natsV .u64 ya) ∧ Blk w_ G23 26 (natsV .u64 yb) ∧ Blk w_ (w.heap.size + 1 + 1 + 1) 26 (natsV .u64 (zeros 4))) 5 (by kernel_rfl) ⟨C155.out.drew, C156.out.drew, C154.out.drew⟩ ?_
 refine tk gS3 0 rfl (lg' (fun _ hS_ => blk_all (hS_.1)) Tryz.underlying26 (i24 L_ya.out)) ?_
 try simp only [Act.put, zq]
 refine tk gS3 1 rfl (lg' (fun _ hS_ => blk_all (hS_.2.1)) Tryz.underlying26 (i24 L_yb.out)) ?_
 try simp only [Act.put, zq]
 refine tk gS3 2 rfl (cg' Tryz.func103 (fun w _ => Hc8.out w)) ?_
 try simp only [Act.put, zq]
 refine tk gS3 3 rfl (lg' (fun _ hS_ => blk_all (hS_.2.2)) Tryz.underlying26 (i24 z4l)) ?_
 try simp only [Act.put, zq]
 refine tk gS3 4 rfl (pureG (by rfl) (by intro w; have q := Q4.out; go_simp; first | done | with_reducible rfl)) ?_
 try simp only [Act.put, zq]
 refine wpAnyG_done (by kernel_rfl) ?_ _
 intro w162 hgw162
 try simp only [Act.put, zq]
 have E163 := dq' C151 hgw162
 have E164 := dq' C152 hgw162
 have E165 := dq' C153 hgw162
 have E166 := dq' C154 hgw162
 have E167 := dq' C155 hgw162
 have E168 := dq' C156 hgw162
 have E169 := dq' C157 hgw162
 have E170 := dq' C158 hgw162
 have E171 := dq' C159 hgw162
 have E172 := dq' C160 hgw162
 have E173 := dq' D139 hgw162
 have hbel174 := hbel161.drew.trans (Below.mono hgw162 hbel161.drew.size)
 clear C151 C152 C153 C154 C155 C156 C157 C158 C159 C160 D139 hbel161 hgw162
 as_aux_lemma =>
 go_wp2_with fail
 as_aux_lemma =>
 refine wp_region_G (fun w_ => Blk w_ G40 26 (natsV .u64 xa) ∧ Blk w_ G80 26 (natsV .u64 zz)) 8 (by kernel_rfl) ⟨E169.out.drew, E171.out.drew⟩ ?_
 refine tk gS2 0 rfl (lg' (fun _ hS_ => blk_all (hS_.1)) Tryz.underlying26 (i24 L_xa.out)) ?_
 try simp only [Act.put, zq]
 refine tk gS2 1 rfl (lg' (fun _ hS_ => blk_all (hS_.1)) Tryz.underlying26 (i24 L_xa.out)) ?_
 try simp only [Act.put, zq]
 refine tk gS2 2 rfl (cg' Tryz.func74 (fun w _ => Hc9.out w)) ?_
 try simp only [Act.put, zq]
 refine tk gS2 3 rfl (lg' (fun _ hS_ => blk_all (hS_.2)) Tryz.underlying26 (i24 L_zz.out)) ?_
 try simp only [Act.put, zq]
 refine tk gS2 4 rfl (lg' (fun _ hS_ => blk_all (hS_.2)) Tryz.underlying26 (i24 L_zz.out)) ?_
 try simp only [Act.put, zq]
 refine tk gS2 5 rfl (cg' Tryz.func74 (fun w _ => Hc10.out w)) ?_
 try simp only [Act.put, zq]
 refine tk gS2 6 rfl (cg' Tryz.func102 (fun w _ => Hc11.out w)) ?_
 try simp only [Act.put, zq]
 refine wpAnyG_def (i := 7) (j := 8) gS2 (by kernel_rfl) (by kernel_rfl) (by kernel_rfl) rfl rfl rfl (allocG (by rfl) rfl _ alloc24) (lz4 L_q.out) (fun _ => StoresG.mk (cs := (natsV .u64 q)) (by rfl) 26 _ _ rfl rfl rfl (i24 L_q.out) n1') ?_
 intro w175 G176 hgw175 hz_ hn_
 try simp only [Act.put, zq]
 have NE177 := Hd (Nat.ne_of_lt (Nat.lt_of_lt_of_le E172.out.drew.lt hz_))
 have NE178 := Hd (Nat.ne_of_lt (Nat.lt_of_lt_of_le E173.out.drew.lt hz_))
 have E179 := dq' E163 hgw175
 have E180 := dq' E164 hgw175
 have E181 := dq' E165 hgw175
 have E182 := dq' E166 hgw175
 have E183 := dq' E167 hgw175
 have E184 := dq' E168 hgw175
 have E185 := dq' E169 hgw175
 have E186 := dq' E170 hgw175
 have E187 := dq' E171 hgw175
 have E188 := dq' E172 hgw175
 have E189 := dq' E173 hgw175
 have hbel190 := hbel174.drew.trans (Below.mono hgw175 hbel174.drew.size)
 have D191 := Hd hn_
 clear E163 E164 E165 E166 E167 E168 E169 E170 E171 E172 E173 hbel174 hn_ hz_ hgw175
 as_aux_lemma =>
 go_wp2_with fail
 as_aux_lemma =>
 refine wp_region_G (fun w_ => Blk w_ G176 26 (natsV .u64 q)) 5 (by kernel_rfl) D191.out.drew ?_
 refine tk gS1 0 rfl (lg' (fun _ hS_ => blk_all (hS_)) Tryz.underlying26 (i24 L_q.out)) ?_
 try simp only [Act.put, zq]
 refine tk gS1 1 rfl (lg' (fun _ hS_ => blk_all (hS_)) Tryz.underlying26 (i24 L_q.out)) ?_
 try simp only [Act.put, zq]
 refine tk gS1 2 rfl (cg' Tryz.func103 (fun w _ => Hc12.out w)) ?_
 try simp only [Act.put, zq]
 refine tk gS1 3 rfl (lg' (fun _ hS_ => blk_all (hS_)) Tryz.underlying26 (i24 L_q.out)) ?_
 try simp only [Act.put, zq]
 refine tk gS1 4 rfl (cg' Tryz.func103 (fun w _ => Hc13.out w)) ?_
 try simp only [Act.put, zq]
 refine wpAnyG_set (i := 5) (by kernel_rfl) (by kernel_rfl) rfl rfl E188.out.drew (lenEq (nl' L_up.out) (nl' L_p2.out)) (StoresG.mk (cs := (natsV .u64 p2)) (by rfl) 26 _ _ rfl rfl rfl (i24 L_p2.out) n1') ?_
 intro w192 hgw192 hn_
 try simp only [Act.put, zq]
 have E193 := Hd (E179.out.drew.grown hgw192 (fun e => NE105.out (Option.some.inj e)))
 have E194 := Hd (E180.out.drew.grown hgw192 (fun e => NE106.out (Option.some.inj e)))
 have E195 := Hd (E181.out.drew.grown hgw192 (fun e => NE107.out (Option.some.inj e)))
 have E196 := Hd (E182.out.drew.grown hgw192 (fun e => NE108.out (Option.some.inj e)))
 have E197 := Hd (E183.out.drew.grown hgw192 (fun e => NE109.out (Option.some.inj e)))
 have E198 := Hd (E184.out.drew.grown hgw192 (fun e => NE110.out (Option.some.inj e)))
 have E199 := Hd (E185.out.drew.grown hgw192 (fun e => NE111.out (Option.some.inj e)))
 have E200 := Hd (E186.out.drew.grown hgw192 (fun e => NE112.out (Option.some.inj e)))
 have E201 := Hd (E187.out.drew.grown hgw192 (fun e => NE113.out (Option.some.inj e)))
 have E202 := Hd (E189.out.drew.grown hgw192 (fun e => (Ne.symm NE149.out) (Option.some.inj e)))
 have E203 := Hd (D191.out.drew.grown hgw192 (fun e => (Ne.symm NE177.out) (Option.some.inj e)))
 have D204 := Hd hn_
 have hbel205 := belStore hbel190.drew hgw192 (GE114.out)
 clear E179 E180 E181 E182 E183 E184 E185 E186 E187 E189 D191 hn_ E188 hgw192
 as_aux_lemma =>
 go_wp2_with fail
 as_aux_lemma =>
 refine wp_region_G (fun w_ => Blk w_ G8 26 (natsV .u64 ya) ∧ Blk w_ G80 26 (natsV .u64 zz)) 5 (by kernel_rfl) ⟨E197.out.drew, E201.out.drew⟩ ?_
 refine tk gS2 0 rfl (lg' (fun _ hS_ => blk_all (hS_.1)) Tryz.underlying26 (i24 L_ya.out)) ?_
 try simp only [Act.put, zq]
 refine tk gS2 1 rfl (lg' (fun _ hS_ => blk_all (hS_.1)) Tryz.underlying26 (i24 L_ya.out)) ?_
 try simp only [Act.put, zq]
 refine tk gS2 2 rfl (cg' Tryz.func103 (fun w _ => Hc14.out w)) ?_
 try simp only [Act.put, zq]
 refine tk gS2 3 rfl (lg' (fun _ hS_ => blk_all (hS_.2)) Tryz.underlying26 (i24 L_zz.out)) ?_
 try simp only [Act.put, zq]
 refine tk gS2 4 rfl (cg' Tryz.func74 (fun w _ => Hc15.out w)) ?_
 try simp only [Act.put, zq]
 refine wpAnyG_set (i := 5) (by kernel_rfl) (by kernel_rfl) rfl rfl E202.out.drew (lenEq (nl' L_dn.out) (nl' L_d2.out)) (StoresG.mk (cs := (natsV .u64 d2)) (by rfl) 26 _ _ rfl rfl rfl (i24 L_d2.out) n1') ?_
 intro w206 hgw206 hn_
 try simp only [Act.put, zq]
 have E207 := Hd (E193.out.drew.grown hgw206 (fun e => NE140.out (Option.some.inj e)))
 have E208 := Hd (E194.out.drew.grown hgw206 (fun e => NE141.out (Option.some.inj e)))
 have E209 := Hd (E195.out.drew.grown hgw206 (fun e => NE142.out (Option.some.inj e)))
 have E210 := Hd (E196.out.drew.grown hgw206 (fun e => NE143.out (Option.some.inj e)))
 have E211 := Hd (E197.out.drew.grown hgw206 (fun e => NE144.out (Option.some.inj e)))
 have E212 := Hd (E198.out.drew.grown hgw206 (fun e => NE145.out (Option.some.inj e)))
 have E213 := Hd (E199.out.drew.grown hgw206 (fun e => NE146.out (Option.some.inj e)))
 have E214 := Hd (E200.out.drew.grown hgw206 (fun e => NE147.out (Option.some.inj e)))
 have E215 := Hd (E201.out.drew.grown hgw206 (fun e => NE148.out (Option.some.inj e)))
 have E216 := Hd (D204.out.drew.grown hgw206 (fun e => NE149.out (Option.some.inj e)))
 have E217 := Hd (E203.out.drew.grown hgw206 (fun e => (Ne.symm NE178.out) (Option.some.inj e)))
 have D218 := Hd hn_
 have hbel219 := belStore hbel205.drew hgw206 (GE150.out)
 clear E193 E194 E195 E196 E197 E198 E199 E200 E201 D204 E203 hn_ E202 hgw206
 as_aux_lemma =>
 go_wp2_with (first | (refine lm' (blk_all (D218.out)) Tryz.underlying26 (i24 L_d2.out) ?_) | (refine lm' (blk_all (D218.out)) Tryz.underlying26 (i24 L_d2.out) ?_))
 refine (Hc16.out _).mono ?_
 rintro e w220 ⟨rfl, hbw220⟩
 have C221 := gq' E207 hbw220
 have C222 := gq' E208 hbw220
 have C223 := gq' E209 hbw220
 have C224 := gq' E210 hbw220
 have C225 := gq' E211 hbw220
 have C226 := gq' E212 hbw220
 have C227 := gq' E213 hbw220
 have C228 := gq' E214 hbw220
 have C229 := gq' E215 hbw220
 have C230 := gq' E216 hbw220
 have C231 := gq' D218 hbw220
 have C232 := gq' E217 hbw220
 have hbel233 := hbel219.trans (Below.mono hbw220 hbel219.size)
 clear E207 E208 E209 E210 E211 E212 E213 E214 E215 E216 D218 E217 hbel219 hbw220
 go_wp2_with (first | (refine stN rfl 26 (.tmp 14) (.tmp 87) rfl w220 rfl (natsV .u64 dd) rfl 26 (natsV .u64 (zeros 4)) (i24 L_dd.out) (lz4 L_dd.out) n1' ?_; intro w234 hgw234 hnw234; have NE237 := Hd (Nat.ne_of_lt (C230.out.lt)); have NE238 := Hd (Nat.ne_of_lt (C231.out.lt)); have C239 := gq' C221 hgw234; clear C221; have C240 := gq' C222 hgw234; clear C222; have C241 := gq' C223 hgw234; clear C223; have C242 := gq' C224 hgw234; clear C224; have C243 := gq' C225 hgw234; clear C225; have C244 := gq' C226 hgw234; clear C226; have C245 := gq' C227 hgw234; clear C227; have C246 := gq' C228 hgw234; clear C228; have C247 := gq' C229 hgw234; clear C229; have C248 := gq' C230 hgw234; clear C230; have C249 := gq' C231 hgw234; clear C231; have C250 := gq' C232 hgw234; clear C232; have hbel251 := hbel233.trans (Below.mono hgw234 hbel233.size); clear hbel233; have D236 := Hd hnw234; clear hnw234 hgw234; generalize w220.heap.size = G235 at *))
 as_aux_lemma =>
 refine wp_region_G (fun w_ => Blk w_ G103 26 (natsV .u64 p2) ∧ Blk w_ G80 26 (natsV .u64 zz) ∧ Blk w_ G235 26 (natsV .u64 dd) ∧ Blk w_ G40 26 (natsV .u64 xa) ∧ Blk w_ G59 26 (natsV .u64 xa)) 12 (by kernel_rfl) ⟨C248.out.drew, C247.out.drew, D236.out.drew, C245.out.drew, C246.out.drew⟩ ?_
 refine tk gS5 0 rfl (lg' (fun _ hS_ => blk_all (hS_.1)) Tryz.underlying26 (i24 L_p2.out)) ?_
 try simp only [Act.put, zq]
 refine tk gS5 1 rfl (lg' (fun _ hS_ => blk_all (hS_.1)) Tryz.underlying26 (i24 L_p2.out)) ?_
 try simp only [Act.put, zq]
 refine tk gS5 2 rfl (cg' Tryz.func74 (fun w _ => Hc17.out w)) ?_
 try simp only [Act.put, zq]
 refine tk gS5 3 rfl (lg' (fun _ hS_ => blk_all (hS_.2.1)) Tryz.underlying26 (i24 L_zz.out)) ?_
 try simp only [Act.put, zq]
 refine tk gS5 4 rfl (cg' Tryz.func74 (fun w _ => Hc18.out w)) ?_
 try simp only [Act.put, zq]
 refine tk gS5 5 rfl (lg' (fun _ hS_ => blk_all (hS_.2.2.1)) Tryz.underlying26 (i24 L_dd.out)) ?_
 try simp only [Act.put, zq]
 refine tk gS5 6 rfl (lg' (fun _ hS_ => blk_all (hS_.2.2.2.1)) Tryz.underlying26 (i24 L_xa.out)) ?_
 try simp only [Act.put, zq]
 refine tk gS5 7 rfl (lg' (fun _ hS_ => blk_all (hS_.2.2.2.2)) Tryz.underlying26 (i24 L_xa.out)) ?_
 try simp only [Act.put, zq]
 refine tk gS5 8 rfl (cg' Tryz.func103 (fun w _ => Hc19.out w)) ?_
 try simp only [Act.put, zq]
 refine tk gS5 9 rfl (cg' Tryz.func74 (fun w _ => Hc20.out w)) ?_
 try simp only [Act.put, zq]
 refine tk gS5 10 rfl (cg' Tryz.func102 (fun w _ => Hc21.out w)) ?_
 try simp only [Act.put, zq]
 refine wpAnyG_def (i := 11) (j := 12) gS5 (by kernel_rfl) (by kernel_rfl) (by kernel_rfl) rfl rfl rfl (allocG (by rfl) rfl _ alloc24) (lz4 L_x.out) (fun _ => StoresG.mk (cs := (natsV .u64 x)) (by rfl) 26 _ _ rfl rfl rfl (i24 L_x.out) n1') ?_
 intro w252 G253 hgw252 hz_ hn_
 try simp only [Act.put, zq]
 have NE254 := Hd (Nat.ne_of_lt (Nat.lt_of_lt_of_le C248.out.drew.lt hz_))
 have NE255 := Hd (Nat.ne_of_lt (Nat.lt_of_lt_of_le C249.out.drew.lt hz_))
 have E256 := dq' C239 hgw252
 have E257 := dq' C240 hgw252
 have E258 := dq' C241 hgw252
 have E259 := dq' C242 hgw252
 have E260 := dq' C243 hgw252
 have E261 := dq' C244 hgw252
 have E262 := dq' C245 hgw252
 have E263 := dq' C246 hgw252
 have E264 := dq' C247 hgw252
 have E265 := dq' C248 hgw252
 have E266 := dq' C249 hgw252
 have E267 := dq' C250 hgw252
 have E268 := dq' D236 hgw252
 have hbel269 := hbel251.drew.trans (Below.mono hgw252 hbel251.drew.size)
 have D270 := Hd hn_
 clear C239 C240 C241 C242 C243 C244 C245 C246 C247 C248 C249 C250 D236 hbel251 hn_ hz_ hgw252
 as_aux_lemma =>
 go_wp2_with fail
 as_aux_lemma =>
 refine wp_region_G (fun w_ => Blk w_ G103 26 (natsV .u64 p2) ∧ Blk w_ G40 26 (natsV .u64 xa) ∧ Blk w_ G235 26 (natsV .u64 dd) ∧ Blk w_ G253 26 (natsV .u64 x) ∧ Blk w_ G8 26 (natsV .u64 ya) ∧ Blk w_ G138 26 (natsV .u64 d2)) 14 (by kernel_rfl) ⟨E265.out.drew, E262.out.drew, E268.out.drew, D270.out.drew, E260.out.drew, E266.out.drew⟩ ?_
 refine tk gS6 0 rfl (lg' (fun _ hS_ => blk_all (hS_.1)) Tryz.underlying26 (i24 L_p2.out)) ?_
 try simp only [Act.put, zq]
 refine tk gS6 1 rfl (lg' (fun _ hS_ => blk_all (hS_.2.1)) Tryz.underlying26 (i24 L_xa.out)) ?_
 try simp only [Act.put, zq]
 refine tk gS6 2 rfl (lg' (fun _ hS_ => blk_all (hS_.2.2.1)) Tryz.underlying26 (i24 L_dd.out)) ?_
 try simp only [Act.put, zq]
 refine tk gS6 3 rfl (cg' Tryz.func74 (fun w _ => Hc22.out w)) ?_
 try simp only [Act.put, zq]
 refine tk gS6 4 rfl (lg' (fun _ hS_ => blk_all (hS_.2.2.2.1)) Tryz.underlying26 (i24 L_x.out)) ?_
 try simp only [Act.put, zq]
 refine tk gS6 5 rfl (cg' Tryz.func102 (fun w _ => Hc23.out w)) ?_
 try simp only [Act.put, zq]
 refine tk gS6 6 rfl (cg' Tryz.func74 (fun w _ => Hc24.out w)) ?_
 try simp only [Act.put, zq]
 refine tk gS6 7 rfl (lg' (fun _ hS_ => blk_all (hS_.2.2.2.2.1)) Tryz.underlying26 (i24 L_ya.out)) ?_
 try simp only [Act.put, zq]
 refine tk gS6 8 rfl (lg' (fun _ hS_ => blk_all (hS_.2.2.1)) Tryz.underlying26 (i24 L_dd.out)) ?_
 try simp only [Act.put, zq]
 refine tk gS6 9 rfl (lg' (fun _ hS_ => blk_all (hS_.2.2.2.2.2)) Tryz.underlying26 (i24 L_d2.out)) ?_
 try simp only [Act.put, zq]
 refine tk gS6 10 rfl (cg' Tryz.func74 (fun w _ => Hc25.out w)) ?_
 try simp only [Act.put, zq]
 refine tk gS6 11 rfl (cg' Tryz.func74 (fun w _ => Hc26.out w)) ?_
 try simp only [Act.put, zq]
 refine tk gS6 12 rfl (cg' Tryz.func102 (fun w _ => Hc27.out w)) ?_
 try simp only [Act.put, zq]
 refine wpAnyG_def (i := 13) (j := 14) gS6 (by kernel_rfl) (by kernel_rfl) (by kernel_rfl) rfl rfl rfl (allocG (by rfl) rfl _ alloc24) (lz4 L_uy.out) (fun _ => StoresG.mk (cs := (natsV .u64 uy)) (by rfl) 26 _ _ rfl rfl rfl (i24 L_uy.out) n1') ?_
 intro w271 G272 hgw271 hz_ hn_
 try simp only [Act.put, zq]
 have NE273 := Hd (Nat.ne_of_lt (Nat.lt_of_lt_of_le E265.out.drew.lt hz_))
 have NE274 := Hd (Nat.ne_of_lt (Nat.lt_of_lt_of_le E266.out.drew.lt hz_))
 have E275 := dq' E256 hgw271
 have E276 := dq' E257 hgw271
 have E277 := dq' E258 hgw271
 have E278 := dq' E259 hgw271
 have E279 := dq' E260 hgw271
 have E280 := dq' E261 hgw271
 have E281 := dq' E262 hgw271
 have E282 := dq' E263 hgw271
 have E283 := dq' E264 hgw271
 have E284 := dq' E265 hgw271
 have E285 := dq' E266 hgw271
 have E286 := dq' E267 hgw271
 have E287 := dq' E268 hgw271
 have E288 := dq' D270 hgw271
 have hbel289 := hbel269.drew.trans (Below.mono hgw271 hbel269.drew.size)
 have D290 := Hd hn_
 clear E256 E257 E258 E259 E260 E261 E262 E263 E264 E265 E266 E267 E268 D270 hbel269 hn_ hz_ hgw271
 as_aux_lemma =>
 go_wp2_with fail
 as_aux_lemma =>
 refine wp_region_G (fun w_ => Blk w_ G253 26 (natsV .u64 x) ∧ Blk w_ G138 26 (natsV .u64 d2) ∧ Blk w_ G272 26 (natsV .u64 uy) ∧ Blk w_ G235 26 (natsV .u64 dd) ∧ Blk w_ G80 26 (natsV .u64 zz)) 10 (by kernel_rfl) ⟨E288.out.drew, E285.out.drew, D290.out.drew, E287.out.drew, E283.out.drew⟩ ?_
 refine tk gS5 0 rfl (lg' (fun _ hS_ => blk_all (hS_.1)) Tryz.underlying26 (i24 L_x.out)) ?_
 try simp only [Act.put, zq]
 refine tk gS5 1 rfl (lg' (fun _ hS_ => blk_all (hS_.2.1)) Tryz.underlying26 (i24 L_d2.out)) ?_
 try simp only [Act.put, zq]
 refine tk gS5 2 rfl (cg' Tryz.func74 (fun w _ => Hc28.out w)) ?_
 try simp only [Act.put, zq]
 refine tk gS5 3 rfl (lg' (fun _ hS_ => blk_all (hS_.2.2.1)) Tryz.underlying26 (i24 L_uy.out)) ?_
 try simp only [Act.put, zq]
 refine tk gS5 4 rfl (lg' (fun _ hS_ => blk_all (hS_.2.2.2.1)) Tryz.underlying26 (i24 L_dd.out)) ?_
 try simp only [Act.put, zq]
 refine tk gS5 5 rfl (lg' (fun _ hS_ => blk_all (hS_.2.1)) Tryz.underlying26 (i24 L_d2.out)) ?_
 try simp only [Act.put, zq]
 refine tk gS5 6 rfl (cg' Tryz.func74 (fun w _ => Hc29.out w)) ?_
 try simp only [Act.put, zq]
 refine tk gS5 7 rfl (lg' (fun _ hS_ => blk_all (hS_.2.2.2.2)) Tryz.underlying26 (i24 L_zz.out)) ?_
 try simp only [Act.put, zq]
 refine tk gS5 8 rfl (cg' Tryz.func74 (fun w _ => Hc30.out w)) ?_
 try simp only [Act.put, zq]
 refine tk gS5 9 rfl (buildG (by rfl) _ _ rfl _ (built108 L_ux.out L_uy.out L_uz.out) (by simp [Act.eval])) ?_
 try simp only [Act.put, zq]
 refine wpAnyG_set (i := 10) (by kernel_rfl) (by kernel_rfl) rfl rfl E277.out.drew (lenEq (show (natsV .u64 (zeros 12)).length = 12 from rfl) (tv_len L_ux.out L_uy.out L_uz.out)) (StoresG.mk (cs := (tv ux uy uz)) (by rfl) 97 _ _ rfl rfl rfl (i108 L_ux.out L_uy.out L_uz.out) (tv_one _ _ _)) ?_
 intro w291 hgw291 hn_
 try simp only [Act.put, zq]
 have hbel292 := belStore hbel289.drew hgw291 (show w.heap.size ≤ (w.heap.size + 1 + 1) by omega)
 have D293 := Hd hn_
 go_wp2_with fail
 refine bodyPost_ret (v := .agg (tv ux uy uz).toArray) ?_ rfl ⟨rfl, hbel292⟩
 exact results_cell_row Tryz.results73 _ _ (w.heap.size + 1 + 1) 97 _ (0, 0) _ rfl D293.out Tryz.underlying97 rfl (by simpa using (i108 L_ux.out L_uy.out L_uz.out))
end Go.Proofs.YtdkkombpkojjaaaGreat
