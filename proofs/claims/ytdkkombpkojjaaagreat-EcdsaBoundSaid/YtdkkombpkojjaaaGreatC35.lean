/- Parts of proofs of statements, each text behind those that it stands on. No condition of its own. -/
import Derived.Test.YtdkkombpkojjaaaGreatC31
namespace Go.Proofs.YtdkkombpkojjaaaGreat
set_option maxRecDepth 100000
set_option maxHeartbeats 6400000
open Go.RowKit
set_option linter.unusedVariables false
set_option linter.unusedSimpArgs false
theorem dsum_a {lx ly lz mx my mz : List Nat} (hlx : lx.length = 4) (hly : ly.length = 4) (hlz : lz.length = 4) (hmx : mx.length = 4) (hmy : my.length = 4) (hmz : mz.length = 4) (h1 : lz = zeros 4) (w : World) :
   Calls Tryz.prog 73 #[.agg (tv lx ly lz).toArray, .agg (tv mx my mz).toArray] w fun e w' => e = .returned (.agg (tv mx my mz).toArray) ∧ Below w.heap.size w w' := by
 have L_lx := Hd hlx
 have L_ly := Hd hly
 have L_lz := Hd hlz
 have L_mx := Hd hmx
 have L_my := Hd hmy
 have L_mz := Hd hmz
 have Q1 := Hd (fun w => (eql24 lz (zeros 4) L_lz.out z4l w).trans (by rw [decide_eq_true h1]))
 have B0_ := Hd ((((Blk.new w  97 (tv lx ly lz)).alloc (.cells (tv mx my mz).toArray 97)).alloc (.cells (natsV .u64 (zeros 12)).toArray 97)).alloc (.cells (natsV .u64 (zeros 4)).toArray 26))
 have B1_ := Hd (((Blk.new2 w (.cells (tv lx ly lz).toArray 97) 97 (tv mx my mz)).alloc (.cells (natsV .u64 (zeros 12)).toArray 97)).alloc (.cells (natsV .u64 (zeros 4)).toArray 26))
 have B2_ := Hd ((Blk.new3 w (.cells (tv lx ly lz).toArray 97) (.cells (tv mx my mz).toArray 97) 97 (natsV .u64 (zeros 12))).alloc (.cells (natsV .u64 (zeros 4)).toArray 26))
 have B3_ := Hd (Blk.new4 w (.cells (tv lx ly lz).toArray 97) (.cells (tv mx my mz).toArray 97) (.cells (natsV .u64 (zeros 12)).toArray 97) 26 (natsV .u64 (zeros 4)))
 clear hlx hly hlz hmx hmy hmz h1
 have bel_ := (((((Below.refl w.heap.size w).alloc (Nat.le_refl _) (.cells (tv lx ly lz).toArray 97)).alloc (by simp) (.cells (tv mx my mz).toArray 97)).alloc (by simp; omega) (.cells (natsV .u64 (zeros 12)).toArray 97)).alloc (by simp; omega) (.cells (natsV .u64 (zeros 4)).toArray 26))
 go_enter Tryz.func73, Tryz.ntmps73
 have qf1 := Q1.out
 go_wp2_with (first | (refine lm' (tv_z (B0_.out) L_lx.out L_ly.out) Tryz.underlying26 (i24 L_lz.out) ?_) | (refine lm' (blk_all (B3_.out)) Tryz.underlying26 (i24 z4l) ?_) | (refine lm' (blk_all (B1_.out)) Tryz.underlying97 (i108 L_mx.out L_my.out L_mz.out) ?_) | (refine stB rfl 97 (.tmp 4) (.tmp 22) rfl (w.heap.size + 1 + 1) rfl (tv mx my mz) rfl 97 (natsV .u64 (zeros 12)) B2_.out (i108 L_mx.out L_my.out L_mz.out) (lenEq (show (natsV .u64 (zeros 12)).length = 12 from rfl) (tv_len L_mx.out L_my.out L_mz.out)) (tv_one _ _ _) ?_))
 refine bodyPost_ret (v := .agg (tv mx my mz).toArray) ?_ rfl ⟨rfl, below_setRow' bel_ (by first | exact Nat.le_refl _ | omega) _⟩
 exact results_cell_row Tryz.results73 _ _ (w.heap.size + 1 + 1) 97 _ (0, 0) _ rfl (B2_.out.setRow _) Tryz.underlying97 rfl (by simpa using (i108 L_mx.out L_my.out L_mz.out))
theorem dsum_b {lx ly lz mx my mz : List Nat} (hlx : lx.length = 4) (hly : ly.length = 4) (hlz : lz.length = 4) (hmx : mx.length = 4) (hmy : my.length = 4) (hmz : mz.length = 4) (h1 : ¬ lz = zeros 4) (h2 : mz = zeros 4) (w : World) :
   Calls Tryz.prog 73 #[.agg (tv lx ly lz).toArray, .agg (tv mx my mz).toArray] w fun e w' => e = .returned (.agg (tv lx ly lz).toArray) ∧ Below w.heap.size w w' := by
 have L_lx := Hd hlx
 have L_ly := Hd hly
 have L_lz := Hd hlz
 have L_mx := Hd hmx
 have L_my := Hd hmy
 have L_mz := Hd hmz
 have Q1 := Hd (fun w => (eql24 lz (zeros 4) L_lz.out z4l w).trans (by rw [decide_eq_false h1]))
 have Q2 := Hd (fun w => (eql24 mz (zeros 4) L_mz.out z4l w).trans (by rw [decide_eq_true h2]))
 have B0_ := Hd ((((Blk.new w  97 (tv lx ly lz)).alloc (.cells (tv mx my mz).toArray 97)).alloc (.cells (natsV .u64 (zeros 12)).toArray 97)).alloc (.cells (natsV .u64 (zeros 4)).toArray 26))
 have B1_ := Hd (((Blk.new2 w (.cells (tv lx ly lz).toArray 97) 97 (tv mx my mz)).alloc (.cells (natsV .u64 (zeros 12)).toArray 97)).alloc (.cells (natsV .u64 (zeros 4)).toArray 26))
 have B2_ := Hd ((Blk.new3 w (.cells (tv lx ly lz).toArray 97) (.cells (tv mx my mz).toArray 97) 97 (natsV .u64 (zeros 12))).alloc (.cells (natsV .u64 (zeros 4)).toArray 26))
 have B3_ := Hd (Blk.new4 w (.cells (tv lx ly lz).toArray 97) (.cells (tv mx my mz).toArray 97) (.cells (natsV .u64 (zeros 12)).toArray 97) 26 (natsV .u64 (zeros 4)))
 clear hlx hly hlz hmx hmy hmz h1 h2
 have bel_ := (((((Below.refl w.heap.size w).alloc (Nat.le_refl _) (.cells (tv lx ly lz).toArray 97)).alloc (by simp) (.cells (tv mx my mz).toArray 97)).alloc (by simp; omega) (.cells (natsV .u64 (zeros 12)).toArray 97)).alloc (by simp; omega) (.cells (natsV .u64 (zeros 4)).toArray 26))
 go_enter Tryz.func73, Tryz.ntmps73
 have qf1 := Q1.out
 have qf2 := Q2.out
 go_wp2_with (first | (refine lm' (tv_z (B0_.out) L_lx.out L_ly.out) Tryz.underlying26 (i24 L_lz.out) ?_) | (refine lm' (blk_all (B3_.out)) Tryz.underlying26 (i24 z4l) ?_) | (refine lm' (tv_z (B1_.out) L_mx.out L_my.out) Tryz.underlying26 (i24 L_mz.out) ?_) | (refine lm' (blk_all (B3_.out)) Tryz.underlying26 (i24 z4l) ?_) | (refine lm' (blk_all (B0_.out)) Tryz.underlying97 (i108 L_lx.out L_ly.out L_lz.out) ?_) | (refine stB rfl 97 (.tmp 4) (.tmp 27) rfl (w.heap.size + 1 + 1) rfl (tv lx ly lz) rfl 97 (natsV .u64 (zeros 12)) B2_.out (i108 L_lx.out L_ly.out L_lz.out) (lenEq (show (natsV .u64 (zeros 12)).length = 12 from rfl) (tv_len L_lx.out L_ly.out L_lz.out)) (tv_one _ _ _) ?_))
 refine bodyPost_ret (v := .agg (tv lx ly lz).toArray) ?_ rfl ⟨rfl, below_setRow' bel_ (by first | exact Nat.le_refl _ | omega) _⟩
 exact results_cell_row Tryz.results73 _ _ (w.heap.size + 1 + 1) 97 _ (0, 0) _ rfl (B2_.out.setRow _) Tryz.underlying97 rfl (by simpa using (i108 L_lx.out L_ly.out L_lz.out))
theorem dsum_c {lx ly lz mx my mz ya yb xa zz up dn sy : List Nat} (hlx : lx.length = 4) (hly : ly.length = 4) (hlz : lz.length = 4) (hmx : mx.length = 4) (hmy : my.length = 4) (hmz : mz.length = 4) (hya : ya.length = 4) (hyb : yb.length = 4) (hxa : xa.length = 4) (hzz : zz.length = 4) (hup : up.length = 4) (hdn : dn.length = 4) (hsy : sy.length = 4)
   (c1 : Ans 74 #[.agg (natsV .u64 ly).toArray, .agg (natsV .u64 mz).toArray] (.agg (natsV .u64 ya).toArray))
   (c2 : Ans 74 #[.agg (natsV .u64 my).toArray, .agg (natsV .u64 lz).toArray] (.agg (natsV .u64 yb).toArray))
   (c3 : Ans 74 #[.agg (natsV .u64 lx).toArray, .agg (natsV .u64 mz).toArray] (.agg (natsV .u64 xa).toArray))
   (c4 : Ans 74 #[.agg (natsV .u64 mx).toArray, .agg (natsV .u64 lz).toArray] (.agg (natsV .u64 xa).toArray))
   (c5 : Ans 74 #[.agg (natsV .u64 lz).toArray, .agg (natsV .u64 mz).toArray] (.agg (natsV .u64 zz).toArray))
   (c6 : Ans 102 #[.agg (natsV .u64 yb).toArray, .agg (natsV .u64 ya).toArray] (.agg (natsV .u64 up).toArray))
   (c7 : Ans 102 #[.agg (natsV .u64 xa).toArray, .agg (natsV .u64 xa).toArray] (.agg (natsV .u64 dn).toArray))
   (c8 : Ans 103 #[.agg (natsV .u64 ya).toArray, .agg (natsV .u64 yb).toArray] (.agg (natsV .u64 sy).toArray)) (h1 : ¬ lz = zeros 4) (h2 : ¬ mz = zeros 4) (h4 : sy = zeros 4) (w : World) :
   Calls Tryz.prog 73 #[.agg (tv lx ly lz).toArray, .agg (tv mx my mz).toArray] w fun e w' => e = .returned (.agg (tv (zeros 4) (zeros 4) (zeros 4)).toArray) ∧ Below w.heap.size w w' := by
 have L_lx := Hd hlx
 have L_ly := Hd hly
 have L_lz := Hd hlz
 have L_mx := Hd hmx
 have L_my := Hd hmy
 have L_mz := Hd hmz
 have L_ya := Hd hya
 have L_yb := Hd hyb
 have L_xa := Hd hxa
 have L_zz := Hd hzz
 have L_up := Hd hup
 have L_dn := Hd hdn
 have L_sy := Hd hsy
 have Hc1 := Hd c1
 have Hc2 := Hd c2
 have Hc3 := Hd c3
 have Hc4 := Hd c4
 have Hc5 := Hd c5
 have Hc6 := Hd c6
 have Hc7 := Hd c7
 have Hc8 := Hd c8
 have Q1 := Hd (fun w => (eql24 lz (zeros 4) L_lz.out z4l w).trans (by rw [decide_eq_false h1]))
 have Q2 := Hd (fun w => (eql24 mz (zeros 4) L_mz.out z4l w).trans (by rw [decide_eq_false h2]))
 have Q3 := Hd (fun w => (eql24 xa xa L_xa.out L_xa.out w).trans (by rw [decide_eq_true rfl]))
 have Q4 := Hd (fun w => (eql24 sy (zeros 4) L_sy.out z4l w).trans (by rw [decide_eq_true h4]))
 have B0_ := Hd ((((Blk.new w  97 (tv lx ly lz)).alloc (.cells (tv mx my mz).toArray 97)).alloc (.cells (natsV .u64 (zeros 12)).toArray 97)).alloc (.cells (natsV .u64 (zeros 4)).toArray 26))
 have B1_ := Hd (((Blk.new2 w (.cells (tv lx ly lz).toArray 97) 97 (tv mx my mz)).alloc (.cells (natsV .u64 (zeros 12)).toArray 97)).alloc (.cells (natsV .u64 (zeros 4)).toArray 26))
 have B2_ := Hd ((Blk.new3 w (.cells (tv lx ly lz).toArray 97) (.cells (tv mx my mz).toArray 97) 97 (natsV .u64 (zeros 12))).alloc (.cells (natsV .u64 (zeros 4)).toArray 26))
 have B3_ := Hd (Blk.new4 w (.cells (tv lx ly lz).toArray 97) (.cells (tv mx my mz).toArray 97) (.cells (natsV .u64 (zeros 12)).toArray 97) 26 (natsV .u64 (zeros 4)))
 clear hlx hly hlz hmx hmy hmz hya hyb hxa hzz hup hdn hsy c1 c2 c3 c4 c5 c6 c7 c8 h1 h2 h4
 have bel_ := (((((Below.refl w.heap.size w).alloc (Nat.le_refl _) (.cells (tv lx ly lz).toArray 97)).alloc (by simp) (.cells (tv mx my mz).toArray 97)).alloc (by simp; omega) (.cells (natsV .u64 (zeros 12)).toArray 97)).alloc (by simp; omega) (.cells (natsV .u64 (zeros 4)).toArray 26))
 go_enter Tryz.func73, Tryz.ntmps73
 have qf1 := Q1.out
 have qf2 := Q2.out
 go_wp2_with (first | (refine lm' (tv_z (B0_.out) L_lx.out L_ly.out) Tryz.underlying26 (i24 L_lz.out) ?_) | (refine lm' (blk_all (B3_.out)) Tryz.underlying26 (i24 z4l) ?_) | (refine lm' (tv_z (B1_.out) L_mx.out L_my.out) Tryz.underlying26 (i24 L_mz.out) ?_) | (refine lm' (blk_all (B3_.out)) Tryz.underlying26 (i24 z4l) ?_) | (refine lm' (tv_y (B0_.out) L_lx.out) Tryz.underlying26 (i24 L_ly.out) ?_) | (refine lm' (tv_z (B1_.out) L_mx.out L_my.out) Tryz.underlying26 (i24 L_mz.out) ?_))
 refine (Hc1.out _).mono ?_
 rintro e w1 ⟨rfl, hbw1⟩
 have C2 := gq' B0_ hbw1
 have C3 := gq' B1_ hbw1
 have C4 := gq' B2_ hbw1
 have C5 := gq' B3_ hbw1
 have hbel6 := bel_.trans (Below.mono hbw1 bel_.size)
 clear B0_ B1_ B2_ B3_ bel_ hbw1
 go_wp2_with (first | (refine stN rfl 26 (.tmp 6) (.tmp 32) rfl w1 rfl (natsV .u64 ya) rfl 26 (natsV .u64 (zeros 4)) (i24 L_ya.out) (lz4 L_ya.out) n1' ?_; intro w7 hgw7 hnw7; have C10 := gq' C2 hgw7; clear C2; have C11 := gq' C3 hgw7; clear C3; have C12 := gq' C4 hgw7; clear C4; have C13 := gq' C5 hgw7; clear C5; have hbel14 := hbel6.trans (Below.mono hgw7 hbel6.size); clear hbel6; have D9 := Hd hnw7; clear hnw7 hgw7; generalize w1.heap.size = G8 at *) | (refine lm' (tv_y (C11.out) L_mx.out) Tryz.underlying26 (i24 L_my.out) ?_) | (refine lm' (tv_z (C10.out) L_lx.out L_ly.out) Tryz.underlying26 (i24 L_lz.out) ?_))
 refine (Hc2.out _).mono ?_
 rintro e w15 ⟨rfl, hbw15⟩
 have C16 := gq' C10 hbw15
 have C17 := gq' C11 hbw15
 have C18 := gq' C12 hbw15
 have C19 := gq' C13 hbw15
 have C20 := gq' D9 hbw15
 have hbel21 := hbel14.trans (Below.mono hbw15 hbel14.size)
 clear C10 C11 C12 C13 D9 hbel14 hbw15
 go_wp2_with (first | (refine stN rfl 26 (.tmp 7) (.tmp 37) rfl w15 rfl (natsV .u64 yb) rfl 26 (natsV .u64 (zeros 4)) (i24 L_yb.out) (lz4 L_yb.out) n1' ?_; intro w22 hgw22 hnw22; have C25 := gq' C16 hgw22; clear C16; have C26 := gq' C17 hgw22; clear C17; have C27 := gq' C18 hgw22; clear C18; have C28 := gq' C19 hgw22; clear C19; have C29 := gq' C20 hgw22; clear C20; have hbel30 := hbel21.trans (Below.mono hgw22 hbel21.size); clear hbel21; have D24 := Hd hnw22; clear hnw22 hgw22; generalize w15.heap.size = G23 at *) | (refine lm' (tv_x (C25.out)) Tryz.underlying26 (i24 L_lx.out) ?_) | (refine lm' (tv_z (C26.out) L_mx.out L_my.out) Tryz.underlying26 (i24 L_mz.out) ?_))
 refine (Hc3.out _).mono ?_
 rintro e w31 ⟨rfl, hbw31⟩
 have C32 := gq' C25 hbw31
 have C33 := gq' C26 hbw31
 have C34 := gq' C27 hbw31
 have C35 := gq' C28 hbw31
 have C36 := gq' C29 hbw31
 have C37 := gq' D24 hbw31
 have hbel38 := hbel30.trans (Below.mono hbw31 hbel30.size)
 clear C25 C26 C27 C28 C29 D24 hbel30 hbw31
 go_wp2_with (first | (refine stN rfl 26 (.tmp 8) (.tmp 42) rfl w31 rfl (natsV .u64 xa) rfl 26 (natsV .u64 (zeros 4)) (i24 L_xa.out) (lz4 L_xa.out) n1' ?_; intro w39 hgw39 hnw39; have C42 := gq' C32 hgw39; clear C32; have C43 := gq' C33 hgw39; clear C33; have C44 := gq' C34 hgw39; clear C34; have C45 := gq' C35 hgw39; clear C35; have C46 := gq' C36 hgw39; clear C36; have C47 := gq' C37 hgw39; clear C37; have hbel48 := hbel38.trans (Below.mono hgw39 hbel38.size); clear hbel38; have D41 := Hd hnw39; clear hnw39 hgw39; generalize w31.heap.size = G40 at *) | (refine lm' (tv_x (C43.out)) Tryz.underlying26 (i24 L_mx.out) ?_) | (refine lm' (tv_z (C42.out) L_lx.out L_ly.out) Tryz.underlying26 (i24 L_lz.out) ?_))
 refine (Hc4.out _).mono ?_
 rintro e w49 ⟨rfl, hbw49⟩
 have C50 := gq' C42 hbw49
 have C51 := gq' C43 hbw49
 have C52 := gq' C44 hbw49
 have C53 := gq' C45 hbw49
 have C54 := gq' C46 hbw49
 have C55 := gq' C47 hbw49
 have C56 := gq' D41 hbw49
 have hbel57 := hbel48.trans (Below.mono hbw49 hbel48.size)
 clear C42 C43 C44 C45 C46 C47 D41 hbel48 hbw49
 go_wp2_with (first | (refine stN rfl 26 (.tmp 9) (.tmp 47) rfl w49 rfl (natsV .u64 xa) rfl 26 (natsV .u64 (zeros 4)) (i24 L_xa.out) (lz4 L_xa.out) n1' ?_; intro w58 hgw58 hnw58; have C61 := gq' C50 hgw58; clear C50; have C62 := gq' C51 hgw58; clear C51; have C63 := gq' C52 hgw58; clear C52; have C64 := gq' C53 hgw58; clear C53; have C65 := gq' C54 hgw58; clear C54; have C66 := gq' C55 hgw58; clear C55; have C67 := gq' C56 hgw58; clear C56; have hbel68 := hbel57.trans (Below.mono hgw58 hbel57.size); clear hbel57; have D60 := Hd hnw58; clear hnw58 hgw58; generalize w49.heap.size = G59 at *) | (refine lm' (tv_z (C61.out) L_lx.out L_ly.out) Tryz.underlying26 (i24 L_lz.out) ?_) | (refine lm' (tv_z (C62.out) L_mx.out L_my.out) Tryz.underlying26 (i24 L_mz.out) ?_))
 refine (Hc5.out _).mono ?_
 rintro e w69 ⟨rfl, hbw69⟩
 have C70 := gq' C61 hbw69
 have C71 := gq' C62 hbw69
 have C72 := gq' C63 hbw69
 have C73 := gq' C64 hbw69
 have C74 := gq' C65 hbw69
 have C75 := gq' C66 hbw69
 have C76 := gq' C67 hbw69
 have C77 := gq' D60 hbw69
 have hbel78 := hbel68.trans (Below.mono hbw69 hbel68.size)
 clear C61 C62 C63 C64 C65 C66 C67 D60 hbel68 hbw69
 go_wp2_with (first | (refine stN rfl 26 (.tmp 10) (.tmp 52) rfl w69 rfl (natsV .u64 zz) rfl 26 (natsV .u64 (zeros 4)) (i24 L_zz.out) (lz4 L_zz.out) n1' ?_; intro w79 hgw79 hnw79; have C82 := gq' C70 hgw79; clear C70; have C83 := gq' C71 hgw79; clear C71; have C84 := gq' C72 hgw79; clear C72; have C85 := gq' C73 hgw79; clear C73; have C86 := gq' C74 hgw79; clear C74; have C87 := gq' C75 hgw79; clear C75; have C88 := gq' C76 hgw79; clear C76; have C89 := gq' C77 hgw79; clear C77; have hbel90 := hbel78.trans (Below.mono hgw79 hbel78.size); clear hbel78; have D81 := Hd hnw79; clear hnw79 hgw79; generalize w69.heap.size = G80 at *) | (refine lm' (blk_all (C87.out)) Tryz.underlying26 (i24 L_yb.out) ?_) | (refine lm' (blk_all (C86.out)) Tryz.underlying26 (i24 L_ya.out) ?_))
 refine (Hc6.out _).mono ?_
 rintro e w91 ⟨rfl, hbw91⟩
 have C92 := gq' C82 hbw91
 have C93 := gq' C83 hbw91
 have C94 := gq' C84 hbw91
 have C95 := gq' C85 hbw91
 have C96 := gq' C86 hbw91
 have C97 := gq' C87 hbw91
 have C98 := gq' C88 hbw91
 have C99 := gq' C89 hbw91
 have C100 := gq' D81 hbw91
 have hbel101 := hbel90.trans (Below.mono hbw91 hbel90.size)
 clear C82 C83 C84 C85 C86 C87 C88 C89 D81 hbel90 hbw91
 go_wp2_with (first | (refine stN rfl 26 (.tmp 11) (.tmp 55) rfl w91 rfl (natsV .u64 up) rfl 26 (natsV .u64 (zeros 4)) (i24 L_up.out) (lz4 L_up.out) n1' ?_; intro w102 hgw102 hnw102; have NE105 := Hd (Nat.ne_of_lt (C92.out.lt)); have NE106 := Hd (Nat.ne_of_lt (C93.out.lt)); have NE107 := Hd (Nat.ne_of_lt (C94.out.lt)); have NE108 := Hd (Nat.ne_of_lt (C95.out.lt)); have NE109 := Hd (Nat.ne_of_lt (C96.out.lt)); have NE110 := Hd (Nat.ne_of_lt (C97.out.lt)); have NE111 := Hd (Nat.ne_of_lt (C98.out.lt)); have NE112 := Hd (Nat.ne_of_lt (C99.out.lt)); have NE113 := Hd (Nat.ne_of_lt (C100.out.lt)); have GE114 := Hd hbel101.size; have C115 := gq' C92 hgw102; clear C92; have C116 := gq' C93 hgw102; clear C93; have C117 := gq' C94 hgw102; clear C94; have C118 := gq' C95 hgw102; clear C95; have C119 := gq' C96 hgw102; clear C96; have C120 := gq' C97 hgw102; clear C97; have C121 := gq' C98 hgw102; clear C98; have C122 := gq' C99 hgw102; clear C99; have C123 := gq' C100 hgw102; clear C100; have hbel124 := hbel101.trans (Below.mono hgw102 hbel101.size); clear hbel101; have D104 := Hd hnw102; clear hnw102 hgw102; generalize w91.heap.size = G103 at *) | (refine lm' (blk_all (C122.out)) Tryz.underlying26 (i24 L_xa.out) ?_) | (refine lm' (blk_all (C121.out)) Tryz.underlying26 (i24 L_xa.out) ?_))
 refine (Hc7.out _).mono ?_
 rintro e w125 ⟨rfl, hbw125⟩
 have C126 := gq' C115 hbw125
 have C127 := gq' C116 hbw125
 have C128 := gq' C117 hbw125
 have C129 := gq' C118 hbw125
 have C130 := gq' C119 hbw125
 have C131 := gq' C120 hbw125
 have C132 := gq' C121 hbw125
 have C133 := gq' C122 hbw125
 have C134 := gq' C123 hbw125
 have C135 := gq' D104 hbw125
 have hbel136 := hbel124.trans (Below.mono hbw125 hbel124.size)
 have qf3 := Q3.out
 clear C115 C116 C117 C118 C119 C120 C121 C122 C123 D104 hbel124 hbw125
 go_wp2_with (first | (refine stN rfl 26 (.tmp 12) (.tmp 58) rfl w125 rfl (natsV .u64 dn) rfl 26 (natsV .u64 (zeros 4)) (i24 L_dn.out) (lz4 L_dn.out) n1' ?_; intro w137 hgw137 hnw137; have NE140 := Hd (Nat.ne_of_lt (C126.out.lt)); have NE141 := Hd (Nat.ne_of_lt (C127.out.lt)); have NE142 := Hd (Nat.ne_of_lt (C128.out.lt)); have NE143 := Hd (Nat.ne_of_lt (C129.out.lt)); have NE144 := Hd (Nat.ne_of_lt (C130.out.lt)); have NE145 := Hd (Nat.ne_of_lt (C131.out.lt)); have NE146 := Hd (Nat.ne_of_lt (C132.out.lt)); have NE147 := Hd (Nat.ne_of_lt (C133.out.lt)); have NE148 := Hd (Nat.ne_of_lt (C134.out.lt)); have NE149 := Hd (Nat.ne_of_lt (C135.out.lt)); have GE150 := Hd hbel136.size; have C151 := gq' C126 hgw137; clear C126; have C152 := gq' C127 hgw137; clear C127; have C153 := gq' C128 hgw137; clear C128; have C154 := gq' C129 hgw137; clear C129; have C155 := gq' C130 hgw137; clear C130; have C156 := gq' C131 hgw137; clear C131; have C157 := gq' C132 hgw137; clear C132; have C158 := gq' C133 hgw137; clear C133; have C159 := gq' C134 hgw137; clear C134; have C160 := gq' C135 hgw137; clear C135; have hbel161 := hbel136.trans (Below.mono hgw137 hbel136.size); clear hbel136; have D139 := Hd hnw137; clear hnw137 hgw137; generalize w125.heap.size = G138 at *) | (refine lm' (blk_all (C157.out)) Tryz.underlying26 (i24 L_xa.out) ?_) | (refine lm' (blk_all (C158.out)) Tryz.underlying26 (i24 L_xa.out) ?_))
 as_aux_lemma =>
 refine wp_region_G (fun w_ => Blk w_ G8 26 (natsV .u64 ya) ∧ Blk w_ G23 26 (natsV .u64 yb) ∧ Blk w_ (w.heap.size + 1 + 1 + 1) 26 (natsV .u64 (zeros 4))) 5 (by kernel_rfl) ⟨C155.out.drew, C156.out.drew, C154.out.drew⟩ ?_
 refine tk gS3 0 rfl (lg' (fun _ hS_ => blk_all (hS_.1)) Tryz.underlying26 (i24 L_ya.out)) ?_
 try simp only [Act.put, zq]
 refine tk gS3 1 rfl (lg' (fun _ hS_ => blk_all (hS_.2.1)) Tryz.underlying26 (i24 L_yb.out)) ?_
 try simp only [Act.put, zq]
 refine tk gS3 2 rfl (cg' Tryz.func103 (fun w _ => Hc8.out w)) ?_
 try simp only [Act.put, zq]
 refine tk gS3 3 rfl (lg' (fun _ hS_ => blk_all (hS_.2.2)) Tryz.underlying26 (i24 z4l)) ?_
 try simp only [Act.put, zq]
 refine tk gS3 4 rfl (pureG (by rfl) (by intro w; have q := Q4.out; go_simp; first | done | with_reducible rfl)) ?_
 try simp only [Act.put, zq]
 refine wpAnyG_done (by kernel_rfl) ?_ _
 intro w162 hgw162
 try simp only [Act.put, zq]
 have E163 := dq' C151 hgw162
 have E164 := dq' C152 hgw162
 have E165 := dq' C153 hgw162
 have E166 := dq' C154 hgw162
 have E167 := dq' C155 hgw162
 have E168 := dq' C156 hgw162
 have E169 := dq' C157 hgw162
 have E170 := dq' C158 hgw162
 have E171 := dq' C159 hgw162
 have E172 := dq' C160 hgw162
 have E173 := dq' D139 hgw162
 have hbel174 := hbel161.drew.trans (Below.mono hgw162 hbel161.drew.size)
 clear C151 C152 C153 C154 C155 C156 C157 C158 C159 C160 D139 hbel161 hgw162
 as_aux_lemma =>
 go_wp2_with (first | (refine stB rfl 97 (.tmp 4) (.tmp 67) rfl (w.heap.size + 1 + 1) rfl (tv (zeros 4) (zeros 4) (zeros 4)) rfl 97 (natsV .u64 (zeros 12)) E165.out (i108 z4l z4l z4l) (lenEq (show (natsV .u64 (zeros 12)).length = 12 from rfl) (tv_len z4l z4l z4l)) (tv_one _ _ _) ?_))
 refine bodyPost_ret (v := .agg (tv (zeros 4) (zeros 4) (zeros 4)).toArray) ?_ rfl ⟨rfl, below_setRow' hbel174 (by first | exact Nat.le_refl _ | omega) _⟩
 exact results_cell_row Tryz.results73 _ _ (w.heap.size + 1 + 1) 97 _ (0, 0) _ rfl (E165.out.setRow _) Tryz.underlying97 rfl (by simpa using (i108 z4l z4l z4l))
end Go.Proofs.YtdkkombpkojjaaaGreat
