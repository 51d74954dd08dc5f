/- Parts of proofs of statements, each text behind those that it stands on. No condition of its own. -/
import Derived.Test.YtdkkombpkojjaaaGreatV31
namespace Go.Proofs.YtdkkombpkojjaaaGreat
set_option maxRecDepth 100000
set_option maxHeartbeats 6400000
open Go.RowKit
set_option linter.unusedVariables false
set_option linter.unusedSimpArgs false
theorem dadd_d {lx ly my lp sy up dn q1 sq p1 p2 d2 iv l l2 x1 nx e1 e2 ny : List Nat} (hlx : lx.length = 4) (hly : ly.length = 4) (hmy : my.length = 4) (hlp : lp.length = 4) (hsy : sy.length = 4) (hup : up.length = 4) (hdn : dn.length = 4) (hq1 : q1.length = 4) (hsq : sq.length = 4) (hp1 : p1.length = 4) (hp2 : p2.length = 4) (hd2 : d2.length = 4) (hiv : iv.length = 4) (hl : l.length = 4) (hl2 : l2.length = 4) (hx1 : x1.length = 4) (hnx : nx.length = 4) (he1 : e1.length = 4) (he2 : e2.length = 4) (hny : ny.length = 4)
   (c1 : Ans 54 #[] (.agg (natsV .u64 lp).toArray))
   (c2 : Ans 45 #[.agg (natsV .u64 ly).toArray, .agg (natsV .u64 my).toArray, .agg (natsV .u64 lp).toArray] (.agg (natsV .u64 sy).toArray))
   (c3 : Ans 58 #[.agg (natsV .u64 my).toArray, .agg (natsV .u64 ly).toArray, .agg (natsV .u64 lp).toArray] (.agg (natsV .u64 up).toArray))
   (c4 : Ans 58 #[.agg (natsV .u64 lx).toArray, .agg (natsV .u64 lx).toArray, .agg (natsV .u64 lp).toArray] (.agg (natsV .u64 dn).toArray))
   (c5 : Ans 40 #[.agg (natsV .u64 lx).toArray, .agg (natsV .u64 lx).toArray, .agg (natsV .u64 lp).toArray] (.agg (natsV .u64 q1).toArray))
   (c6 : Ans 58 #[.agg (natsV .u64 q1).toArray, .agg #[.int .u64 1, .int .u64 0, .int .u64 0, .int .u64 0], .agg (natsV .u64 lp).toArray] (.agg (natsV .u64 sq).toArray))
   (c7 : Ans 45 #[.agg (natsV .u64 sq).toArray, .agg (natsV .u64 sq).toArray, .agg (natsV .u64 lp).toArray] (.agg (natsV .u64 p1).toArray))
   (c8 : Ans 45 #[.agg (natsV .u64 p1).toArray, .agg (natsV .u64 sq).toArray, .agg (natsV .u64 lp).toArray] (.agg (natsV .u64 p2).toArray))
   (c9 : Ans 45 #[.agg (natsV .u64 ly).toArray, .agg (natsV .u64 ly).toArray, .agg (natsV .u64 lp).toArray] (.agg (natsV .u64 d2).toArray))
   (c10 : Ans 39 #[.agg (natsV .u64 d2).toArray, .agg (natsV .u64 lp).toArray] (.agg (natsV .u64 iv).toArray))
   (c11 : Ans 40 #[.agg (natsV .u64 p2).toArray, .agg (natsV .u64 iv).toArray, .agg (natsV .u64 lp).toArray] (.agg (natsV .u64 l).toArray))
   (c12 : Ans 40 #[.agg (natsV .u64 l).toArray, .agg (natsV .u64 l).toArray, .agg (natsV .u64 lp).toArray] (.agg (natsV .u64 l2).toArray))
   (c13 : Ans 58 #[.agg (natsV .u64 l2).toArray, .agg (natsV .u64 lx).toArray, .agg (natsV .u64 lp).toArray] (.agg (natsV .u64 x1).toArray))
   (c14 : Ans 58 #[.agg (natsV .u64 x1).toArray, .agg (natsV .u64 lx).toArray, .agg (natsV .u64 lp).toArray] (.agg (natsV .u64 nx).toArray))
   (c15 : Ans 58 #[.agg (natsV .u64 lx).toArray, .agg (natsV .u64 nx).toArray, .agg (natsV .u64 lp).toArray] (.agg (natsV .u64 e1).toArray))
   (c16 : Ans 40 #[.agg (natsV .u64 l).toArray, .agg (natsV .u64 e1).toArray, .agg (natsV .u64 lp).toArray] (.agg (natsV .u64 e2).toArray))
   (c17 : Ans 58 #[.agg (natsV .u64 e2).toArray, .agg (natsV .u64 ly).toArray, .agg (natsV .u64 lp).toArray] (.agg (natsV .u64 ny).toArray)) (h4 : ¬ sy = zeros 4) (w : World) :
   Calls Tryz.prog 41 #[.agg (pv lx ly false).toArray, .agg (pv lx my false).toArray] w fun e w' => e = .returned (.agg (pv nx ny false).toArray) ∧ Below w.heap.size w w' := by
 have L_lx := Hd hlx
 have L_ly := Hd hly
 have L_my := Hd hmy
 have L_lp := Hd hlp
 have L_sy := Hd hsy
 have L_up := Hd hup
 have L_dn := Hd hdn
 have L_q1 := Hd hq1
 have L_sq := Hd hsq
 have L_p1 := Hd hp1
 have L_p2 := Hd hp2
 have L_d2 := Hd hd2
 have L_iv := Hd hiv
 have L_l := Hd hl
 have L_l2 := Hd hl2
 have L_x1 := Hd hx1
 have L_nx := Hd hnx
 have L_e1 := Hd he1
 have L_e2 := Hd he2
 have L_ny := Hd hny
 have Hc1 := Hd c1
 have Hc2 := Hd c2
 have Hc3 := Hd c3
 have Hc4 := Hd c4
 have Hc5 := Hd c5
 have Hc6 := Hd c6
 have Hc7 := Hd c7
 have Hc8 := Hd c8
 have Hc9 := Hd c9
 have Hc10 := Hd c10
 have Hc11 := Hd c11
 have Hc12 := Hd c12
 have Hc13 := Hd c13
 have Hc14 := Hd c14
 have Hc15 := Hd c15
 have Hc16 := Hd c16
 have Hc17 := Hd c17
 have Q3 := Hd (fun w => (eql24 lx lx L_lx.out L_lx.out w).trans (by rw [decide_eq_true rfl]))
 have Q4 := Hd (fun w => (eqZ24 sy L_sy.out w).trans (by rw [decide_eq_false h4]))
 have B0_ := Hd (((Blk.new w  28 (pv lx ly false)).alloc (.cells (pv lx my false).toArray 28)).alloc (.cells (pv (zeros 4) (zeros 4) false).toArray 28))
 have B1_ := Hd ((Blk.new2 w (.cells (pv lx ly false).toArray 28) 28 (pv lx my false)).alloc (.cells (pv (zeros 4) (zeros 4) false).toArray 28))
 have B2_ := Hd (Blk.new3 w (.cells (pv lx ly false).toArray 28) (.cells (pv lx my false).toArray 28) 28 (pv (zeros 4) (zeros 4) false))
 clear hlx hly hmy hlp hsy hup hdn hq1 hsq hp1 hp2 hd2 hiv hl hl2 hx1 hnx he1 he2 hny c1 c2 c3 c4 c5 c6 c7 c8 c9 c10 c11 c12 c13 c14 c15 c16 c17 h4
 have bel_ := ((((Below.refl w.heap.size w).alloc (Nat.le_refl _) (.cells (pv lx ly false).toArray 28)).alloc (by simp) (.cells (pv lx my false).toArray 28)).alloc (by simp; omega) (.cells (pv (zeros 4) (zeros 4) false).toArray 28))
 go_enter Tryz.func41, Tryz.ntmps41
 have qf3 := Q3.out
 have qf4 := Q4.out
 go_wp2_with fail
 refine (Hc1.out _).mono ?_
 rintro e w1 ⟨rfl, hbw1⟩
 have C2 := gq' B0_ hbw1
 have C3 := gq' B1_ hbw1
 have C4 := gq' B2_ hbw1
 have hbel5 := bel_.trans (Below.mono hbw1 bel_.size)
 clear B0_ B1_ B2_ bel_ hbw1
 go_wp2_with (first | (refine stN rfl 26 (.tmp 5) (.tmp 12) rfl w1 rfl (natsV .u64 lp) rfl 26 (natsV .u64 (zeros 4)) (i24 L_lp.out) (lz4 L_lp.out) n1' ?_; intro w6 hgw6 hnw6; have C9 := gq' C2 hgw6; clear C2; have C10 := gq' C3 hgw6; clear C3; have C11 := gq' C4 hgw6; clear C4; have hbel12 := hbel5.trans (Below.mono hgw6 hbel5.size); clear hbel5; have D8 := Hd hnw6; clear hnw6 hgw6; generalize w1.heap.size = G7 at *; have ci13 := pv_i C9.out L_lx.out L_ly.out; have ci14 := pv_i C10.out L_lx.out L_my.out) | (refine lm' (pv_x (C9.out)) Tryz.underlying26 (i24 L_lx.out) ?_) | (refine lm' (pv_x (C10.out)) Tryz.underlying26 (i24 L_lx.out) ?_) | (refine ldwM 26 (.tmp 25) rfl w.heap.size 4 rfl (natsV .u64 ly) _ (pv_y (C9.out) L_lx.out) Tryz.underlying26 rfl (i24 L_ly.out) 5 true rfl 24 rfl rfl ?_) | (refine ldwM 26 (.tmp 27) rfl (w.heap.size + 1) 4 rfl (natsV .u64 my) _ (pv_y (C10.out) L_lx.out) Tryz.underlying26 rfl (i24 L_my.out) 5 true rfl 24 rfl rfl ?_) | (refine ldwM 26 (.tmp 5) rfl G7 0 rfl (natsV .u64 lp) _ (blk_all (D8.out)) Tryz.underlying26 rfl (i24 L_lp.out) 5 true rfl 24 rfl rfl ?_))
 refine (Hc2.out _).mono ?_
 rintro e w15 ⟨rfl, hbw15⟩
 have C16 := gq' C9 hbw15
 have C17 := gq' C10 hbw15
 have C18 := gq' C11 hbw15
 have C19 := gq' D8 hbw15
 have hbel20 := hbel12.trans (Below.mono hbw15 hbel12.size)
 clear C9 C10 C11 D8 hbel12 hbw15
 go_wp2_with (first | (refine lm' (pv_y (C17.out) L_lx.out) Tryz.underlying26 (i24 L_my.out) ?_) | (refine lm' (pv_y (C16.out) L_lx.out) Tryz.underlying26 (i24 L_ly.out) ?_) | (refine lm' (blk_all (C19.out)) Tryz.underlying26 (i24 L_lp.out) ?_))
 refine (Hc3.out _).mono ?_
 rintro e w21 ⟨rfl, hbw21⟩
 have C22 := gq' C16 hbw21
 have C23 := gq' C17 hbw21
 have C24 := gq' C18 hbw21
 have C25 := gq' C19 hbw21
 have hbel26 := hbel20.trans (Below.mono hbw21 hbel20.size)
 clear C16 C17 C18 C19 hbel20 hbw21
 go_wp2_with (first | (refine stN rfl 26 (.tmp 6) (.tmp 40) rfl w21 rfl (natsV .u64 up) rfl 26 (natsV .u64 (zeros 4)) (i24 L_up.out) (lz4 L_up.out) n1' ?_; intro w27 hgw27 hnw27; have NE30 := Hd (Nat.ne_of_lt (C22.out.lt)); have NE31 := Hd (Nat.ne_of_lt (C23.out.lt)); have NE32 := Hd (Nat.ne_of_lt (C24.out.lt)); have NE33 := Hd (Nat.ne_of_lt (C25.out.lt)); have GE34 := Hd hbel26.size; have C35 := gq' C22 hgw27; clear C22; have C36 := gq' C23 hgw27; clear C23; have C37 := gq' C24 hgw27; clear C24; have C38 := gq' C25 hgw27; clear C25; have hbel39 := hbel26.trans (Below.mono hgw27 hbel26.size); clear hbel26; have D29 := Hd hnw27; clear hnw27 hgw27; generalize w21.heap.size = G28 at *) | (refine lm' (pv_x (C36.out)) Tryz.underlying26 (i24 L_lx.out) ?_) | (refine lm' (pv_x (C35.out)) Tryz.underlying26 (i24 L_lx.out) ?_) | (refine lm' (blk_all (C38.out)) Tryz.underlying26 (i24 L_lp.out) ?_))
 refine (Hc4.out _).mono ?_
 rintro e w40 ⟨rfl, hbw40⟩
 have C41 := gq' C35 hbw40
 have C42 := gq' C36 hbw40
 have C43 := gq' C37 hbw40
 have C44 := gq' C38 hbw40
 have C45 := gq' D29 hbw40
 have hbel46 := hbel39.trans (Below.mono hbw40 hbel39.size)
 clear C35 C36 C37 C38 D29 hbel39 hbw40
 go_wp2_with (first | (refine stN rfl 26 (.tmp 7) (.tmp 46) rfl w40 rfl (natsV .u64 dn) rfl 26 (natsV .u64 (zeros 4)) (i24 L_dn.out) (lz4 L_dn.out) n1' ?_; intro w47 hgw47 hnw47; have NE50 := Hd (Nat.ne_of_lt (C41.out.lt)); have NE51 := Hd (Nat.ne_of_lt (C42.out.lt)); have NE52 := Hd (Nat.ne_of_lt (C43.out.lt)); have NE53 := Hd (Nat.ne_of_lt (C44.out.lt)); have NE54 := Hd (Nat.ne_of_lt (C45.out.lt)); have GE55 := Hd hbel46.size; have C56 := gq' C41 hgw47; clear C41; have C57 := gq' C42 hgw47; clear C42; have C58 := gq' C43 hgw47; clear C43; have C59 := gq' C44 hgw47; clear C44; have C60 := gq' C45 hgw47; clear C45; have hbel61 := hbel46.trans (Below.mono hgw47 hbel46.size); clear hbel46; have D49 := Hd hnw47; clear hnw47 hgw47; generalize w40.heap.size = G48 at *) | (refine lm' (pv_x (C56.out)) Tryz.underlying26 (i24 L_lx.out) ?_) | (refine lm' (pv_x (C57.out)) Tryz.underlying26 (i24 L_lx.out) ?_))
 as_aux_lemma =>
 refine wp_region_G (fun w_ => Blk w_ w.heap.size 28 (pv lx ly false) ∧ Blk w_ G7 26 (natsV .u64 lp)) 10 (by kernel_rfl) ⟨C56.out.drew, C59.out.drew⟩ ?_
 refine tkp gS2 0 rfl ?_
 try simp only [Act.put, zq]
 refine tk gS2 1 rfl (lg' (fun _ hS_ => pv_x (hS_.1)) Tryz.underlying26 (i24 L_lx.out)) ?_
 try simp only [Act.put, zq]
 refine tkp gS2 2 rfl ?_
 try simp only [Act.put, zq]
 refine tk gS2 3 rfl (lg' (fun _ hS_ => pv_x (hS_.1)) Tryz.underlying26 (i24 L_lx.out)) ?_
 try simp only [Act.put, zq]
 refine tk gS2 4 rfl (lg' (fun _ hS_ => blk_all (hS_.2)) Tryz.underlying26 (i24 L_lp.out)) ?_
 try simp only [Act.put, zq]
 refine tk gS2 5 rfl (cg' Tryz.func40 (fun w _ => Hc5.out w)) ?_
 try simp only [Act.put, zq]
 refine tkp gS2 6 rfl ?_
 try simp only [Act.put, zq]
 refine tk gS2 7 rfl (lg' (fun _ hS_ => blk_all (hS_.2)) Tryz.underlying26 (i24 L_lp.out)) ?_
 try simp only [Act.put, zq]
 refine tk gS2 8 rfl (cg' Tryz.func58 (fun w _ => Hc6.out w)) ?_
 try simp only [Act.put, zq]
 refine wpAnyG_def (i := 9) (j := 10) gS2 (by kernel_rfl) (by kernel_rfl) (by kernel_rfl) rfl rfl rfl (allocG (by rfl) rfl _ alloc24) (lz4 L_sq.out) (fun _ => StoresG.mk (cs := (natsV .u64 sq)) (by rfl) 26 _ _ rfl rfl rfl (i24 L_sq.out) n1') ?_
 intro w62 G63 hgw62 hz_ hn_
 try simp only [Act.put, zq]
 have NE64 := Hd (Nat.ne_of_lt (Nat.lt_of_lt_of_le C60.out.drew.lt hz_))
 have NE65 := Hd (Nat.ne_of_lt (Nat.lt_of_lt_of_le D49.out.drew.lt hz_))
 have E66 := dq' C56 hgw62
 have E67 := dq' C57 hgw62
 have E68 := dq' C58 hgw62
 have E69 := dq' C59 hgw62
 have E70 := dq' C60 hgw62
 have E71 := dq' D49 hgw62
 have hbel72 := hbel61.drew.trans (Below.mono hgw62 hbel61.drew.size)
 have D73 := Hd hn_
 clear C56 C57 C58 C59 C60 D49 hbel61 hn_ hz_ hgw62
 as_aux_lemma =>
 go_wp2_with fail
 as_aux_lemma =>
 refine wp_region_G (fun w_ => Blk w_ G63 26 (natsV .u64 sq) ∧ Blk w_ G7 26 (natsV .u64 lp)) 7 (by kernel_rfl) ⟨D73.out.drew, E69.out.drew⟩ ?_
 refine tk gS2 0 rfl (lg' (fun _ hS_ => blk_all (hS_.1)) Tryz.underlying26 (i24 L_sq.out)) ?_
 try simp only [Act.put, zq]
 refine tk gS2 1 rfl (lg' (fun _ hS_ => blk_all (hS_.1)) Tryz.underlying26 (i24 L_sq.out)) ?_
 try simp only [Act.put, zq]
 refine tk gS2 2 rfl (lg' (fun _ hS_ => blk_all (hS_.2)) Tryz.underlying26 (i24 L_lp.out)) ?_
 try simp only [Act.put, zq]
 refine tk gS2 3 rfl (cg' Tryz.func45 (fun w _ => Hc7.out w)) ?_
 try simp only [Act.put, zq]
 refine tk gS2 4 rfl (lg' (fun _ hS_ => blk_all (hS_.1)) Tryz.underlying26 (i24 L_sq.out)) ?_
 try simp only [Act.put, zq]
 refine tk gS2 5 rfl (lg' (fun _ hS_ => blk_all (hS_.2)) Tryz.underlying26 (i24 L_lp.out)) ?_
 try simp only [Act.put, zq]
 refine tk gS2 6 rfl (cg' Tryz.func45 (fun w _ => Hc8.out w)) ?_
 try simp only [Act.put, zq]
 refine wpAnyG_set (i := 7) (by kernel_rfl) (by kernel_rfl) rfl rfl E70.out.drew (lenEq (nl' L_up.out) (nl' L_p2.out)) (StoresG.mk (cs := (natsV .u64 p2)) (by rfl) 26 _ _ rfl rfl rfl (i24 L_p2.out) n1') ?_
 intro w74 hgw74 hn_
 try simp only [Act.put, zq]
 have E75 := Hd (E66.out.drew.grown hgw74 (fun e => NE30.out (Option.some.inj e)))
 have E76 := Hd (E67.out.drew.grown hgw74 (fun e => NE31.out (Option.some.inj e)))
 have E77 := Hd (E68.out.drew.grown hgw74 (fun e => NE32.out (Option.some.inj e)))
 have E78 := Hd (E69.out.drew.grown hgw74 (fun e => NE33.out (Option.some.inj e)))
 have E79 := Hd (E71.out.drew.grown hgw74 (fun e => (Ne.symm NE54.out) (Option.some.inj e)))
 have E80 := Hd (D73.out.drew.grown hgw74 (fun e => (Ne.symm NE64.out) (Option.some.inj e)))
 have D81 := Hd hn_
 have hbel82 := belStore hbel72.drew hgw74 (GE34.out)
 clear E66 E67 E68 E69 E71 D73 hn_ E70 hgw74
 as_aux_lemma =>
 go_wp2_with (first | (refine lm' (pv_y (E75.out) L_lx.out) Tryz.underlying26 (i24 L_ly.out) ?_) | (refine lm' (pv_y (E75.out) L_lx.out) Tryz.underlying26 (i24 L_ly.out) ?_) | (refine lm' (blk_all (E78.out)) Tryz.underlying26 (i24 L_lp.out) ?_))
 refine (Hc9.out _).mono ?_
 rintro e w83 ⟨rfl, hbw83⟩
 have C84 := gq' E75 hbw83
 have C85 := gq' E76 hbw83
 have C86 := gq' E77 hbw83
 have C87 := gq' E78 hbw83
 have C88 := gq' D81 hbw83
 have C89 := gq' E79 hbw83
 have C90 := gq' E80 hbw83
 have hbel91 := hbel82.trans (Below.mono hbw83 hbel82.size)
 clear E75 E76 E77 E78 D81 E79 E80 hbel82 hbw83
 go_wp2_with (first | (refine stB rfl 26 (.tmp 7) (.tmp 73) rfl G48 rfl (natsV .u64 d2) rfl 26 (natsV .u64 dn) C89.out (i24 L_d2.out) (lenEq (nl' L_dn.out) (nl' L_d2.out)) n1' ?_; generalize hW : World.setRow _ _ _ = w92; obtain ⟨hgw92, hnw92⟩ := setfacts hW C89.out; clear hW; have E93 := Hd (C84.out.grown hgw92 (fun e => NE50.out (Option.some.inj e))); clear C84; have E94 := Hd (C85.out.grown hgw92 (fun e => NE51.out (Option.some.inj e))); clear C85; have E95 := Hd (C86.out.grown hgw92 (fun e => NE52.out (Option.some.inj e))); clear C86; have E96 := Hd (C87.out.grown hgw92 (fun e => NE53.out (Option.some.inj e))); clear C87; have E97 := Hd (C88.out.grown hgw92 (fun e => NE54.out (Option.some.inj e))); clear C88; have E98 := Hd (C90.out.grown hgw92 (fun e => (Ne.symm NE65.out) (Option.some.inj e))); clear C90; have D99 := Hd hnw92; clear hnw92 C89; have hbel100 := belStore hbel91 hgw92 (GE55.out); clear hgw92; clear hbel91))
 as_aux_lemma =>
 refine wp_region_G (fun w_ => Blk w_ G28 26 (natsV .u64 p2) ∧ Blk w_ G48 26 (natsV .u64 d2) ∧ Blk w_ G7 26 (natsV .u64 lp)) 7 (by kernel_rfl) ⟨E97.out.drew, D99.out.drew, E96.out.drew⟩ ?_
 refine tk gS3 0 rfl (lg' (fun _ hS_ => blk_all (hS_.1)) Tryz.underlying26 (i24 L_p2.out)) ?_
 try simp only [Act.put, zq]
 refine tk gS3 1 rfl (lg' (fun _ hS_ => blk_all (hS_.2.1)) Tryz.underlying26 (i24 L_d2.out)) ?_
 try simp only [Act.put, zq]
 refine tk gS3 2 rfl (lg' (fun _ hS_ => blk_all (hS_.2.2)) Tryz.underlying26 (i24 L_lp.out)) ?_
 try simp only [Act.put, zq]
 refine tk gS3 3 rfl (cg' Tryz.func39 (fun w _ => Hc10.out w)) ?_
 try simp only [Act.put, zq]
 refine tk gS3 4 rfl (lg' (fun _ hS_ => blk_all (hS_.2.2)) Tryz.underlying26 (i24 L_lp.out)) ?_
 try simp only [Act.put, zq]
 refine tk gS3 5 rfl (cg' Tryz.func40 (fun w _ => Hc11.out w)) ?_
 try simp only [Act.put, zq]
 refine wpAnyG_def (i := 6) (j := 7) gS3 (by kernel_rfl) (by kernel_rfl) (by kernel_rfl) rfl rfl rfl (allocG (by rfl) rfl _ alloc24) (lz4 L_l.out) (fun _ => StoresG.mk (cs := (natsV .u64 l)) (by rfl) 26 _ _ rfl rfl rfl (i24 L_l.out) n1') ?_
 intro w101 G102 hgw101 hz_ hn_
 try simp only [Act.put, zq]
 have NE103 := Hd (Nat.ne_of_lt (Nat.lt_of_lt_of_le E97.out.drew.lt hz_))
 have NE104 := Hd (Nat.ne_of_lt (Nat.lt_of_lt_of_le D99.out.drew.lt hz_))
 have E105 := dq' E93 hgw101
 have E106 := dq' E94 hgw101
 have E107 := dq' E95 hgw101
 have E108 := dq' E96 hgw101
 have E109 := dq' E97 hgw101
 have E110 := dq' D99 hgw101
 have E111 := dq' E98 hgw101
 have hbel112 := hbel100.drew.trans (Below.mono hgw101 hbel100.drew.size)
 have D113 := Hd hn_
 clear E93 E94 E95 E96 E97 D99 E98 hbel100 hn_ hz_ hgw101
 as_aux_lemma =>
 go_wp2_with fail
 as_aux_lemma =>
 refine wp_region_G (fun w_ => Blk w_ G102 26 (natsV .u64 l) ∧ Blk w_ G7 26 (natsV .u64 lp) ∧ Blk w_ w.heap.size 28 (pv lx ly false) ∧ Blk w_ (w.heap.size + 1) 28 (pv lx my false)) 13 (by kernel_rfl) ⟨D113.out.drew, E108.out.drew, E105.out.drew, E106.out.drew⟩ ?_
 refine tk gS4 0 rfl (lg' (fun _ hS_ => blk_all (hS_.1)) Tryz.underlying26 (i24 L_l.out)) ?_
 try simp only [Act.put, zq]
 refine tk gS4 1 rfl (lg' (fun _ hS_ => blk_all (hS_.1)) Tryz.underlying26 (i24 L_l.out)) ?_
 try simp only [Act.put, zq]
 refine tk gS4 2 rfl (lg' (fun _ hS_ => blk_all (hS_.2.1)) Tryz.underlying26 (i24 L_lp.out)) ?_
 try simp only [Act.put, zq]
 refine tk gS4 3 rfl (cg' Tryz.func40 (fun w _ => Hc12.out w)) ?_
 try simp only [Act.put, zq]
 refine tkp gS4 4 rfl ?_
 try simp only [Act.put, zq]
 refine tk gS4 5 rfl (lg' (fun _ hS_ => pv_x (hS_.2.2.1)) Tryz.underlying26 (i24 L_lx.out)) ?_
 try simp only [Act.put, zq]
 refine tk gS4 6 rfl (lg' (fun _ hS_ => blk_all (hS_.2.1)) Tryz.underlying26 (i24 L_lp.out)) ?_
 try simp only [Act.put, zq]
 refine tk gS4 7 rfl (cg' Tryz.func58 (fun w _ => Hc13.out w)) ?_
 try simp only [Act.put, zq]
 refine tkp gS4 8 rfl ?_
 try simp only [Act.put, zq]
 refine tk gS4 9 rfl (lg' (fun _ hS_ => pv_x (hS_.2.2.2)) Tryz.underlying26 (i24 L_lx.out)) ?_
 try simp only [Act.put, zq]
 refine tk gS4 10 rfl (lg' (fun _ hS_ => blk_all (hS_.2.1)) Tryz.underlying26 (i24 L_lp.out)) ?_
 try simp only [Act.put, zq]
 refine tk gS4 11 rfl (cg' Tryz.func58 (fun w _ => Hc14.out w)) ?_
 try simp only [Act.put, zq]
 refine wpAnyG_def (i := 12) (j := 13) gS4 (by kernel_rfl) (by kernel_rfl) (by kernel_rfl) rfl rfl rfl (allocG (by rfl) rfl _ alloc24) (lz4 L_nx.out) (fun _ => StoresG.mk (cs := (natsV .u64 nx)) (by rfl) 26 _ _ rfl rfl rfl (i24 L_nx.out) n1') ?_
 intro w114 G115 hgw114 hz_ hn_
 try simp only [Act.put, zq]
 have NE116 := Hd (Nat.ne_of_lt (Nat.lt_of_lt_of_le E109.out.drew.lt hz_))
 have NE117 := Hd (Nat.ne_of_lt (Nat.lt_of_lt_of_le E110.out.drew.lt hz_))
 have E118 := dq' E105 hgw114
 have E119 := dq' E106 hgw114
 have E120 := dq' E107 hgw114
 have E121 := dq' E108 hgw114
 have E122 := dq' E109 hgw114
 have E123 := dq' E110 hgw114
 have E124 := dq' E111 hgw114
 have E125 := dq' D113 hgw114
 have hbel126 := hbel112.drew.trans (Below.mono hgw114 hbel112.drew.size)
 have D127 := Hd hn_
 clear E105 E106 E107 E108 E109 E110 E111 D113 hbel112 hn_ hz_ hgw114
 as_aux_lemma =>
 go_wp2_with fail
 as_aux_lemma =>
 refine wp_region_G (fun w_ => Blk w_ G102 26 (natsV .u64 l) ∧ Blk w_ w.heap.size 28 (pv lx ly false) ∧ Blk w_ G115 26 (natsV .u64 nx) ∧ Blk w_ G7 26 (natsV .u64 lp)) 13 (by kernel_rfl) ⟨E125.out.drew, E118.out.drew, D127.out.drew, E121.out.drew⟩ ?_
 refine tk gS4 0 rfl (lg' (fun _ hS_ => blk_all (hS_.1)) Tryz.underlying26 (i24 L_l.out)) ?_
 try simp only [Act.put, zq]
 refine tkp gS4 1 rfl ?_
 try simp only [Act.put, zq]
 refine tk gS4 2 rfl (lg' (fun _ hS_ => pv_x (hS_.2.1)) Tryz.underlying26 (i24 L_lx.out)) ?_
 try simp only [Act.put, zq]
 refine tk gS4 3 rfl (lg' (fun _ hS_ => blk_all (hS_.2.2.1)) Tryz.underlying26 (i24 L_nx.out)) ?_
 try simp only [Act.put, zq]
 refine tk gS4 4 rfl (lg' (fun _ hS_ => blk_all (hS_.2.2.2)) Tryz.underlying26 (i24 L_lp.out)) ?_
 try simp only [Act.put, zq]
 refine tk gS4 5 rfl (cg' Tryz.func58 (fun w _ => Hc15.out w)) ?_
 try simp only [Act.put, zq]
 refine tk gS4 6 rfl (lg' (fun _ hS_ => blk_all (hS_.2.2.2)) Tryz.underlying26 (i24 L_lp.out)) ?_
 try simp only [Act.put, zq]
 refine tk gS4 7 rfl (cg' Tryz.func40 (fun w _ => Hc16.out w)) ?_
 try simp only [Act.put, zq]
 refine tkp gS4 8 rfl ?_
 try simp only [Act.put, zq]
 refine tk gS4 9 rfl (lg' (fun _ hS_ => pv_y (hS_.2.1) L_lx.out) Tryz.underlying26 (i24 L_ly.out)) ?_
 try simp only [Act.put, zq]
 refine tk gS4 10 rfl (lg' (fun _ hS_ => blk_all (hS_.2.2.2)) Tryz.underlying26 (i24 L_lp.out)) ?_
 try simp only [Act.put, zq]
 refine tk gS4 11 rfl (cg' Tryz.func58 (fun w _ => Hc17.out w)) ?_
 try simp only [Act.put, zq]
 refine wpAnyG_def (i := 12) (j := 13) gS4 (by kernel_rfl) (by kernel_rfl) (by kernel_rfl) rfl rfl rfl (allocG (by rfl) rfl _ alloc24) (lz4 L_ny.out) (fun _ => StoresG.mk (cs := (natsV .u64 ny)) (by rfl) 26 _ _ rfl rfl rfl (i24 L_ny.out) n1') ?_
 intro w128 G129 hgw128 hz_ hn_
 try simp only [Act.put, zq]
 have NE130 := Hd (Nat.ne_of_lt (Nat.lt_of_lt_of_le E122.out.drew.lt hz_))
 have NE131 := Hd (Nat.ne_of_lt (Nat.lt_of_lt_of_le E123.out.drew.lt hz_))
 have E132 := dq' E118 hgw128
 have E133 := dq' E119 hgw128
 have E134 := dq' E120 hgw128
 have E135 := dq' E121 hgw128
 have E136 := dq' E122 hgw128
 have E137 := dq' E123 hgw128
 have E138 := dq' E124 hgw128
 have E139 := dq' E125 hgw128
 have E140 := dq' D127 hgw128
 have hbel141 := hbel126.drew.trans (Below.mono hgw128 hbel126.drew.size)
 have D142 := Hd hn_
 clear E118 E119 E120 E121 E122 E123 E124 E125 D127 hbel126 hn_ hz_ hgw128
 as_aux_lemma =>
 go_upto_region 17 with (fail)
 try simp only [Act.put, zq]
 as_aux_lemma =>
 refine wp_region_P (fun w_ => Blk w_ G115 26 (natsV .u64 nx) ∧ Blk w_ G129 26 (natsV .u64 ny)) 3 (by kernel_rfl) ⟨E140.out, D142.out⟩ ?_
 refine tk gS2 0 rfl (lg' (fun _ hS_ => blk_all (hS_.1)) Tryz.underlying26 (i24 L_nx.out)) ?_
 try simp only [Act.put, zq]
 refine tk gS2 1 rfl (lg' (fun _ hS_ => blk_all (hS_.2)) Tryz.underlying26 (i24 L_ny.out)) ?_
 try simp only [Act.put, zq]
 refine tk gS2 2 rfl (buildG (by rfl) _ _ rfl _ (built43 L_nx.out L_ny.out) (by simp [Act.eval])) ?_
 try simp only [Act.put, zq]
 refine wpAnyG_set (i := 3) (by kernel_rfl) (by kernel_rfl) rfl rfl E134.out (lenEq pz9 (pv_len L_nx.out L_ny.out)) (StoresG.mk (cs := (pv nx ny false)) (by rfl) 28 _ _ rfl rfl rfl (i43 L_nx.out L_ny.out) p1_) ?_
 intro w143 hgw143 hn_
 try simp only [Act.put, zq]
 have hbel144 := belStore hbel141 hgw143 (show w.heap.size ≤ (w.heap.size + 1 + 1) by omega)
 have D145 := Hd hn_
 go_wp2_with fail
 refine bodyPost_ret (v := .agg (pv nx ny false).toArray) ?_ rfl ⟨rfl, hbel144⟩
 exact results_cell_row Tryz.results41 _ _ (w.heap.size + 1 + 1) 28 _ (0, 0) _ rfl D145.out Tryz.underlying28 rfl (by simpa using (i43 L_nx.out L_ny.out))
theorem dadd_e {lx ly mx my lp up dn iv l l2 x1 nx e1 e2 ny : List Nat} (hlx : lx.length = 4) (hly : ly.length = 4) (hmx : mx.length = 4) (hmy : my.length = 4) (hlp : lp.length = 4) (hup : up.length = 4) (hdn : dn.length = 4) (hiv : iv.length = 4) (hl : l.length = 4) (hl2 : l2.length = 4) (hx1 : x1.length = 4) (hnx : nx.length = 4) (he1 : e1.length = 4) (he2 : e2.length = 4) (hny : ny.length = 4)
   (c1 : Ans 54 #[] (.agg (natsV .u64 lp).toArray))
   (c2 : Ans 58 #[.agg (natsV .u64 my).toArray, .agg (natsV .u64 ly).toArray, .agg (natsV .u64 lp).toArray] (.agg (natsV .u64 up).toArray))
   (c3 : Ans 58 #[.agg (natsV .u64 mx).toArray, .agg (natsV .u64 lx).toArray, .agg (natsV .u64 lp).toArray] (.agg (natsV .u64 dn).toArray))
   (c4 : Ans 39 #[.agg (natsV .u64 dn).toArray, .agg (natsV .u64 lp).toArray] (.agg (natsV .u64 iv).toArray))
   (c5 : Ans 40 #[.agg (natsV .u64 up).toArray, .agg (natsV .u64 iv).toArray, .agg (natsV .u64 lp).toArray] (.agg (natsV .u64 l).toArray))
   (c6 : Ans 40 #[.agg (natsV .u64 l).toArray, .agg (natsV .u64 l).toArray, .agg (natsV .u64 lp).toArray] (.agg (natsV .u64 l2).toArray))
   (c7 : Ans 58 #[.agg (natsV .u64 l2).toArray, .agg (natsV .u64 lx).toArray, .agg (natsV .u64 lp).toArray] (.agg (natsV .u64 x1).toArray))
   (c8 : Ans 58 #[.agg (natsV .u64 x1).toArray, .agg (natsV .u64 mx).toArray, .agg (natsV .u64 lp).toArray] (.agg (natsV .u64 nx).toArray))
   (c9 : Ans 58 #[.agg (natsV .u64 lx).toArray, .agg (natsV .u64 nx).toArray, .agg (natsV .u64 lp).toArray] (.agg (natsV .u64 e1).toArray))
   (c10 : Ans 40 #[.agg (natsV .u64 l).toArray, .agg (natsV .u64 e1).toArray, .agg (natsV .u64 lp).toArray] (.agg (natsV .u64 e2).toArray))
   (c11 : Ans 58 #[.agg (natsV .u64 e2).toArray, .agg (natsV .u64 ly).toArray, .agg (natsV .u64 lp).toArray] (.agg (natsV .u64 ny).toArray)) (h3 : ¬ lx = mx) (w : World) :
   Calls Tryz.prog 41 #[.agg (pv lx ly false).toArray, .agg (pv mx my false).toArray] w fun e w' => e = .returned (.agg (pv nx ny false).toArray) ∧ Below w.heap.size w w' := by
 have L_lx := Hd hlx
 have L_ly := Hd hly
 have L_mx := Hd hmx
 have L_my := Hd hmy
 have L_lp := Hd hlp
 have L_up := Hd hup
 have L_dn := Hd hdn
 have L_iv := Hd hiv
 have L_l := Hd hl
 have L_l2 := Hd hl2
 have L_x1 := Hd hx1
 have L_nx := Hd hnx
 have L_e1 := Hd he1
 have L_e2 := Hd he2
 have L_ny := Hd hny
 have Hc1 := Hd c1
 have Hc2 := Hd c2
 have Hc3 := Hd c3
 have Hc4 := Hd c4
 have Hc5 := Hd c5
 have Hc6 := Hd c6
 have Hc7 := Hd c7
 have Hc8 := Hd c8
 have Hc9 := Hd c9
 have Hc10 := Hd c10
 have Hc11 := Hd c11
 have Q3 := Hd (fun w => (eql24 lx mx L_lx.out L_mx.out w).trans (by rw [decide_eq_false h3]))
 have B0_ := Hd (((Blk.new w  28 (pv lx ly false)).alloc (.cells (pv mx my false).toArray 28)).alloc (.cells (pv (zeros 4) (zeros 4) false).toArray 28))
 have B1_ := Hd ((Blk.new2 w (.cells (pv lx ly false).toArray 28) 28 (pv mx my false)).alloc (.cells (pv (zeros 4) (zeros 4) false).toArray 28))
 have B2_ := Hd (Blk.new3 w (.cells (pv lx ly false).toArray 28) (.cells (pv mx my false).toArray 28) 28 (pv (zeros 4) (zeros 4) false))
 clear hlx hly hmx hmy hlp hup hdn hiv hl hl2 hx1 hnx he1 he2 hny c1 c2 c3 c4 c5 c6 c7 c8 c9 c10 c11 h3
 have bel_ := ((((Below.refl w.heap.size w).alloc (Nat.le_refl _) (.cells (pv lx ly false).toArray 28)).alloc (by simp) (.cells (pv mx my false).toArray 28)).alloc (by simp; omega) (.cells (pv (zeros 4) (zeros 4) false).toArray 28))
 go_enter Tryz.func41, Tryz.ntmps41
 go_wp2_with fail
 refine (Hc1.out _).mono ?_
 rintro e w1 ⟨rfl, hbw1⟩
 have C2 := gq' B0_ hbw1
 have C3 := gq' B1_ hbw1
 have C4 := gq' B2_ hbw1
 have hbel5 := bel_.trans (Below.mono hbw1 bel_.size)
 clear B0_ B1_ B2_ bel_ hbw1
 go_upto_region 6 with (first | (refine stN rfl 26 (.tmp 5) (.tmp 12) rfl w1 rfl (natsV .u64 lp) rfl 26 (natsV .u64 (zeros 4)) (i24 L_lp.out) (lz4 L_lp.out) n1' ?_; intro w6 hgw6 hnw6; have C9 := gq' C2 hgw6; clear C2; have C10 := gq' C3 hgw6; clear C3; have C11 := gq' C4 hgw6; clear C4; have hbel12 := hbel5.trans (Below.mono hgw6 hbel5.size); clear hbel5; have D8 := Hd hnw6; clear hnw6 hgw6; generalize w1.heap.size = G7 at *; have ci13 := pv_i C9.out L_lx.out L_ly.out; have ci14 := pv_i C10.out L_mx.out L_my.out))
 try simp only [Act.put, zq]
 as_aux_lemma =>
 refine wp_region_P (fun w_ => Blk w_ w.heap.size 28 (pv lx ly false) ∧ Blk w_ (w.heap.size + 1) 28 (pv mx my false)) 15 (by kernel_rfl) ⟨C9.out, C10.out⟩ ?_
 refine tkp gS2 0 rfl ?_
 try simp only [Act.put, zq]
 refine tk gS2 1 rfl (lg' (fun _ hS_ => pv_x (hS_.1)) Tryz.underlying26 (i24 L_lx.out)) ?_
 try simp only [Act.put, zq]
 refine tkp gS2 2 rfl ?_
 try simp only [Act.put, zq]
 refine tk gS2 3 rfl (lg' (fun _ hS_ => pv_x (hS_.2)) Tryz.underlying26 (i24 L_mx.out)) ?_
 try simp only [Act.put, zq]
 refine tk gS2 4 rfl (pureG (by rfl) (by intro w; have q := Q3.out; go_simp; first | done | with_reducible rfl)) ?_
 try simp only [Act.put, zq]
 refine tkp gS2 5 rfl ?_
 try simp only [Act.put, zq]
 refine tks gS2 6 rfl ?_
 try simp only [Act.put, zq]
 refine tks gS2 7 rfl ?_
 try simp only [Act.put, zq]
 refine tks gS2 8 rfl ?_
 try simp only [Act.put, zq]
 refine tks gS2 9 rfl ?_
 try simp only [Act.put, zq]
 refine tks gS2 10 rfl ?_
 try simp only [Act.put, zq]
 refine tks gS2 11 rfl ?_
 try simp only [Act.put, zq]
 refine tks gS2 12 rfl ?_
 try simp only [Act.put, zq]
 refine tks gS2 13 rfl ?_
 try simp only [Act.put, zq]
 refine tkp gS2 14 rfl ?_
 try simp only [Act.put, zq]
 refine wpAnyG_done (by kernel_rfl) ?_ _
 intro w15 hgw15
 try simp only [Act.put, zq]
 have C16 := gq' C9 hgw15
 have C17 := gq' C10 hgw15
 have C18 := gq' C11 hgw15
 have C19 := gq' D8 hgw15
 have hbel20 := hbel12.trans (Below.mono hgw15 hbel12.size)
 clear C9 C10 C11 D8 hbel12 hgw15
 as_aux_lemma =>
 have qf3 := Q3.out
 go_wp2_with (first | (refine lm' (pv_y (C17.out) L_mx.out) Tryz.underlying26 (i24 L_my.out) ?_) | (refine lm' (pv_y (C16.out) L_lx.out) Tryz.underlying26 (i24 L_ly.out) ?_) | (refine lm' (blk_all (C19.out)) Tryz.underlying26 (i24 L_lp.out) ?_))
 refine (Hc2.out _).mono ?_
 rintro e w21 ⟨rfl, hbw21⟩
 have C22 := gq' C16 hbw21
 have C23 := gq' C17 hbw21
 have C24 := gq' C18 hbw21
 have C25 := gq' C19 hbw21
 have hbel26 := hbel20.trans (Below.mono hbw21 hbel20.size)
 clear C16 C17 C18 C19 hbel20 hbw21
 go_wp2_with (first | (refine stN rfl 26 (.tmp 6) (.tmp 40) rfl w21 rfl (natsV .u64 up) rfl 26 (natsV .u64 (zeros 4)) (i24 L_up.out) (lz4 L_up.out) n1' ?_; intro w27 hgw27 hnw27; have NE30 := Hd (Nat.ne_of_lt (C22.out.lt)); have NE31 := Hd (Nat.ne_of_lt (C23.out.lt)); have NE32 := Hd (Nat.ne_of_lt (C24.out.lt)); have NE33 := Hd (Nat.ne_of_lt (C25.out.lt)); have GE34 := Hd hbel26.size; have C35 := gq' C22 hgw27; clear C22; have C36 := gq' C23 hgw27; clear C23; have C37 := gq' C24 hgw27; clear C24; have C38 := gq' C25 hgw27; clear C25; have hbel39 := hbel26.trans (Below.mono hgw27 hbel26.size); clear hbel26; have D29 := Hd hnw27; clear hnw27 hgw27; generalize w21.heap.size = G28 at *) | (refine lm' (pv_x (C36.out)) Tryz.underlying26 (i24 L_mx.out) ?_) | (refine lm' (pv_x (C35.out)) Tryz.underlying26 (i24 L_lx.out) ?_) | (refine lm' (blk_all (C38.out)) Tryz.underlying26 (i24 L_lp.out) ?_))
 refine (Hc3.out _).mono ?_
 rintro e w40 ⟨rfl, hbw40⟩
 have C41 := gq' C35 hbw40
 have C42 := gq' C36 hbw40
 have C43 := gq' C37 hbw40
 have C44 := gq' C38 hbw40
 have C45 := gq' D29 hbw40
 have hbel46 := hbel39.trans (Below.mono hbw40 hbel39.size)
 clear C35 C36 C37 C38 D29 hbel39 hbw40
 go_wp2_with (first | (refine stN rfl 26 (.tmp 7) (.tmp 46) rfl w40 rfl (natsV .u64 dn) rfl 26 (natsV .u64 (zeros 4)) (i24 L_dn.out) (lz4 L_dn.out) n1' ?_; intro w47 hgw47 hnw47; have NE50 := Hd (Nat.ne_of_lt (C41.out.lt)); have NE51 := Hd (Nat.ne_of_lt (C42.out.lt)); have NE52 := Hd (Nat.ne_of_lt (C43.out.lt)); have NE53 := Hd (Nat.ne_of_lt (C44.out.lt)); have NE54 := Hd (Nat.ne_of_lt (C45.out.lt)); have GE55 := Hd hbel46.size; have C56 := gq' C41 hgw47; clear C41; have C57 := gq' C42 hgw47; clear C42; have C58 := gq' C43 hgw47; clear C43; have C59 := gq' C44 hgw47; clear C44; have C60 := gq' C45 hgw47; clear C45; have hbel61 := hbel46.trans (Below.mono hgw47 hbel46.size); clear hbel46; have D49 := Hd hnw47; clear hnw47 hgw47; generalize w40.heap.size = G48 at *) | (refine lm' (pv_x (C56.out)) Tryz.underlying26 (i24 L_lx.out) ?_) | (refine lm' (pv_x (C57.out)) Tryz.underlying26 (i24 L_mx.out) ?_))
 as_aux_lemma =>
 refine wp_region_G (fun w_ => Blk w_ G28 26 (natsV .u64 up) ∧ Blk w_ G48 26 (natsV .u64 dn) ∧ Blk w_ G7 26 (natsV .u64 lp)) 7 (by kernel_rfl) ⟨C60.out.drew, D49.out.drew, C59.out.drew⟩ ?_
 refine tk gS3 0 rfl (lg' (fun _ hS_ => blk_all (hS_.1)) Tryz.underlying26 (i24 L_up.out)) ?_
 try simp only [Act.put, zq]
 refine tk gS3 1 rfl (lg' (fun _ hS_ => blk_all (hS_.2.1)) Tryz.underlying26 (i24 L_dn.out)) ?_
 try simp only [Act.put, zq]
 refine tk gS3 2 rfl (lg' (fun _ hS_ => blk_all (hS_.2.2)) Tryz.underlying26 (i24 L_lp.out)) ?_
 try simp only [Act.put, zq]
 refine tk gS3 3 rfl (cg' Tryz.func39 (fun w _ => Hc4.out w)) ?_
 try simp only [Act.put, zq]
 refine tk gS3 4 rfl (lg' (fun _ hS_ => blk_all (hS_.2.2)) Tryz.underlying26 (i24 L_lp.out)) ?_
 try simp only [Act.put, zq]
 refine tk gS3 5 rfl (cg' Tryz.func40 (fun w _ => Hc5.out w)) ?_
 try simp only [Act.put, zq]
 refine wpAnyG_def (i := 6) (j := 7) gS3 (by kernel_rfl) (by kernel_rfl) (by kernel_rfl) rfl rfl rfl (allocG (by rfl) rfl _ alloc24) (lz4 L_l.out) (fun _ => StoresG.mk (cs := (natsV .u64 l)) (by rfl) 26 _ _ rfl rfl rfl (i24 L_l.out) n1') ?_
 intro w62 G63 hgw62 hz_ hn_
 try simp only [Act.put, zq]
 have NE64 := Hd (Nat.ne_of_lt (Nat.lt_of_lt_of_le C60.out.drew.lt hz_))
 have NE65 := Hd (Nat.ne_of_lt (Nat.lt_of_lt_of_le D49.out.drew.lt hz_))
 have E66 := dq' C56 hgw62
 have E67 := dq' C57 hgw62
 have E68 := dq' C58 hgw62
 have E69 := dq' C59 hgw62
 have E70 := dq' C60 hgw62
 have E71 := dq' D49 hgw62
 have hbel72 := hbel61.drew.trans (Below.mono hgw62 hbel61.drew.size)
 have D73 := Hd hn_
 clear C56 C57 C58 C59 C60 D49 hbel61 hn_ hz_ hgw62
 as_aux_lemma =>
 go_wp2_with fail
 as_aux_lemma =>
 refine wp_region_G (fun w_ => Blk w_ G63 26 (natsV .u64 l) ∧ Blk w_ G7 26 (natsV .u64 lp) ∧ Blk w_ w.heap.size 28 (pv lx ly false) ∧ Blk w_ (w.heap.size + 1) 28 (pv mx my false)) 13 (by kernel_rfl) ⟨D73.out.drew, E69.out.drew, E66.out.drew, E67.out.drew⟩ ?_
 refine tk gS4 0 rfl (lg' (fun _ hS_ => blk_all (hS_.1)) Tryz.underlying26 (i24 L_l.out)) ?_
 try simp only [Act.put, zq]
 refine tk gS4 1 rfl (lg' (fun _ hS_ => blk_all (hS_.1)) Tryz.underlying26 (i24 L_l.out)) ?_
 try simp only [Act.put, zq]
 refine tk gS4 2 rfl (lg' (fun _ hS_ => blk_all (hS_.2.1)) Tryz.underlying26 (i24 L_lp.out)) ?_
 try simp only [Act.put, zq]
 refine tk gS4 3 rfl (cg' Tryz.func40 (fun w _ => Hc6.out w)) ?_
 try simp only [Act.put, zq]
 refine tkp gS4 4 rfl ?_
 try simp only [Act.put, zq]
 refine tk gS4 5 rfl (lg' (fun _ hS_ => pv_x (hS_.2.2.1)) Tryz.underlying26 (i24 L_lx.out)) ?_
 try simp only [Act.put, zq]
 refine tk gS4 6 rfl (lg' (fun _ hS_ => blk_all (hS_.2.1)) Tryz.underlying26 (i24 L_lp.out)) ?_
 try simp only [Act.put, zq]
 refine tk gS4 7 rfl (cg' Tryz.func58 (fun w _ => Hc7.out w)) ?_
 try simp only [Act.put, zq]
 refine tkp gS4 8 rfl ?_
 try simp only [Act.put, zq]
 refine tk gS4 9 rfl (lg' (fun _ hS_ => pv_x (hS_.2.2.2)) Tryz.underlying26 (i24 L_mx.out)) ?_
 try simp only [Act.put, zq]
 refine tk gS4 10 rfl (lg' (fun _ hS_ => blk_all (hS_.2.1)) Tryz.underlying26 (i24 L_lp.out)) ?_
 try simp only [Act.put, zq]
 refine tk gS4 11 rfl (cg' Tryz.func58 (fun w _ => Hc8.out w)) ?_
 try simp only [Act.put, zq]
 refine wpAnyG_def (i := 12) (j := 13) gS4 (by kernel_rfl) (by kernel_rfl) (by kernel_rfl) rfl rfl rfl (allocG (by rfl) rfl _ alloc24) (lz4 L_nx.out) (fun _ => StoresG.mk (cs := (natsV .u64 nx)) (by rfl) 26 _ _ rfl rfl rfl (i24 L_nx.out) n1') ?_
 intro w74 G75 hgw74 hz_ hn_
 try simp only [Act.put, zq]
 have NE76 := Hd (Nat.ne_of_lt (Nat.lt_of_lt_of_le E70.out.drew.lt hz_))
 have NE77 := Hd (Nat.ne_of_lt (Nat.lt_of_lt_of_le E71.out.drew.lt hz_))
 have E78 := dq' E66 hgw74
 have E79 := dq' E67 hgw74
 have E80 := dq' E68 hgw74
 have E81 := dq' E69 hgw74
 have E82 := dq' E70 hgw74
 have E83 := dq' E71 hgw74
 have E84 := dq' D73 hgw74
 have hbel85 := hbel72.drew.trans (Below.mono hgw74 hbel72.drew.size)
 have D86 := Hd hn_
 clear E66 E67 E68 E69 E70 E71 D73 hbel72 hn_ hz_ hgw74
 as_aux_lemma =>
 go_wp2_with fail
 as_aux_lemma =>
 refine wp_region_G (fun w_ => Blk w_ G63 26 (natsV .u64 l) ∧ Blk w_ w.heap.size 28 (pv lx ly false) ∧ Blk w_ G75 26 (natsV .u64 nx) ∧ Blk w_ G7 26 (natsV .u64 lp)) 13 (by kernel_rfl) ⟨E84.out.drew, E78.out.drew, D86.out.drew, E81.out.drew⟩ ?_
 refine tk gS4 0 rfl (lg' (fun _ hS_ => blk_all (hS_.1)) Tryz.underlying26 (i24 L_l.out)) ?_
 try simp only [Act.put, zq]
 refine tkp gS4 1 rfl ?_
 try simp only [Act.put, zq]
 refine tk gS4 2 rfl (lg' (fun _ hS_ => pv_x (hS_.2.1)) Tryz.underlying26 (i24 L_lx.out)) ?_
 try simp only [Act.put, zq]
 refine tk gS4 3 rfl (lg' (fun _ hS_ => blk_all (hS_.2.2.1)) Tryz.underlying26 (i24 L_nx.out)) ?_
 try simp only [Act.put, zq]
 refine tk gS4 4 rfl (lg' (fun _ hS_ => blk_all (hS_.2.2.2)) Tryz.underlying26 (i24 L_lp.out)) ?_
 try simp only [Act.put, zq]
 refine tk gS4 5 rfl (cg' Tryz.func58 (fun w _ => Hc9.out w)) ?_
 try simp only [Act.put, zq]
 refine tk gS4 6 rfl (lg' (fun _ hS_ => blk_all (hS_.2.2.2)) Tryz.underlying26 (i24 L_lp.out)) ?_
 try simp only [Act.put, zq]
 refine tk gS4 7 rfl (cg' Tryz.func40 (fun w _ => Hc10.out w)) ?_
 try simp only [Act.put, zq]
 refine tkp gS4 8 rfl ?_
 try simp only [Act.put, zq]
 refine tk gS4 9 rfl (lg' (fun _ hS_ => pv_y (hS_.2.1) L_lx.out) Tryz.underlying26 (i24 L_ly.out)) ?_
 try simp only [Act.put, zq]
 refine tk gS4 10 rfl (lg' (fun _ hS_ => blk_all (hS_.2.2.2)) Tryz.underlying26 (i24 L_lp.out)) ?_
 try simp only [Act.put, zq]
 refine tk gS4 11 rfl (cg' Tryz.func58 (fun w _ => Hc11.out w)) ?_
 try simp only [Act.put, zq]
 refine wpAnyG_def (i := 12) (j := 13) gS4 (by kernel_rfl) (by kernel_rfl) (by kernel_rfl) rfl rfl rfl (allocG (by rfl) rfl _ alloc24) (lz4 L_ny.out) (fun _ => StoresG.mk (cs := (natsV .u64 ny)) (by rfl) 26 _ _ rfl rfl rfl (i24 L_ny.out) n1') ?_
 intro w87 G88 hgw87 hz_ hn_
 try simp only [Act.put, zq]
 have NE89 := Hd (Nat.ne_of_lt (Nat.lt_of_lt_of_le E82.out.drew.lt hz_))
 have NE90 := Hd (Nat.ne_of_lt (Nat.lt_of_lt_of_le E83.out.drew.lt hz_))
 have E91 := dq' E78 hgw87
 have E92 := dq' E79 hgw87
 have E93 := dq' E80 hgw87
 have E94 := dq' E81 hgw87
 have E95 := dq' E82 hgw87
 have E96 := dq' E83 hgw87
 have E97 := dq' E84 hgw87
 have E98 := dq' D86 hgw87
 have hbel99 := hbel85.drew.trans (Below.mono hgw87 hbel85.drew.size)
 have D100 := Hd hn_
 clear E78 E79 E80 E81 E82 E83 E84 D86 hbel85 hn_ hz_ hgw87
 as_aux_lemma =>
 go_upto_region 17 with (fail)
 try simp only [Act.put, zq]
 as_aux_lemma =>
 refine wp_region_P (fun w_ => Blk w_ G75 26 (natsV .u64 nx) ∧ Blk w_ G88 26 (natsV .u64 ny)) 3 (by kernel_rfl) ⟨E98.out, D100.out⟩ ?_
 refine tk gS2 0 rfl (lg' (fun _ hS_ => blk_all (hS_.1)) Tryz.underlying26 (i24 L_nx.out)) ?_
 try simp only [Act.put, zq]
 refine tk gS2 1 rfl (lg' (fun _ hS_ => blk_all (hS_.2)) Tryz.underlying26 (i24 L_ny.out)) ?_
 try simp only [Act.put, zq]
 refine tk gS2 2 rfl (buildG (by rfl) _ _ rfl _ (built43 L_nx.out L_ny.out) (by simp [Act.eval])) ?_
 try simp only [Act.put, zq]
 refine wpAnyG_set (i := 3) (by kernel_rfl) (by kernel_rfl) rfl rfl E93.out (lenEq pz9 (pv_len L_nx.out L_ny.out)) (StoresG.mk (cs := (pv nx ny false)) (by rfl) 28 _ _ rfl rfl rfl (i43 L_nx.out L_ny.out) p1_) ?_
 intro w101 hgw101 hn_
 try simp only [Act.put, zq]
 have hbel102 := belStore hbel99 hgw101 (show w.heap.size ≤ (w.heap.size + 1 + 1) by omega)
 have D103 := Hd hn_
 go_wp2_with fail
 refine bodyPost_ret (v := .agg (pv nx ny false).toArray) ?_ rfl ⟨rfl, hbel102⟩
 exact results_cell_row Tryz.results41 _ _ (w.heap.size + 1 + 1) 28 _ (0, 0) _ rfl D103.out Tryz.underlying28 rfl (by simpa using (i43 L_nx.out L_ny.out))
end Go.Proofs.YtdkkombpkojjaaaGreat
