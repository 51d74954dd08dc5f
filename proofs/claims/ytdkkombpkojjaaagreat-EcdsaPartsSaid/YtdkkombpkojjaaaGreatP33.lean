/- Parts of proofs of statements, each text behind those that it stands on. No condition of its own. -/
import Derived.Test.YtdkkombpkojjaaaGreatP32
namespace Go.Proofs.YtdkkombpkojjaaaGreat
set_option maxRecDepth 100000
set_option maxHeartbeats 1600000
open Go.RowKit
set_option linter.unusedVariables false
set_option linter.unusedSimpArgs false
theorem dright {lx lp l1 lb lr : List Nat} {Y : Nat → List Nat} (hlx : lx.length = 4) (hlp : lp.length = 4) (hl1 : l1.length = 4) (hlb : lb.length = 4) (hlr : lr.length = 4) (hFY : ∀ t, (Y t).length = 4)
   (c1 : Ans 54 #[] (.agg (natsV .u64 lp).toArray))
   (c2 : Ans 40 #[.agg (natsV .u64 lx).toArray, .agg (natsV .u64 lx).toArray, .agg (natsV .u64 lp).toArray] (.agg (natsV .u64 l1).toArray))
   (c3 : Ans 40 #[.agg (natsV .u64 l1).toArray, .agg (natsV .u64 lx).toArray, .agg (natsV .u64 lp).toArray] (.agg (natsV .u64 (Y 0)).toArray))
   (cs : ∀ t, t < 3 → ∀ w, Calls Tryz.prog 58 #[.agg (natsV .u64 (Y t)).toArray, .agg (natsV .u64 lx).toArray, .agg (natsV .u64 lp).toArray] w fun e w' => e = .returned (.agg (natsV .u64 (Y (t + 1))).toArray) ∧ Below w.heap.size w w')
   (c5 : Ans 86 #[] (.agg (natsV .u64 lb).toArray))
   (c6 : Ans 45 #[.agg (natsV .u64 (Y 3)).toArray, .agg (natsV .u64 lb).toArray, .agg (natsV .u64 lp).toArray] (.agg (natsV .u64 lr).toArray)) (w : World) :
   Calls Tryz.prog 57 #[.agg (natsV .u64 lx).toArray] w fun e w' => e = .returned (.agg (natsV .u64 lr).toArray) ∧ Below w.heap.size w w' := by
 have L_lx := Hd hlx
 have L_lp := Hd hlp
 have L_l1 := Hd hl1
 have L_lb := Hd hlb
 have L_lr := Hd hlr
 have LF_Y := Hd hFY
 have Hc1 := Hd c1
 have Hc2 := Hd c2
 have Hc3 := Hd c3
 have Hcs := Hd cs
 have Hc5 := Hd c5
 have Hc6 := Hd c6
 have B0_ := Hd ((Blk.new w  26 (natsV .u64 lx)).alloc (.cells (natsV .u64 (zeros 4)).toArray 26))
 have B1_ := Hd (Blk.new2 w (.cells (natsV .u64 lx).toArray 26) 26 (natsV .u64 (zeros 4)))
 have bel_ := (((Below.refl w.heap.size w).alloc (Nat.le_refl _) (.cells (natsV .u64 lx).toArray 26)).alloc (by simp) (.cells (natsV .u64 (zeros 4)).toArray 26))
 clear hlx hlp hl1 hlb hlr hFY c1 c2 c3 cs c5 c6
 go_enter Tryz.func57, Tryz.ntmps57
 go_wp2_with fail
 refine (Hc1.out _).mono ?_
 rintro e w1 ⟨rfl, hbw1⟩
 have C2 := gq' B0_ hbw1
 have C3 := gq' B1_ hbw1
 have hbel4 := bel_.trans (Below.mono hbw1 bel_.size)
 clear B0_ B1_ bel_ hbw1
 go_wp2_with (first | (refine stN rfl 26 (.tmp 3) (.tmp 6) rfl w1 rfl (natsV .u64 lp) rfl 26 (natsV .u64 (zeros 4)) (i24 L_lp.out) (lz4 L_lp.out) n1' ?_; intro w5 hgw5 hnw5; have C8 := gq' C2 hgw5; clear C2; have C9 := gq' C3 hgw5; clear C3; have hbel10 := hbel4.trans (Below.mono hgw5 hbel4.size); clear hbel4; have D7 := Hd hnw5; clear hnw5 hgw5; generalize w1.heap.size = G6 at *))
 as_aux_lemma =>
 refine wp_region_G (fun w_ => Blk w_ w.heap.size 26 (natsV .u64 lx) ∧ Blk w_ G6 26 (natsV .u64 lp)) 8 (by kernel_rfl) ⟨C8.out.drew, D7.out.drew⟩ ?_
 refine tk gS2 0 rfl (lg' (fun _ hS_ => blk_all (hS_.1)) Tryz.underlying26 (i24 L_lx.out)) ?_
 try simp only [Act.put, zq]
 refine tk gS2 1 rfl (lg' (fun _ hS_ => blk_all (hS_.1)) Tryz.underlying26 (i24 L_lx.out)) ?_
 try simp only [Act.put, zq]
 refine tk gS2 2 rfl (lg' (fun _ hS_ => blk_all (hS_.2)) Tryz.underlying26 (i24 L_lp.out)) ?_
 try simp only [Act.put, zq]
 refine tk gS2 3 rfl (cg' Tryz.func40 (fun w _ => Hc2.out w)) ?_
 try simp only [Act.put, zq]
 refine tk gS2 4 rfl (lg' (fun _ hS_ => blk_all (hS_.1)) Tryz.underlying26 (i24 L_lx.out)) ?_
 try simp only [Act.put, zq]
 refine tk gS2 5 rfl (lg' (fun _ hS_ => blk_all (hS_.2)) Tryz.underlying26 (i24 L_lp.out)) ?_
 try simp only [Act.put, zq]
 refine tk gS2 6 rfl (cg' Tryz.func40 (fun w _ => Hc3.out w)) ?_
 try simp only [Act.put, zq]
 refine wpAnyG_def (i := 7) (j := 8) gS2 (by kernel_rfl) (by kernel_rfl) (by kernel_rfl) rfl rfl rfl (allocG (by rfl) rfl _ alloc24) (lz4 (LF_Y.out 0)) (fun _ => StoresG.mk (cs := (natsV .u64 (Y 0))) (by rfl) 26 _ _ rfl rfl rfl (i24 (LF_Y.out 0)) n1') ?_
 intro w11 G12 hgw11 hz_ hn_
 try simp only [Act.put, zq]
 have NE13 := Hd (Nat.ne_of_lt (Nat.lt_of_lt_of_le C8.out.drew.lt hz_))
 have NE14 := Hd (Nat.ne_of_lt (Nat.lt_of_lt_of_le C9.out.drew.lt hz_))
 have NE15 := Hd (Nat.ne_of_lt (Nat.lt_of_lt_of_le D7.out.drew.lt hz_))
 have GE16 := Hd (Nat.le_trans hbel10.drew.size hz_)
 have E17 := dq' C8 hgw11
 have E18 := dq' C9 hgw11
 have E19 := dq' D7 hgw11
 have hbel20 := hbel10.drew.trans (Below.mono hgw11 hbel10.drew.size)
 have D21 := Hd hn_
 clear C8 C9 D7 hbel10 hn_ hz_ hgw11
 as_aux_lemma =>
 go_wp2_with fail
 go_loopw [5] (fun i wr => ∃ t : Nat, t ≤ 3 ∧ i = .int .i64 t ∧ Blk wr w.heap.size 26 (natsV .u64 lx) ∧ Blk wr (w.heap.size + 1) 26 (natsV .u64 (zeros 4)) ∧ Blk wr G6 26 (natsV .u64 lp) ∧ Blk wr G12 26 (natsV .u64 (Y t)) ∧ Below w.heap.size w wr) (fun i _ => 3 - (intOf i).toNat)
 case atStart => exact ⟨0, by omega, rfl, E17.out, E18.out, E19.out, D21.out, hbel20⟩
 case round =>
   clear E17 E18 E19 D21 hbel20
   obtain ⟨t, ht, rfl, kx_, kr_, k3_, k4_, hbel⟩ := hrel
   have Kx := Hd kx_
   have Kr := Hd kr_
   have K3 := Hd k3_
   have K4 := Hd k4_
   clear kx_ kr_ k3_ k4_
   by_cases h3 : t < 3
   · as_aux_lemma =>
     have hti : (t : Int) < 3 := by omega
     have HS := Hd (Hcs.out t h3)
     go_wp2_with (first | (refine lm' (blk_all (K4.out)) Tryz.underlying26 (i24 (LF_Y.out t)) ?_) | (refine lm' (blk_all (Kx.out)) Tryz.underlying26 (i24 L_lx.out) ?_) | (refine lm' (blk_all (K3.out)) Tryz.underlying26 (i24 L_lp.out) ?_))
     refine (HS.out _).mono ?_
     rintro e w22 ⟨rfl, hbw22⟩
     have C23 := Hd (Kx.out.gr hbw22)
     have C24 := Hd (Kr.out.gr hbw22)
     have C25 := Hd (K3.out.gr hbw22)
     have C26 := Hd (K4.out.gr hbw22)
     have hbel27 := hbel.trans (Below.mono hbw22 hbel.size)
     clear Kx Kr K3 K4 hbel hbw22
     go_wp2_with (first | (refine stB rfl 26 (.tmp 4) (.tmp 21) rfl G12 rfl (natsV .u64 (Y (t + 1))) rfl 26 (natsV .u64 (Y t)) C26.out (i24 (LF_Y.out (t + 1))) (lenEq (by rw [natsV_length, (LF_Y.out t)]) (by rw [natsV_length, (LF_Y.out (t + 1))])) n1' ?_; generalize hW : World.setRow _ _ _ = w28; obtain ⟨hgw28, hnw28⟩ := setfacts hW C26.out; clear hW; have E29 := Hd (C23.out.grown hgw28 (fun e => NE13.out (Option.some.inj e))); clear C23; have E30 := Hd (C24.out.grown hgw28 (fun e => NE14.out (Option.some.inj e))); clear C24; have E31 := Hd (C25.out.grown hgw28 (fun e => NE15.out (Option.some.inj e))); clear C25; have D32 := Hd hnw28; clear hnw28 C26; have hbel33 := belStore hbel27 hgw28 (GE16.out); clear hgw28; clear hbel27))
     go_roundw
     case rel => exact ⟨t + 1, by omega, by go_num, E29.out, E30.out, E31.out, D32.out, hbel33⟩
     case measure => simp [intOf] <;> omega
   · as_aux_lemma =>
     obtain rfl : t = 3 := by omega
     rw [show ((3 : Nat) : Int) = 3 from rfl]
     go_wp2_with fail
     as_aux_lemma =>
     refine wp_region_G (fun w_ => Blk w_ G12 26 (natsV .u64 (Y 3)) ∧ Blk w_ G6 26 (natsV .u64 lp)) 4 (by kernel_rfl) ⟨K4.out.drew, K3.out.drew⟩ ?_
     refine tk gS2 0 rfl (lg' (fun _ hS_ => blk_all (hS_.1)) Tryz.underlying26 (i24 (LF_Y.out 3))) ?_
     try simp only [Act.put, zq]
     refine tk gS2 1 rfl (cg' Tryz.func86 (fun w _ => Hc5.out w)) ?_
     try simp only [Act.put, zq]
     refine tk gS2 2 rfl (lg' (fun _ hS_ => blk_all (hS_.2)) Tryz.underlying26 (i24 L_lp.out)) ?_
     try simp only [Act.put, zq]
     refine tk gS2 3 rfl (cg' Tryz.func45 (fun w _ => Hc6.out w)) ?_
     try simp only [Act.put, zq]
     refine wpAnyG_set (i := 4) (by kernel_rfl) (by kernel_rfl) rfl rfl Kr.out.drew (lz4 L_lr.out) (StoresG.mk (cs := (natsV .u64 lr)) (by rfl) 26 _ _ rfl rfl rfl (i24 L_lr.out) n1') ?_
     intro w34 hgw34 hn_
     try simp only [Act.put, zq]
     have hbel35 := belStore hbel.drew hgw34 (show w.heap.size ≤ (w.heap.size + 1) by omega)
     have D36 := Hd hn_
     go_wp2_with fail
     refine bodyPost_ret (v := .agg (natsV .u64 lr).toArray) ?_ rfl ⟨rfl, hbel35⟩
     exact results_cell_row Tryz.results57 _ _ (w.heap.size + 1) 26 _ (0, 0) _ rfl D36.out Tryz.underlying26 rfl (by simpa using (i24 L_lr.out))
theorem don_inf {lx ly : List Nat} (hlx : lx.length = 4) (hly : ly.length = 4) (w : World) :
   Calls Tryz.prog 55 #[.agg (pv lx ly true).toArray] w fun e w' => e = .returned (.bool (decide (lx = zeros 4 ∧ ly = zeros 4))) ∧ Below w.heap.size w w' := by
 have L_lx := Hd hlx
 have L_ly := Hd hly
 clear hlx hly
 obtain ⟨bb, hbb⟩ : ∃ bb, bb = decide (lx = zeros 4 ∧ ly = zeros 4) := ⟨_, rfl⟩
 have QE := Hd (fun w => show (binOp .eql 28 (.agg (pv lx ly true).toArray) (.agg #[.int .u64 0, .int .u64 0, .int .u64 0, .int .u64 0, .int .u64 0, .int .u64 0, .int .u64 0, .int .u64 0, .bool true])).run Tryz.prog w = _ from (eql43 lx ly (zeros 4) (zeros 4) true true L_lx.out L_ly.out rfl rfl w).trans (by rw [show decide (lx = zeros 4 ∧ ly = zeros 4 ∧ true = true) = bb by rw [hbb]; simp]))
 rw [← hbb]
 have B0_ := Hd (Blk.new w  28 (pv lx ly true))
 have bel_ := ((Below.refl w.heap.size w).alloc (Nat.le_refl _) (.cells (pv lx ly true).toArray 28))
 clear hbb
 go_enter Tryz.func55, Tryz.ntmps55
 have ci := pv_i B0_.out L_lx.out L_ly.out
 have qe := QE.out
 go_wp2_with (first | (refine lm' (blk_all (B0_.out)) Tryz.underlying28 (i43 L_lx.out L_ly.out) ?_))
 go_ret
 exact ⟨rfl, bel_⟩
theorem don_a {lx ly lp : List Nat} {by_ : Bool} (hlx : lx.length = 4) (hly : ly.length = 4) (hlp : lp.length = 4)
   (c1 : Ans 54 #[] (.agg (natsV .u64 lp).toArray))
   (c2 : Ans 31 #[.agg (natsV .u64 lx).toArray, .agg (natsV .u64 lp).toArray] (.bool false))
   (c3 : Ans 31 #[.agg (natsV .u64 ly).toArray, .agg (natsV .u64 lp).toArray] (.bool by_)) (w : World) :
   Calls Tryz.prog 55 #[.agg (pv lx ly false).toArray] w fun e w' => e = .returned (.bool false) ∧ Below w.heap.size w w' := by
 have L_lx := Hd hlx
 have L_ly := Hd hly
 have L_lp := Hd hlp
 have Hc1 := Hd c1
 have Hc2 := Hd c2
 have Hc3 := Hd c3
 have B0_ := Hd (Blk.new w  28 (pv lx ly false))
 have bel_ := ((Below.refl w.heap.size w).alloc (Nat.le_refl _) (.cells (pv lx ly false).toArray 28))
 clear hlx hly hlp c1 c2 c3
 go_enter Tryz.func55, Tryz.ntmps55
 have ci := pv_i B0_.out L_lx.out L_ly.out
 go_wp2_with fail
 refine (Hc1.out _).mono ?_
 rintro e w1 ⟨rfl, hbw1⟩
 have C2 := gq' B0_ hbw1
 have hbel3 := bel_.trans (Below.mono hbw1 bel_.size)
 clear B0_ bel_ hbw1
 go_wp2_with (first | (refine stN rfl 26 (.tmp 3) (.tmp 11) rfl w1 rfl (natsV .u64 lp) rfl 26 (natsV .u64 (zeros 4)) (i24 L_lp.out) (lz4 L_lp.out) n1' ?_; intro w4 hgw4 hnw4; have C7 := gq' C2 hgw4; clear C2; have hbel8 := hbel3.trans (Below.mono hgw4 hbel3.size); clear hbel3; have D6 := Hd hnw4; clear hnw4 hgw4; generalize w1.heap.size = G5 at *) | (refine lm' (pv_x (C7.out)) Tryz.underlying26 (i24 L_lx.out) ?_) | (refine lm' (blk_all (D6.out)) Tryz.underlying26 (i24 L_lp.out) ?_))
 refine (Hc2.out _).mono ?_
 rintro e w9 ⟨rfl, hbw9⟩
 have C10 := gq' C7 hbw9
 have C11 := gq' D6 hbw9
 have hbel12 := hbel8.trans (Below.mono hbw9 hbel8.size)
 clear C7 D6 hbel8 hbw9
 go_wp2_with (first | (refine lm' (pv_y (C10.out) L_lx.out) Tryz.underlying26 (i24 L_ly.out) ?_) | (refine lm' (blk_all (C11.out)) Tryz.underlying26 (i24 L_lp.out) ?_))
 refine (Hc3.out _).mono ?_
 rintro e w13 ⟨rfl, hbw13⟩
 have C14 := gq' C10 hbw13
 have C15 := gq' C11 hbw13
 have hbel16 := hbel12.trans (Below.mono hbw13 hbel12.size)
 clear C10 C11 hbel12 hbw13
 go_wp2_with fail
 as_aux_lemma =>
 refine wp_region_G (fun w_ => True) 17 (by kernel_rfl) trivial ?_
 refine tkp gS0 0 rfl ?_
 try simp only [Act.put, zq]
 refine tkp gS0 1 rfl ?_
 try simp only [Act.put, zq]
 refine tks gS0 2 rfl ?_
 try simp only [Act.put, zq]
 refine tkp gS0 3 rfl ?_
 try simp only [Act.put, zq]
 refine tkp gS0 4 rfl ?_
 try simp only [Act.put, zq]
 refine tks gS0 5 rfl ?_
 try simp only [Act.put, zq]
 refine tks gS0 6 rfl ?_
 try simp only [Act.put, zq]
 refine tks gS0 7 rfl ?_
 try simp only [Act.put, zq]
 refine tks gS0 8 rfl ?_
 try simp only [Act.put, zq]
 refine tks gS0 9 rfl ?_
 try simp only [Act.put, zq]
 refine tks gS0 10 rfl ?_
 try simp only [Act.put, zq]
 refine tks gS0 11 rfl ?_
 try simp only [Act.put, zq]
 refine tks gS0 12 rfl ?_
 try simp only [Act.put, zq]
 refine tks gS0 13 rfl ?_
 try simp only [Act.put, zq]
 refine tks gS0 14 rfl ?_
 try simp only [Act.put, zq]
 refine tkp gS0 15 rfl ?_
 try simp only [Act.put, zq]
 refine tkp gS0 16 rfl ?_
 try simp only [Act.put, zq]
 refine wpAnyG_done (by kernel_rfl) ?_ _
 intro w17 hgw17
 try simp only [Act.put, zq]
 have E18 := dq' C14 hgw17
 have E19 := dq' C15 hgw17
 have hbel20 := hbel16.drew.trans (Below.mono hgw17 hbel16.drew.size)
 clear C14 C15 hbel16 hgw17
 as_aux_lemma =>
 go_wp2_with fail
 go_ret
 exact ⟨rfl, hbel20⟩
theorem don_b {lx ly lp : List Nat} (hlx : lx.length = 4) (hly : ly.length = 4) (hlp : lp.length = 4)
   (c1 : Ans 54 #[] (.agg (natsV .u64 lp).toArray))
   (c2 : Ans 31 #[.agg (natsV .u64 lx).toArray, .agg (natsV .u64 lp).toArray] (.bool true))
   (c3 : Ans 31 #[.agg (natsV .u64 ly).toArray, .agg (natsV .u64 lp).toArray] (.bool false)) (w : World) :
   Calls Tryz.prog 55 #[.agg (pv lx ly false).toArray] w fun e w' => e = .returned (.bool false) ∧ Below w.heap.size w w' := by
 have L_lx := Hd hlx
 have L_ly := Hd hly
 have L_lp := Hd hlp
 have Hc1 := Hd c1
 have Hc2 := Hd c2
 have Hc3 := Hd c3
 have B0_ := Hd (Blk.new w  28 (pv lx ly false))
 have bel_ := ((Below.refl w.heap.size w).alloc (Nat.le_refl _) (.cells (pv lx ly false).toArray 28))
 clear hlx hly hlp c1 c2 c3
 go_enter Tryz.func55, Tryz.ntmps55
 have ci := pv_i B0_.out L_lx.out L_ly.out
 go_wp2_with fail
 refine (Hc1.out _).mono ?_
 rintro e w1 ⟨rfl, hbw1⟩
 have C2 := gq' B0_ hbw1
 have hbel3 := bel_.trans (Below.mono hbw1 bel_.size)
 clear B0_ bel_ hbw1
 go_wp2_with (first | (refine stN rfl 26 (.tmp 3) (.tmp 11) rfl w1 rfl (natsV .u64 lp) rfl 26 (natsV .u64 (zeros 4)) (i24 L_lp.out) (lz4 L_lp.out) n1' ?_; intro w4 hgw4 hnw4; have C7 := gq' C2 hgw4; clear C2; have hbel8 := hbel3.trans (Below.mono hgw4 hbel3.size); clear hbel3; have D6 := Hd hnw4; clear hnw4 hgw4; generalize w1.heap.size = G5 at *) | (refine lm' (pv_x (C7.out)) Tryz.underlying26 (i24 L_lx.out) ?_) | (refine lm' (blk_all (D6.out)) Tryz.underlying26 (i24 L_lp.out) ?_))
 refine (Hc2.out _).mono ?_
 rintro e w9 ⟨rfl, hbw9⟩
 have C10 := gq' C7 hbw9
 have C11 := gq' D6 hbw9
 have hbel12 := hbel8.trans (Below.mono hbw9 hbel8.size)
 clear C7 D6 hbel8 hbw9
 go_wp2_with (first | (refine lm' (pv_y (C10.out) L_lx.out) Tryz.underlying26 (i24 L_ly.out) ?_) | (refine lm' (blk_all (C11.out)) Tryz.underlying26 (i24 L_lp.out) ?_))
 refine (Hc3.out _).mono ?_
 rintro e w13 ⟨rfl, hbw13⟩
 have C14 := gq' C10 hbw13
 have C15 := gq' C11 hbw13
 have hbel16 := hbel12.trans (Below.mono hbw13 hbel12.size)
 clear C10 C11 hbel12 hbw13
 go_wp2_with fail
 as_aux_lemma =>
 refine wp_region_G (fun w_ => True) 17 (by kernel_rfl) trivial ?_
 refine tkp gS0 0 rfl ?_
 try simp only [Act.put, zq]
 refine tkp gS0 1 rfl ?_
 try simp only [Act.put, zq]
 refine tkp gS0 2 rfl ?_
 try simp only [Act.put, zq]
 refine tkp gS0 3 rfl ?_
 try simp only [Act.put, zq]
 refine tkp gS0 4 rfl ?_
 try simp only [Act.put, zq]
 refine tks gS0 5 rfl ?_
 try simp only [Act.put, zq]
 refine tks gS0 6 rfl ?_
 try simp only [Act.put, zq]
 refine tks gS0 7 rfl ?_
 try simp only [Act.put, zq]
 refine tks gS0 8 rfl ?_
 try simp only [Act.put, zq]
 refine tks gS0 9 rfl ?_
 try simp only [Act.put, zq]
 refine tks gS0 10 rfl ?_
 try simp only [Act.put, zq]
 refine tks gS0 11 rfl ?_
 try simp only [Act.put, zq]
 refine tks gS0 12 rfl ?_
 try simp only [Act.put, zq]
 refine tks gS0 13 rfl ?_
 try simp only [Act.put, zq]
 refine tks gS0 14 rfl ?_
 try simp only [Act.put, zq]
 refine tkp gS0 15 rfl ?_
 try simp only [Act.put, zq]
 refine tkp gS0 16 rfl ?_
 try simp only [Act.put, zq]
 refine wpAnyG_done (by kernel_rfl) ?_ _
 intro w17 hgw17
 try simp only [Act.put, zq]
 have E18 := dq' C14 hgw17
 have E19 := dq' C15 hgw17
 have hbel20 := hbel16.drew.trans (Below.mono hgw17 hbel16.drew.size)
 clear C14 C15 hbel16 hgw17
 as_aux_lemma =>
 go_wp2_with fail
 go_ret
 exact ⟨rfl, hbel20⟩
theorem don_c {lx ly lp sy rs : List Nat} (hlx : lx.length = 4) (hly : ly.length = 4) (hlp : lp.length = 4) (hsy : sy.length = 4) (hrs : rs.length = 4)
   (c1 : Ans 54 #[] (.agg (natsV .u64 lp).toArray))
   (c2 : Ans 31 #[.agg (natsV .u64 lx).toArray, .agg (natsV .u64 lp).toArray] (.bool true))
   (c3 : Ans 31 #[.agg (natsV .u64 ly).toArray, .agg (natsV .u64 lp).toArray] (.bool true))
   (c4 : Ans 40 #[.agg (natsV .u64 ly).toArray, .agg (natsV .u64 ly).toArray, .agg (natsV .u64 lp).toArray] (.agg (natsV .u64 sy).toArray))
   (c5 : Ans 57 #[.agg (natsV .u64 lx).toArray] (.agg (natsV .u64 rs).toArray)) (w : World) :
   Calls Tryz.prog 55 #[.agg (pv lx ly false).toArray] w fun e w' => e = .returned (.bool (decide (sy = rs))) ∧ Below w.heap.size w w' := by
 have L_lx := Hd hlx
 have L_ly := Hd hly
 have L_lp := Hd hlp
 have L_sy := Hd hsy
 have L_rs := Hd hrs
 have Hc1 := Hd c1
 have Hc2 := Hd c2
 have Hc3 := Hd c3
 have Hc4 := Hd c4
 have Hc5 := Hd c5
 have QE := Hd (fun w => eql24 sy rs L_sy.out L_rs.out w)
 have B0_ := Hd (Blk.new w  28 (pv lx ly false))
 have bel_ := ((Below.refl w.heap.size w).alloc (Nat.le_refl _) (.cells (pv lx ly false).toArray 28))
 clear hlx hly hlp hsy hrs c1 c2 c3 c4 c5
 go_enter Tryz.func55, Tryz.ntmps55
 have ci := pv_i B0_.out L_lx.out L_ly.out
 go_wp2_with fail
 refine (Hc1.out _).mono ?_
 rintro e w1 ⟨rfl, hbw1⟩
 have C2 := gq' B0_ hbw1
 have hbel3 := bel_.trans (Below.mono hbw1 bel_.size)
 clear B0_ bel_ hbw1
 go_wp2_with (first | (refine stN rfl 26 (.tmp 3) (.tmp 11) rfl w1 rfl (natsV .u64 lp) rfl 26 (natsV .u64 (zeros 4)) (i24 L_lp.out) (lz4 L_lp.out) n1' ?_; intro w4 hgw4 hnw4; have C7 := gq' C2 hgw4; clear C2; have hbel8 := hbel3.trans (Below.mono hgw4 hbel3.size); clear hbel3; have D6 := Hd hnw4; clear hnw4 hgw4; generalize w1.heap.size = G5 at *) | (refine lm' (pv_x (C7.out)) Tryz.underlying26 (i24 L_lx.out) ?_) | (refine lm' (blk_all (D6.out)) Tryz.underlying26 (i24 L_lp.out) ?_))
 refine (Hc2.out _).mono ?_
 rintro e w9 ⟨rfl, hbw9⟩
 have C10 := gq' C7 hbw9
 have C11 := gq' D6 hbw9
 have hbel12 := hbel8.trans (Below.mono hbw9 hbel8.size)
 clear C7 D6 hbel8 hbw9
 go_wp2_with (first | (refine lm' (pv_y (C10.out) L_lx.out) Tryz.underlying26 (i24 L_ly.out) ?_) | (refine lm' (blk_all (C11.out)) Tryz.underlying26 (i24 L_lp.out) ?_))
 refine (Hc3.out _).mono ?_
 rintro e w13 ⟨rfl, hbw13⟩
 have C14 := gq' C10 hbw13
 have C15 := gq' C11 hbw13
 have hbel16 := hbel12.trans (Below.mono hbw13 hbel12.size)
 clear C10 C11 hbel12 hbw13
 go_wp2_with fail
 as_aux_lemma =>
 refine wp_region_G (fun w_ => Blk w_ w.heap.size 28 (pv lx ly false) ∧ Blk w_ G5 26 (natsV .u64 lp)) 17 (by kernel_rfl) ⟨C14.out.drew, C15.out.drew⟩ ?_
 refine tkp gS2 0 rfl ?_
 try simp only [Act.put, zq]
 refine tkp gS2 1 rfl ?_
 try simp only [Act.put, zq]
 refine tkp gS2 2 rfl ?_
 try simp only [Act.put, zq]
 refine tkp gS2 3 rfl ?_
 try simp only [Act.put, zq]
 refine tkp gS2 4 rfl ?_
 try simp only [Act.put, zq]
 refine tkp gS2 5 rfl ?_
 try simp only [Act.put, zq]
 refine tk gS2 6 rfl (lg' (fun _ hS_ => pv_y (hS_.1) L_lx.out) Tryz.underlying26 (i24 L_ly.out)) ?_
 try simp only [Act.put, zq]
 refine tkp gS2 7 rfl ?_
 try simp only [Act.put, zq]
 refine tk gS2 8 rfl (lg' (fun _ hS_ => pv_y (hS_.1) L_lx.out) Tryz.underlying26 (i24 L_ly.out)) ?_
 try simp only [Act.put, zq]
 refine tk gS2 9 rfl (lg' (fun _ hS_ => blk_all (hS_.2)) Tryz.underlying26 (i24 L_lp.out)) ?_
 try simp only [Act.put, zq]
 refine tk gS2 10 rfl (cg' Tryz.func40 (fun w _ => Hc4.out w)) ?_
 try simp only [Act.put, zq]
 refine tkp gS2 11 rfl ?_
 try simp only [Act.put, zq]
 refine tk gS2 12 rfl (lg' (fun _ hS_ => pv_x (hS_.1)) Tryz.underlying26 (i24 L_lx.out)) ?_
 try simp only [Act.put, zq]
 refine tk gS2 13 rfl (cg' Tryz.func57 (fun w _ => Hc5.out w)) ?_
 try simp only [Act.put, zq]
 refine tk gS2 14 rfl (pureG (by rfl) (by intro w; have q := QE.out; go_simp; first | done | with_reducible rfl)) ?_
 try simp only [Act.put, zq]
 refine tkp gS2 15 rfl ?_
 try simp only [Act.put, zq]
 refine tkp gS2 16 rfl ?_
 try simp only [Act.put, zq]
 refine wpAnyG_done (by kernel_rfl) ?_ _
 intro w17 hgw17
 try simp only [Act.put, zq]
 have E18 := dq' C14 hgw17
 have E19 := dq' C15 hgw17
 have hbel20 := hbel16.drew.trans (Below.mono hgw17 hbel16.drew.size)
 clear C14 C15 hbel16 hgw17
 as_aux_lemma =>
 go_wp2_with fail
 go_ret
 exact ⟨rfl, hbel20⟩
theorem right_g {n : Nat} [NeZero n] (x b : Fin n) : x * x * x - x - x - x + b = x * x * x - 3 * x + b := by grobner
def rightT (x : FP) : Nat → FP
 | 0 => x * x * x
 | t + 1 => rightT x t - x
theorem d_right (x : FP) : Ans 57 #[.agg (natsV .u64 (nw x)).toArray] (.agg (natsV .u64 (nw (rsF x))).toArray) := fun w => by
 have h := dright (Y := fun t => nw (rightT x t)) (nw_len x) (wds_len 4 mP) (nw_len _) (nw_len bP) (nw_len _) (fun _ => nw_len _) DP_any (d_mod x x) (d_mod _ x) (fun t _ w => d_modS (rightT x t) x w) dB_any (d_modA (rightT x 3) bP) w
 have e : rightT x 3 + bP = rsF x := right_g x bP
 rw [e] at h
 exact h
theorem d_on (x y : Nat) (i : Bool) (hx : x < 2 ^ 256) (hy : y < 2 ^ 256) : Ans 55 #[.agg (pv (wds 4 x) (wds 4 y) i).toArray] (.bool (onB x y i)) := fun w => by
 have less : ∀ a : Nat, a < 2 ^ 256 → Ans 31 #[.agg (natsV .u64 (wds 4 a)).toArray, .agg (natsV .u64 (wds 4 mP)).toArray] (.bool (decide (a < mP))) := fun a ha w => Less_any a mP w ha fld_P.lt
 cases i with
 | true =>
   have h := don_inf (wds_len 4 x) (wds_len 4 y) w
   rw [show decide (wds 4 x = zeros 4 ∧ wds 4 y = zeros 4) = decide (x = 0 ∧ y = 0) from by rw [decide_eq_decide, wds0 hx, wds0 hy]] at h
   exact h
 | false =>
   unfold onB
   rw [if_neg (by decide)]
   have l1 := less x hx
   have l2 := less y hy
   by_cases h1 : x < mP
   · rw [decide_eq_true h1] at l1 ⊢
     rw [Bool.true_and]
     by_cases h2 : y < mP
     · rw [decide_eq_true h2] at l2 ⊢
       rw [Bool.true_and]
       have ex : wds 4 x = nw (fv x) := by unfold nw; rw [fv_val, Nat.mod_eq_of_lt h1]
       have ey : wds 4 y = nw (fv y) := by unfold nw; rw [fv_val, Nat.mod_eq_of_lt h2]
       have h := don_c (wds_len 4 x) (wds_len 4 y) (wds_len 4 mP) (nw_len (fv y * fv y)) (nw_len (rsF (fv x))) DP_any l1 l2 (fun w => by rw [ey]; exact d_mod (fv y) (fv y) w) (fun w => by rw [ex]; exact d_right (fv x) w) w
       rw [show decide (nw (fv y * fv y) = nw (rsF (fv x))) = decide (fv y * fv y = rsF (fv x)) from decide_eq_decide.2 ⟨nw_inj, fun h => by rw [h]⟩] at h
       exact h
     · rw [decide_eq_false h2] at l2 ⊢
       rw [Bool.false_and]
       exact don_b (wds_len 4 x) (wds_len 4 y) (wds_len 4 mP) DP_any l1 l2 w
   · rw [decide_eq_false h1] at l1 ⊢
     rw [Bool.false_and]
     exact don_a (wds_len 4 x) (wds_len 4 y) (wds_len 4 mP) DP_any l1 l2 w
theorem d_part {w : World} {b o n c f : Nat} {l : List Nat} (hB : BIn w (some ⟨b, o, none⟩) n c l) (hn : 0 < n) (hf : f + 32 ≤ n) (W : World) (hW : Below w.heap.size w W) :
   Calls Tryz.prog 23 #[.slice (some ⟨b, o + f, none⟩) 32 (c - f)] W fun e w' => e = .returned (.agg (natsV .u64 (wds 4 (be ((l.drop f).take 32)))).toArray) ∧ Below W.heap.size W w' :=
 refOf_any (some ⟨b, o + f, none⟩) (c - f) _ W (bin_sub (hB.below hW) hn hf)
theorem d_dec65 {w : World} {A : Option Addr} {c : Nat} {l : List Nat} (hB : BIn w A 65 c l) :
   Calls Tryz.prog 28 #[.slice A 65 c] w fun e w' => e = .returned (.tuple #[.agg (pv (dec65 l).1 (dec65 l).2.1 false).toArray, .int .i64 (dec65 l).2.2]) ∧ Below w.heap.size w w' := by
 obtain ⟨b, o, rfl, _⟩ := hB.1.2.2.2.resolve_left (by omega)
 have LP := wds_len 4 mP
 unfold dec65
 by_cases h0 : l.getD 0 0 = 4
 · have p1 := d_part hB (by omega) (f := 1) (by omega)
   have p2 := d_part hB (by omega) (f := 33) (by omega)
   have x1 : keyX l < 2 ^ 256 := be32_lt (bin_sub hB (by omega) (f := 1) (s := 32) (by omega))
   have x2 : keyY l < 2 ^ 256 := be32_lt (bin_sub hB (by omega) (f := 33) (s := 32) (by omega))
   rw [if_pos h0]
   have ho := d_on (keyX l) (keyY l) false x1 x2
   by_cases hon : onB (keyX l) (keyY l) false = true
   · rw [if_pos hon]
     rw [hon] at ho
     exact ddec_wok w LP (wds_len 4 _) (wds_len 4 _) hB h0 rfl DP_any p1 p2 ho
   · rw [if_neg hon]
     rw [Bool.eq_false_iff.2 hon] at ho
     exact ddec_wno w LP (wds_len 4 _) (wds_len 4 _) hB h0 rfl DP_any p1 p2 ho
 · rw [if_neg h0]
   exact ddec_fb w LP hB rfl h0 DP_any
theorem d_scalar {w : World} {A : Option Addr} {n c : Nat} {l : List Nat} (hB : BIn w A n c l) :
   Calls Tryz.prog 12 #[.slice A n c] w fun e w' => e = .returned (.agg (natsV .u64 (wds 4 (scE n l))).toArray) ∧ Below w.heap.size w w' := by
 have c1 := fun A c W (h : BIn W A 32 c (zeros (32 - min n 32) ++ l.take (min n 32))) => refOf_any A c _ W h
 have hx := be_256 (zt_len hB) (zt_lt hB)
 have c3 := fun w => Rest_any (be (zeros (32 - min n 32) ++ l.take (min n 32))) mN false w mN256 hx (by show _ + 2 ^ 256 * 0 < _; have := fld_N.gt; omega)
 have e0 : ∀ x : Nat, x + 2 ^ 256 * false.toNat = x := fun x => by show x + 2 ^ 256 * 0 = x; omega
 simp only [e0] at c3
 unfold scE
 by_cases h : n ≤ 32
 · rw [Nat.min_eq_left h] at c1 c3 ⊢
   exact dscal_le w (wds_len 4 _) (wds_len 4 mN) (wds_len 4 _) hB ⟨rfl, h⟩ (by omega) c1 DN_any c3
 · rw [Nat.min_eq_right (by omega)] at c1 c3 ⊢
   exact dscal_gt w (wds_len 4 _) (wds_len 4 mN) (wds_len 4 _) hB ⟨rfl, by omega⟩ rfl c1 DN_any c3
theorem d_key {w : World} {A : Option Addr} {n c : Nat} {l : List Nat} (hB : BIn w A n c l) :
   Calls Tryz.prog 8 #[.slice A n c] w fun e w' => e = .returned (.tuple #[keyV n l, .bool (decide (keyOk n l))]) ∧ Below w.heap.size w w' := by
 unfold keyV
 by_cases h : n = 65
 · subst h
   obtain ⟨⟨e1, e2⟩, e3, e4⟩ := dec65_dec l
   have kd : ∀ W, Below w.heap.size w W → Calls Tryz.prog 28 #[.slice A 65 c] W fun e w' => e = .returned (.tuple #[.agg (pv (keyA 65 l).1 (keyA 65 l).2.1 false).toArray, .int .i64 (dec65 l).2.2]) ∧ Below W.heap.size W w' := fun W hW => by
     have k := d_dec65 (hB.below hW)
     rw [e1, e2] at k
     exact k
   by_cases hk : keyOk 65 l
   · rw [decide_eq_true hk]
     have h0 : (dec65 l).2.2 = 0 := by
       rw [keyA_ok hk] at e3
       by_cases h0 : (dec65 l).2.2 = 0
       · exact h0
       · rw [if_neg h0] at e3; exact absurd (show (0 : Int) = 71 from e3) (by decide)
     exact dkey_ok w (keyA_x 65 l) (keyA_y 65 l) h0 kd
   · rw [decide_eq_false hk]
     have h0 : (dec65 l).2.2 ≠ 0 := fun h0 => by
       rw [keyA_no hk, if_pos h0] at e3; exact absurd e3 (by decide)
     exact dkey_no w (keyA_x 65 l) (keyA_y 65 l) h0 kd
 · have hk : ¬ keyOk n l := fun k => h k.1
   rw [keyA_no hk, decide_eq_false hk]
   exact dkey_len w h
theorem d_split {w : World} {A : Option Addr} {n c : Nat} {l : List Nat} (hB : BIn w A n c l) :
   Calls Tryz.prog 10 #[.slice A n c] w fun e w' => e = .returned (sigV n l) ∧ Below w.heap.size w w' := by
 unfold sigV sigA
 by_cases h : n = 64
 · subst h
   obtain ⟨b, o, rfl, _⟩ := hB.1.2.2.2.resolve_left (by omega)
   have hc := hB.2.1
   have hcm := hB.2.2.1
   have l1 : (l.take 32).length = 32 := by rw [List.length_take, hB.1.1]; rfl
   have l2 : ((l.drop 32).take 32).length = 32 := by rw [List.length_take, List.length_drop, hB.1.1]; rfl
   have b1 : ∀ x ∈ l.take 32, x < 256 := fun x hx => hB.1.2.2.1 x (List.mem_of_mem_take hx)
   have b2 : ∀ x ∈ (l.drop 32).take 32, x < 256 := fun x hx => hB.1.2.2.1 x (List.mem_of_mem_drop (List.mem_of_mem_take hx))
   have x1 : sigR l < 2 ^ 256 := be_256 l1 b1
   have x2 : sigS l < 2 ^ 256 := be_256 l2 b2
   have c1 : ∀ W, Below w.heap.size w W → Calls Tryz.prog 23 #[.slice (some ⟨b, o, none⟩) 32 c] W fun e w' => e = .returned (.agg (natsV .u64 (wds 4 (sigR l))).toArray) ∧ Below W.heap.size W w' := fun W hW => by
     have k := d_part hB (by omega) (f := 0) (by omega) W hW
     simp only [Nat.add_zero, List.drop_zero, Nat.sub_zero] at k
     exact k
   have c2 : ∀ W, Below w.heap.size w W → Calls Tryz.prog 23 #[.slice (some ⟨b, o + 32, none⟩) 32 (c - 32)] W fun e w' => e = .returned (.agg (natsV .u64 (wds 4 (sigS l))).toArray) ∧ Below W.heap.size W w' := fun W hW =>
     d_part hB (by omega) (f := 32) (by omega) W hW
   have c3 := fun w => Less_any (sigR l) mN w x1 mN256
   have c4 := fun w => Less_any (sigS l) mN w x2 mN256
   rw [if_pos rfl]
   have z1 := wds4_0 x1
   have z2 := wds4_0 x2
   have LR := wds_len 4 (sigR l)
   have LS := wds_len 4 (sigS l)
   have LN := wds_len 4 mN
   by_cases h1 : sigR l = 0
   · have hs : ¬ sigOk 64 l := fun k => k.2.1.1 h1
     rw [if_neg hs, wds0_]
     exact dsplit_r0 w LR LS LN hc hcm (z1.2 h1) c1 c2 DN_any c3 c4
   · by_cases h2 : sigS l = 0
     · have hs : ¬ sigOk 64 l := fun k => k.2.2.1 h2
       rw [if_neg hs, wds0_]
       exact dsplit_s0 w LR LS LN hc hcm (fun k => h1 (z1.1 k)) (z2.2 h2) c1 c2 DN_any c3 c4
     · by_cases h3 : sigR l < mN
       · rw [decide_eq_true h3] at c3
         by_cases h4 : sigS l < mN
         · rw [decide_eq_true h4] at c4
           have hs : sigOk 64 l := ⟨rfl, ⟨h1, h3⟩, ⟨h2, h4⟩⟩
           rw [if_pos hs]
           exact dsplit_ok (u1 := true) (u2 := true) w LR LS LN hc hcm (fun k => h1 (z1.1 k)) (fun k => h2 (z2.1 k)) c1 c2 DN_any c3 c4
         · rw [decide_eq_false h4] at c4
           have hs : ¬ sigOk 64 l := fun k => h4 k.2.2.2
           rw [if_neg hs, wds0_]
           exact dsplit_sl (u1 := true) (u2 := true) w LR LS LN hc hcm (fun k => h1 (z1.1 k)) (fun k => h2 (z2.1 k)) c1 c2 DN_any c3 c4
       · rw [decide_eq_false h3] at c3
         have hs : ¬ sigOk 64 l := fun k => h3 k.2.1.2
         rw [if_neg hs, wds0_]
         exact dsplit_rl (u1 := true) w LR LS LN hc hcm (fun k => h1 (z1.1 k)) (fun k => h2 (z2.1 k)) c1 c2 DN_any c3 c4
 · rw [if_neg h, wds0_]
   exact dsplit_len w h
end Go.Proofs.YtdkkombpkojjaaaGreat
