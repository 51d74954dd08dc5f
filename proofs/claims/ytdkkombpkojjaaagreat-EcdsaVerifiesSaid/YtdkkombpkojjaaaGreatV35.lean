/- Parts of proofs of statements, each text behind those that it stands on. No condition of its own. -/
import Derived.Test.YtdkkombpkojjaaaGreatV31
namespace Go.Proofs.YtdkkombpkojjaaaGreat
set_option maxRecDepth 100000
set_option maxHeartbeats 6400000
open Go.RowKit
set_option linter.unusedVariables false
set_option linter.unusedSimpArgs false
theorem dright {lx lp l1 lb lr : List Nat} {Y : Nat → List Nat} (hlx : lx.length = 4) (hlp : lp.length = 4) (hl1 : l1.length = 4) (hlb : lb.length = 4) (hlr : lr.length = 4) (hFY : ∀ t, (Y t).length = 4)
   (c1 : Ans 54 #[] (.agg (natsV .u64 lp).toArray))
   (c2 : Ans 40 #[.agg (natsV .u64 lx).toArray, .agg (natsV .u64 lx).toArray, .agg (natsV .u64 lp).toArray] (.agg (natsV .u64 l1).toArray))
   (c3 : Ans 40 #[.agg (natsV .u64 l1).toArray, .agg (natsV .u64 lx).toArray, .agg (natsV .u64 lp).toArray] (.agg (natsV .u64 (Y 0)).toArray))
   (cs : ∀ t, t < 3 → ∀ w, Calls Tryz.prog 58 #[.agg (natsV .u64 (Y t)).toArray, .agg (natsV .u64 lx).toArray, .agg (natsV .u64 lp).toArray] w fun e w' => e = .returned (.agg (natsV .u64 (Y (t + 1))).toArray) ∧ Below w.heap.size w w')
   (c5 : Ans 86 #[] (.agg (natsV .u64 lb).toArray))
   (c6 : Ans 45 #[.agg (natsV .u64 (Y 3)).toArray, .agg (natsV .u64 lb).toArray, .agg (natsV .u64 lp).toArray] (.agg (natsV .u64 lr).toArray)) (w : World) :
   Calls Tryz.prog 57 #[.agg (natsV .u64 lx).toArray] w fun e w' => e = .returned (.agg (natsV .u64 lr).toArray) ∧ Below w.heap.size w w' := by
 have L_lx := Hd hlx
 have L_lp := Hd hlp
 have L_l1 := Hd hl1
 have L_lb := Hd hlb
 have L_lr := Hd hlr
 have LF_Y := Hd hFY
 have Hc1 := Hd c1
 have Hc2 := Hd c2
 have Hc3 := Hd c3
 have Hcs := Hd cs
 have Hc5 := Hd c5
 have Hc6 := Hd c6
 have B0_ := Hd ((Blk.new w  26 (natsV .u64 lx)).alloc (.cells (natsV .u64 (zeros 4)).toArray 26))
 have B1_ := Hd (Blk.new2 w (.cells (natsV .u64 lx).toArray 26) 26 (natsV .u64 (zeros 4)))
 have bel_ := (((Below.refl w.heap.size w).alloc (Nat.le_refl _) (.cells (natsV .u64 lx).toArray 26)).alloc (by simp) (.cells (natsV .u64 (zeros 4)).toArray 26))
 clear hlx hlp hl1 hlb hlr hFY c1 c2 c3 cs c5 c6
 go_enter Tryz.func57, Tryz.ntmps57
 go_wp2_with fail
 refine (Hc1.out _).mono ?_
 rintro e w1 ⟨rfl, hbw1⟩
 have C2 := gq' B0_ hbw1
 have C3 := gq' B1_ hbw1
 have hbel4 := bel_.trans (Below.mono hbw1 bel_.size)
 clear B0_ B1_ bel_ hbw1
 go_wp2_with (first | (refine stN rfl 26 (.tmp 3) (.tmp 6) rfl w1 rfl (natsV .u64 lp) rfl 26 (natsV .u64 (zeros 4)) (i24 L_lp.out) (lz4 L_lp.out) n1' ?_; intro w5 hgw5 hnw5; have C8 := gq' C2 hgw5; clear C2; have C9 := gq' C3 hgw5; clear C3; have hbel10 := hbel4.trans (Below.mono hgw5 hbel4.size); clear hbel4; have D7 := Hd hnw5; clear hnw5 hgw5; generalize w1.heap.size = G6 at *))
 as_aux_lemma =>
 refine wp_region_G (fun w_ => Blk w_ w.heap.size 26 (natsV .u64 lx) ∧ Blk w_ G6 26 (natsV .u64 lp)) 8 (by kernel_rfl) ⟨C8.out.drew, D7.out.drew⟩ ?_
 refine tk gS2 0 rfl (lg' (fun _ hS_ => blk_all (hS_.1)) Tryz.underlying26 (i24 L_lx.out)) ?_
 try simp only [Act.put, zq]
 refine tk gS2 1 rfl (lg' (fun _ hS_ => blk_all (hS_.1)) Tryz.underlying26 (i24 L_lx.out)) ?_
 try simp only [Act.put, zq]
 refine tk gS2 2 rfl (lg' (fun _ hS_ => blk_all (hS_.2)) Tryz.underlying26 (i24 L_lp.out)) ?_
 try simp only [Act.put, zq]
 refine tk gS2 3 rfl (cg' Tryz.func40 (fun w _ => Hc2.out w)) ?_
 try simp only [Act.put, zq]
 refine tk gS2 4 rfl (lg' (fun _ hS_ => blk_all (hS_.1)) Tryz.underlying26 (i24 L_lx.out)) ?_
 try simp only [Act.put, zq]
 refine tk gS2 5 rfl (lg' (fun _ hS_ => blk_all (hS_.2)) Tryz.underlying26 (i24 L_lp.out)) ?_
 try simp only [Act.put, zq]
 refine tk gS2 6 rfl (cg' Tryz.func40 (fun w _ => Hc3.out w)) ?_
 try simp only [Act.put, zq]
 refine wpAnyG_def (i := 7) (j := 8) gS2 (by kernel_rfl) (by kernel_rfl) (by kernel_rfl) rfl rfl rfl (allocG (by rfl) rfl _ alloc24) (lz4 (LF_Y.out 0)) (fun _ => StoresG.mk (cs := (natsV .u64 (Y 0))) (by rfl) 26 _ _ rfl rfl rfl (i24 (LF_Y.out 0)) n1') ?_
 intro w11 G12 hgw11 hz_ hn_
 try simp only [Act.put, zq]
 have NE13 := Hd (Nat.ne_of_lt (Nat.lt_of_lt_of_le C8.out.drew.lt hz_))
 have NE14 := Hd (Nat.ne_of_lt (Nat.lt_of_lt_of_le C9.out.drew.lt hz_))
 have NE15 := Hd (Nat.ne_of_lt (Nat.lt_of_lt_of_le D7.out.drew.lt hz_))
 have GE16 := Hd (Nat.le_trans hbel10.drew.size hz_)
 have E17 := dq' C8 hgw11
 have E18 := dq' C9 hgw11
 have E19 := dq' D7 hgw11
 have hbel20 := hbel10.drew.trans (Below.mono hgw11 hbel10.drew.size)
 have D21 := Hd hn_
 clear C8 C9 D7 hbel10 hn_ hz_ hgw11
 as_aux_lemma =>
 go_wp2_with fail
 go_loopw [5] (fun i wr => ∃ t : Nat, t ≤ 3 ∧ i = .int .i64 t ∧ Blk wr w.heap.size 26 (natsV .u64 lx) ∧ Blk wr (w.heap.size + 1) 26 (natsV .u64 (zeros 4)) ∧ Blk wr G6 26 (natsV .u64 lp) ∧ Blk wr G12 26 (natsV .u64 (Y t)) ∧ Below w.heap.size w wr) (fun i _ => 3 - (intOf i).toNat)
 case atStart => exact ⟨0, by omega, rfl, E17.out, E18.out, E19.out, D21.out, hbel20⟩
 case round =>
   clear E17 E18 E19 D21 hbel20
   obtain ⟨t, ht, rfl, kx_, kr_, k3_, k4_, hbel⟩ := hrel
   have Kx := Hd kx_
   have Kr := Hd kr_
   have K3 := Hd k3_
   have K4 := Hd k4_
   clear kx_ kr_ k3_ k4_
   by_cases h3 : t < 3
   · as_aux_lemma =>
     have hti : (t : Int) < 3 := by omega
     have HS := Hd (Hcs.out t h3)
     go_wp2_with (first | (refine lm' (blk_all (K4.out)) Tryz.underlying26 (i24 (LF_Y.out t)) ?_) | (refine lm' (blk_all (Kx.out)) Tryz.underlying26 (i24 L_lx.out) ?_) | (refine lm' (blk_all (K3.out)) Tryz.underlying26 (i24 L_lp.out) ?_))
     refine (HS.out _).mono ?_
     rintro e w22 ⟨rfl, hbw22⟩
     have C23 := Hd (Kx.out.gr hbw22)
     have C24 := Hd (Kr.out.gr hbw22)
     have C25 := Hd (K3.out.gr hbw22)
     have C26 := Hd (K4.out.gr hbw22)
     have hbel27 := hbel.trans (Below.mono hbw22 hbel.size)
     clear Kx Kr K3 K4 hbel hbw22
     go_wp2_with (first | (refine stB rfl 26 (.tmp 4) (.tmp 21) rfl G12 rfl (natsV .u64 (Y (t + 1))) rfl 26 (natsV .u64 (Y t)) C26.out (i24 (LF_Y.out (t + 1))) (lenEq (by rw [natsV_length, (LF_Y.out t)]) (by rw [natsV_length, (LF_Y.out (t + 1))])) n1' ?_; generalize hW : World.setRow _ _ _ = w28; obtain ⟨hgw28, hnw28⟩ := setfacts hW C26.out; clear hW; have E29 := Hd (C23.out.grown hgw28 (fun e => NE13.out (Option.some.inj e))); clear C23; have E30 := Hd (C24.out.grown hgw28 (fun e => NE14.out (Option.some.inj e))); clear C24; have E31 := Hd (C25.out.grown hgw28 (fun e => NE15.out (Option.some.inj e))); clear C25; have D32 := Hd hnw28; clear hnw28 C26; have hbel33 := belStore hbel27 hgw28 (GE16.out); clear hgw28; clear hbel27))
     go_roundw
     case rel => exact ⟨t + 1, by omega, by go_num, E29.out, E30.out, E31.out, D32.out, hbel33⟩
     case measure => simp [intOf] <;> omega
   · as_aux_lemma =>
     obtain rfl : t = 3 := by omega
     rw [show ((3 : Nat) : Int) = 3 from rfl]
     go_wp2_with fail
     as_aux_lemma =>
     refine wp_region_G (fun w_ => Blk w_ G12 26 (natsV .u64 (Y 3)) ∧ Blk w_ G6 26 (natsV .u64 lp)) 4 (by kernel_rfl) ⟨K4.out.drew, K3.out.drew⟩ ?_
     refine tk gS2 0 rfl (lg' (fun _ hS_ => blk_all (hS_.1)) Tryz.underlying26 (i24 (LF_Y.out 3))) ?_
     try simp only [Act.put, zq]
     refine tk gS2 1 rfl (cg' Tryz.func86 (fun w _ => Hc5.out w)) ?_
     try simp only [Act.put, zq]
     refine tk gS2 2 rfl (lg' (fun _ hS_ => blk_all (hS_.2)) Tryz.underlying26 (i24 L_lp.out)) ?_
     try simp only [Act.put, zq]
     refine tk gS2 3 rfl (cg' Tryz.func45 (fun w _ => Hc6.out w)) ?_
     try simp only [Act.put, zq]
     refine wpAnyG_set (i := 4) (by kernel_rfl) (by kernel_rfl) rfl rfl Kr.out.drew (lz4 L_lr.out) (StoresG.mk (cs := (natsV .u64 lr)) (by rfl) 26 _ _ rfl rfl rfl (i24 L_lr.out) n1') ?_
     intro w34 hgw34 hn_
     try simp only [Act.put, zq]
     have hbel35 := belStore hbel.drew hgw34 (show w.heap.size ≤ (w.heap.size + 1) by omega)
     have D36 := Hd hn_
     go_wp2_with fail
     refine bodyPost_ret (v := .agg (natsV .u64 lr).toArray) ?_ rfl ⟨rfl, hbel35⟩
     exact results_cell_row Tryz.results57 _ _ (w.heap.size + 1) 26 _ (0, 0) _ rfl D36.out Tryz.underlying26 rfl (by simpa using (i24 L_lr.out))
theorem don_inf {lx ly : List Nat} (hlx : lx.length = 4) (hly : ly.length = 4) (w : World) :
   Calls Tryz.prog 55 #[.agg (pv lx ly true).toArray] w fun e w' => e = .returned (.bool (decide (lx = zeros 4 ∧ ly = zeros 4))) ∧ Below w.heap.size w w' := by
 have L_lx := Hd hlx
 have L_ly := Hd hly
 clear hlx hly
 obtain ⟨bb, hbb⟩ : ∃ bb, bb = decide (lx = zeros 4 ∧ ly = zeros 4) := ⟨_, rfl⟩
 have QE := Hd (fun w => show (binOp .eql 28 (.agg (pv lx ly true).toArray) (.agg #[.int .u64 0, .int .u64 0, .int .u64 0, .int .u64 0, .int .u64 0, .int .u64 0, .int .u64 0, .int .u64 0, .bool true])).run Tryz.prog w = _ from (eql43 lx ly (zeros 4) (zeros 4) true true L_lx.out L_ly.out rfl rfl w).trans (by rw [show decide (lx = zeros 4 ∧ ly = zeros 4 ∧ true = true) = bb by rw [hbb]; simp]))
 rw [← hbb]
 have B0_ := Hd (Blk.new w  28 (pv lx ly true))
 have bel_ := ((Below.refl w.heap.size w).alloc (Nat.le_refl _) (.cells (pv lx ly true).toArray 28))
 clear hbb
 go_enter Tryz.func55, Tryz.ntmps55
 have ci := pv_i B0_.out L_lx.out L_ly.out
 have qe := QE.out
 go_wp2_with (first | (refine lm' (blk_all (B0_.out)) Tryz.underlying28 (i43 L_lx.out L_ly.out) ?_))
 go_ret
 exact ⟨rfl, bel_⟩
theorem don_a {lx ly lp : List Nat} {by_ : Bool} (hlx : lx.length = 4) (hly : ly.length = 4) (hlp : lp.length = 4)
   (c1 : Ans 54 #[] (.agg (natsV .u64 lp).toArray))
   (c2 : Ans 31 #[.agg (natsV .u64 lx).toArray, .agg (natsV .u64 lp).toArray] (.bool false))
   (c3 : Ans 31 #[.agg (natsV .u64 ly).toArray, .agg (natsV .u64 lp).toArray] (.bool by_)) (w : World) :
   Calls Tryz.prog 55 #[.agg (pv lx ly false).toArray] w fun e w' => e = .returned (.bool false) ∧ Below w.heap.size w w' := by
 have L_lx := Hd hlx
 have L_ly := Hd hly
 have L_lp := Hd hlp
 have Hc1 := Hd c1
 have Hc2 := Hd c2
 have Hc3 := Hd c3
 have B0_ := Hd (Blk.new w  28 (pv lx ly false))
 have bel_ := ((Below.refl w.heap.size w).alloc (Nat.le_refl _) (.cells (pv lx ly false).toArray 28))
 clear hlx hly hlp c1 c2 c3
 go_enter Tryz.func55, Tryz.ntmps55
 have ci := pv_i B0_.out L_lx.out L_ly.out
 go_wp2_with fail
 refine (Hc1.out _).mono ?_
 rintro e w1 ⟨rfl, hbw1⟩
 have C2 := gq' B0_ hbw1
 have hbel3 := bel_.trans (Below.mono hbw1 bel_.size)
 clear B0_ bel_ hbw1
 go_wp2_with (first | (refine stN rfl 26 (.tmp 3) (.tmp 11) rfl w1 rfl (natsV .u64 lp) rfl 26 (natsV .u64 (zeros 4)) (i24 L_lp.out) (lz4 L_lp.out) n1' ?_; intro w4 hgw4 hnw4; have C7 := gq' C2 hgw4; clear C2; have hbel8 := hbel3.trans (Below.mono hgw4 hbel3.size); clear hbel3; have D6 := Hd hnw4; clear hnw4 hgw4; generalize w1.heap.size = G5 at *) | (refine lm' (pv_x (C7.out)) Tryz.underlying26 (i24 L_lx.out) ?_) | (refine lm' (blk_all (D6.out)) Tryz.underlying26 (i24 L_lp.out) ?_))
 refine (Hc2.out _).mono ?_
 rintro e w9 ⟨rfl, hbw9⟩
 have C10 := gq' C7 hbw9
 have C11 := gq' D6 hbw9
 have hbel12 := hbel8.trans (Below.mono hbw9 hbel8.size)
 clear C7 D6 hbel8 hbw9
 go_wp2_with (first | (refine lm' (pv_y (C10.out) L_lx.out) Tryz.underlying26 (i24 L_ly.out) ?_) | (refine lm' (blk_all (C11.out)) Tryz.underlying26 (i24 L_lp.out) ?_))
 refine (Hc3.out _).mono ?_
 rintro e w13 ⟨rfl, hbw13⟩
 have C14 := gq' C10 hbw13
 have C15 := gq' C11 hbw13
 have hbel16 := hbel12.trans (Below.mono hbw13 hbel12.size)
 clear C10 C11 hbel12 hbw13
 go_wp2_with fail
 as_aux_lemma =>
 refine wp_region_G (fun w_ => True) 17 (by kernel_rfl) trivial ?_
 refine tkp gS0 0 rfl ?_
 try simp only [Act.put, zq]
 refine tkp gS0 1 rfl ?_
 try simp only [Act.put, zq]
 refine tks gS0 2 rfl ?_
 try simp only [Act.put, zq]
 refine tkp gS0 3 rfl ?_
 try simp only [Act.put, zq]
 refine tkp gS0 4 rfl ?_
 try simp only [Act.put, zq]
 refine tks gS0 5 rfl ?_
 try simp only [Act.put, zq]
 refine tks gS0 6 rfl ?_
 try simp only [Act.put, zq]
 refine tks gS0 7 rfl ?_
 try simp only [Act.put, zq]
 refine tks gS0 8 rfl ?_
 try simp only [Act.put, zq]
 refine tks gS0 9 rfl ?_
 try simp only [Act.put, zq]
 refine tks gS0 10 rfl ?_
 try simp only [Act.put, zq]
 refine tks gS0 11 rfl ?_
 try simp only [Act.put, zq]
 refine tks gS0 12 rfl ?_
 try simp only [Act.put, zq]
 refine tks gS0 13 rfl ?_
 try simp only [Act.put, zq]
 refine tks gS0 14 rfl ?_
 try simp only [Act.put, zq]
 refine tkp gS0 15 rfl ?_
 try simp only [Act.put, zq]
 refine tkp gS0 16 rfl ?_
 try simp only [Act.put, zq]
 refine wpAnyG_done (by kernel_rfl) ?_ _
 intro w17 hgw17
 try simp only [Act.put, zq]
 have E18 := dq' C14 hgw17
 have E19 := dq' C15 hgw17
 have hbel20 := hbel16.drew.trans (Below.mono hgw17 hbel16.drew.size)
 clear C14 C15 hbel16 hgw17
 as_aux_lemma =>
 go_wp2_with fail
 go_ret
 exact ⟨rfl, hbel20⟩
theorem don_b {lx ly lp : List Nat} (hlx : lx.length = 4) (hly : ly.length = 4) (hlp : lp.length = 4)
   (c1 : Ans 54 #[] (.agg (natsV .u64 lp).toArray))
   (c2 : Ans 31 #[.agg (natsV .u64 lx).toArray, .agg (natsV .u64 lp).toArray] (.bool true))
   (c3 : Ans 31 #[.agg (natsV .u64 ly).toArray, .agg (natsV .u64 lp).toArray] (.bool false)) (w : World) :
   Calls Tryz.prog 55 #[.agg (pv lx ly false).toArray] w fun e w' => e = .returned (.bool false) ∧ Below w.heap.size w w' := by
 have L_lx := Hd hlx
 have L_ly := Hd hly
 have L_lp := Hd hlp
 have Hc1 := Hd c1
 have Hc2 := Hd c2
 have Hc3 := Hd c3
 have B0_ := Hd (Blk.new w  28 (pv lx ly false))
 have bel_ := ((Below.refl w.heap.size w).alloc (Nat.le_refl _) (.cells (pv lx ly false).toArray 28))
 clear hlx hly hlp c1 c2 c3
 go_enter Tryz.func55, Tryz.ntmps55
 have ci := pv_i B0_.out L_lx.out L_ly.out
 go_wp2_with fail
 refine (Hc1.out _).mono ?_
 rintro e w1 ⟨rfl, hbw1⟩
 have C2 := gq' B0_ hbw1
 have hbel3 := bel_.trans (Below.mono hbw1 bel_.size)
 clear B0_ bel_ hbw1
 go_wp2_with (first | (refine stN rfl 26 (.tmp 3) (.tmp 11) rfl w1 rfl (natsV .u64 lp) rfl 26 (natsV .u64 (zeros 4)) (i24 L_lp.out) (lz4 L_lp.out) n1' ?_; intro w4 hgw4 hnw4; have C7 := gq' C2 hgw4; clear C2; have hbel8 := hbel3.trans (Below.mono hgw4 hbel3.size); clear hbel3; have D6 := Hd hnw4; clear hnw4 hgw4; generalize w1.heap.size = G5 at *) | (refine lm' (pv_x (C7.out)) Tryz.underlying26 (i24 L_lx.out) ?_) | (refine lm' (blk_all (D6.out)) Tryz.underlying26 (i24 L_lp.out) ?_))
 refine (Hc2.out _).mono ?_
 rintro e w9 ⟨rfl, hbw9⟩
 have C10 := gq' C7 hbw9
 have C11 := gq' D6 hbw9
 have hbel12 := hbel8.trans (Below.mono hbw9 hbel8.size)
 clear C7 D6 hbel8 hbw9
 go_wp2_with (first | (refine lm' (pv_y (C10.out) L_lx.out) Tryz.underlying26 (i24 L_ly.out) ?_) | (refine lm' (blk_all (C11.out)) Tryz.underlying26 (i24 L_lp.out) ?_))
 refine (Hc3.out _).mono ?_
 rintro e w13 ⟨rfl, hbw13⟩
 have C14 := gq' C10 hbw13
 have C15 := gq' C11 hbw13
 have hbel16 := hbel12.trans (Below.mono hbw13 hbel12.size)
 clear C10 C11 hbel12 hbw13
 go_wp2_with fail
 as_aux_lemma =>
 refine wp_region_G (fun w_ => True) 17 (by kernel_rfl) trivial ?_
 refine tkp gS0 0 rfl ?_
 try simp only [Act.put, zq]
 refine tkp gS0 1 rfl ?_
 try simp only [Act.put, zq]
 refine tkp gS0 2 rfl ?_
 try simp only [Act.put, zq]
 refine tkp gS0 3 rfl ?_
 try simp only [Act.put, zq]
 refine tkp gS0 4 rfl ?_
 try simp only [Act.put, zq]
 refine tks gS0 5 rfl ?_
 try simp only [Act.put, zq]
 refine tks gS0 6 rfl ?_
 try simp only [Act.put, zq]
 refine tks gS0 7 rfl ?_
 try simp only [Act.put, zq]
 refine tks gS0 8 rfl ?_
 try simp only [Act.put, zq]
 refine tks gS0 9 rfl ?_
 try simp only [Act.put, zq]
 refine tks gS0 10 rfl ?_
 try simp only [Act.put, zq]
 refine tks gS0 11 rfl ?_
 try simp only [Act.put, zq]
 refine tks gS0 12 rfl ?_
 try simp only [Act.put, zq]
 refine tks gS0 13 rfl ?_
 try simp only [Act.put, zq]
 refine tks gS0 14 rfl ?_
 try simp only [Act.put, zq]
 refine tkp gS0 15 rfl ?_
 try simp only [Act.put, zq]
 refine tkp gS0 16 rfl ?_
 try simp only [Act.put, zq]
 refine wpAnyG_done (by kernel_rfl) ?_ _
 intro w17 hgw17
 try simp only [Act.put, zq]
 have E18 := dq' C14 hgw17
 have E19 := dq' C15 hgw17
 have hbel20 := hbel16.drew.trans (Below.mono hgw17 hbel16.drew.size)
 clear C14 C15 hbel16 hgw17
 as_aux_lemma =>
 go_wp2_with fail
 go_ret
 exact ⟨rfl, hbel20⟩
theorem don_c {lx ly lp sy rs : List Nat} (hlx : lx.length = 4) (hly : ly.length = 4) (hlp : lp.length = 4) (hsy : sy.length = 4) (hrs : rs.length = 4)
   (c1 : Ans 54 #[] (.agg (natsV .u64 lp).toArray))
   (c2 : Ans 31 #[.agg (natsV .u64 lx).toArray, .agg (natsV .u64 lp).toArray] (.bool true))
   (c3 : Ans 31 #[.agg (natsV .u64 ly).toArray, .agg (natsV .u64 lp).toArray] (.bool true))
   (c4 : Ans 40 #[.agg (natsV .u64 ly).toArray, .agg (natsV .u64 ly).toArray, .agg (natsV .u64 lp).toArray] (.agg (natsV .u64 sy).toArray))
   (c5 : Ans 57 #[.agg (natsV .u64 lx).toArray] (.agg (natsV .u64 rs).toArray)) (w : World) :
   Calls Tryz.prog 55 #[.agg (pv lx ly false).toArray] w fun e w' => e = .returned (.bool (decide (sy = rs))) ∧ Below w.heap.size w w' := by
 have L_lx := Hd hlx
 have L_ly := Hd hly
 have L_lp := Hd hlp
 have L_sy := Hd hsy
 have L_rs := Hd hrs
 have Hc1 := Hd c1
 have Hc2 := Hd c2
 have Hc3 := Hd c3
 have Hc4 := Hd c4
 have Hc5 := Hd c5
 have QE := Hd (fun w => eql24 sy rs L_sy.out L_rs.out w)
 have B0_ := Hd (Blk.new w  28 (pv lx ly false))
 have bel_ := ((Below.refl w.heap.size w).alloc (Nat.le_refl _) (.cells (pv lx ly false).toArray 28))
 clear hlx hly hlp hsy hrs c1 c2 c3 c4 c5
 go_enter Tryz.func55, Tryz.ntmps55
 have ci := pv_i B0_.out L_lx.out L_ly.out
 go_wp2_with fail
 refine (Hc1.out _).mono ?_
 rintro e w1 ⟨rfl, hbw1⟩
 have C2 := gq' B0_ hbw1
 have hbel3 := bel_.trans (Below.mono hbw1 bel_.size)
 clear B0_ bel_ hbw1
 go_wp2_with (first | (refine stN rfl 26 (.tmp 3) (.tmp 11) rfl w1 rfl (natsV .u64 lp) rfl 26 (natsV .u64 (zeros 4)) (i24 L_lp.out) (lz4 L_lp.out) n1' ?_; intro w4 hgw4 hnw4; have C7 := gq' C2 hgw4; clear C2; have hbel8 := hbel3.trans (Below.mono hgw4 hbel3.size); clear hbel3; have D6 := Hd hnw4; clear hnw4 hgw4; generalize w1.heap.size = G5 at *) | (refine lm' (pv_x (C7.out)) Tryz.underlying26 (i24 L_lx.out) ?_) | (refine lm' (blk_all (D6.out)) Tryz.underlying26 (i24 L_lp.out) ?_))
 refine (Hc2.out _).mono ?_
 rintro e w9 ⟨rfl, hbw9⟩
 have C10 := gq' C7 hbw9
 have C11 := gq' D6 hbw9
 have hbel12 := hbel8.trans (Below.mono hbw9 hbel8.size)
 clear C7 D6 hbel8 hbw9
 go_wp2_with (first | (refine lm' (pv_y (C10.out) L_lx.out) Tryz.underlying26 (i24 L_ly.out) ?_) | (refine lm' (blk_all (C11.out)) Tryz.underlying26 (i24 L_lp.out) ?_))
 refine (Hc3.out _).mono ?_
 rintro e w13 ⟨rfl, hbw13⟩
 have C14 := gq' C10 hbw13
 have C15 := gq' C11 hbw13
 have hbel16 := hbel12.trans (Below.mono hbw13 hbel12.size)
 clear C10 C11 hbel12 hbw13
 go_wp2_with fail
 as_aux_lemma =>
 refine wp_region_G (fun w_ => Blk w_ w.heap.size 28 (pv lx ly false) ∧ Blk w_ G5 26 (natsV .u64 lp)) 17 (by kernel_rfl) ⟨C14.out.drew, C15.out.drew⟩ ?_
 refine tkp gS2 0 rfl ?_
 try simp only [Act.put, zq]
 refine tkp gS2 1 rfl ?_
 try simp only [Act.put, zq]
 refine tkp gS2 2 rfl ?_
 try simp only [Act.put, zq]
 refine tkp gS2 3 rfl ?_
 try simp only [Act.put, zq]
 refine tkp gS2 4 rfl ?_
 try simp only [Act.put, zq]
 refine tkp gS2 5 rfl ?_
 try simp only [Act.put, zq]
 refine tk gS2 6 rfl (lg' (fun _ hS_ => pv_y (hS_.1) L_lx.out) Tryz.underlying26 (i24 L_ly.out)) ?_
 try simp only [Act.put, zq]
 refine tkp gS2 7 rfl ?_
 try simp only [Act.put, zq]
 refine tk gS2 8 rfl (lg' (fun _ hS_ => pv_y (hS_.1) L_lx.out) Tryz.underlying26 (i24 L_ly.out)) ?_
 try simp only [Act.put, zq]
 refine tk gS2 9 rfl (lg' (fun _ hS_ => blk_all (hS_.2)) Tryz.underlying26 (i24 L_lp.out)) ?_
 try simp only [Act.put, zq]
 refine tk gS2 10 rfl (cg' Tryz.func40 (fun w _ => Hc4.out w)) ?_
 try simp only [Act.put, zq]
 refine tkp gS2 11 rfl ?_
 try simp only [Act.put, zq]
 refine tk gS2 12 rfl (lg' (fun _ hS_ => pv_x (hS_.1)) Tryz.underlying26 (i24 L_lx.out)) ?_
 try simp only [Act.put, zq]
 refine tk gS2 13 rfl (cg' Tryz.func57 (fun w _ => Hc5.out w)) ?_
 try simp only [Act.put, zq]
 refine tk gS2 14 rfl (pureG (by rfl) (by intro w; have q := QE.out; go_simp; first | done | with_reducible rfl)) ?_
 try simp only [Act.put, zq]
 refine tkp gS2 15 rfl ?_
 try simp only [Act.put, zq]
 refine tkp gS2 16 rfl ?_
 try simp only [Act.put, zq]
 refine wpAnyG_done (by kernel_rfl) ?_ _
 intro w17 hgw17
 try simp only [Act.put, zq]
 have E18 := dq' C14 hgw17
 have E19 := dq' C15 hgw17
 have hbel20 := hbel16.drew.trans (Below.mono hgw17 hbel16.drew.size)
 clear C14 C15 hbel16 hgw17
 as_aux_lemma =>
 go_wp2_with fail
 go_ret
 exact ⟨rfl, hbel20⟩
theorem dadd_a {lx ly mx my lp : List Nat} {iq : Bool} (hlx : lx.length = 4) (hly : ly.length = 4) (hmx : mx.length = 4) (hmy : my.length = 4) (hlp : lp.length = 4)
   (c1 : Ans 54 #[] (.agg (natsV .u64 lp).toArray)) (w : World) :
   Calls Tryz.prog 41 #[.agg (pv lx ly true).toArray, .agg (pv mx my iq).toArray] w fun e w' => e = .returned (.agg (pv mx my iq).toArray) ∧ Below w.heap.size w w' := by
 have L_lx := Hd hlx
 have L_ly := Hd hly
 have L_mx := Hd hmx
 have L_my := Hd hmy
 have L_lp := Hd hlp
 have Hc1 := Hd c1
 have B0_ := Hd (((Blk.new w  28 (pv lx ly true)).alloc (.cells (pv mx my iq).toArray 28)).alloc (.cells (pv (zeros 4) (zeros 4) false).toArray 28))
 have B1_ := Hd ((Blk.new2 w (.cells (pv lx ly true).toArray 28) 28 (pv mx my iq)).alloc (.cells (pv (zeros 4) (zeros 4) false).toArray 28))
 have B2_ := Hd (Blk.new3 w (.cells (pv lx ly true).toArray 28) (.cells (pv mx my iq).toArray 28) 28 (pv (zeros 4) (zeros 4) false))
 clear hlx hly hmx hmy hlp c1
 have bel_ := ((((Below.refl w.heap.size w).alloc (Nat.le_refl _) (.cells (pv lx ly true).toArray 28)).alloc (by simp) (.cells (pv mx my iq).toArray 28)).alloc (by simp; omega) (.cells (pv (zeros 4) (zeros 4) false).toArray 28))
 go_enter Tryz.func41, Tryz.ntmps41
 go_wp2_with fail
 refine (Hc1.out _).mono ?_
 rintro e w1 ⟨rfl, hbw1⟩
 have C2 := gq' B0_ hbw1
 have C3 := gq' B1_ hbw1
 have C4 := gq' B2_ hbw1
 have hbel5 := bel_.trans (Below.mono hbw1 bel_.size)
 clear B0_ B1_ B2_ bel_ hbw1
 go_wp2_with (first | (refine stN rfl 26 (.tmp 5) (.tmp 12) rfl w1 rfl (natsV .u64 lp) rfl 26 (natsV .u64 (zeros 4)) (i24 L_lp.out) (lz4 L_lp.out) n1' ?_; intro w6 hgw6 hnw6; have C9 := gq' C2 hgw6; clear C2; have C10 := gq' C3 hgw6; clear C3; have C11 := gq' C4 hgw6; clear C4; have hbel12 := hbel5.trans (Below.mono hgw6 hbel5.size); clear hbel5; have D8 := Hd hnw6; clear hnw6 hgw6; generalize w1.heap.size = G7 at *; have ci13 := pv_i C9.out L_lx.out L_ly.out; have ci14 := pv_i C10.out L_mx.out L_my.out) | (refine lm' (blk_all (C10.out)) Tryz.underlying28 (i43 L_mx.out L_my.out) ?_) | (refine stB rfl 28 (.tmp 4) (.tmp 15) rfl (w.heap.size + 1 + 1) rfl (pv mx my iq) rfl 28 (pv (zeros 4) (zeros 4) false) C11.out (i43 L_mx.out L_my.out) (lenEq pz9 (pv_len L_mx.out L_my.out)) p1_ ?_))
 refine bodyPost_ret (v := .agg (pv mx my iq).toArray) ?_ rfl ⟨rfl, below_setRow' hbel12 (by first | exact Nat.le_refl _ | omega) _⟩
 exact results_cell_row Tryz.results41 _ _ (w.heap.size + 1 + 1) 28 _ (0, 0) _ rfl (C11.out.setRow _) Tryz.underlying28 rfl (by simpa using (i43 L_mx.out L_my.out))
theorem dadd_b {lx ly mx my lp : List Nat} (hlx : lx.length = 4) (hly : ly.length = 4) (hmx : mx.length = 4) (hmy : my.length = 4) (hlp : lp.length = 4)
   (c1 : Ans 54 #[] (.agg (natsV .u64 lp).toArray)) (w : World) :
   Calls Tryz.prog 41 #[.agg (pv lx ly false).toArray, .agg (pv mx my true).toArray] w fun e w' => e = .returned (.agg (pv lx ly false).toArray) ∧ Below w.heap.size w w' := by
 have L_lx := Hd hlx
 have L_ly := Hd hly
 have L_mx := Hd hmx
 have L_my := Hd hmy
 have L_lp := Hd hlp
 have Hc1 := Hd c1
 have B0_ := Hd (((Blk.new w  28 (pv lx ly false)).alloc (.cells (pv mx my true).toArray 28)).alloc (.cells (pv (zeros 4) (zeros 4) false).toArray 28))
 have B1_ := Hd ((Blk.new2 w (.cells (pv lx ly false).toArray 28) 28 (pv mx my true)).alloc (.cells (pv (zeros 4) (zeros 4) false).toArray 28))
 have B2_ := Hd (Blk.new3 w (.cells (pv lx ly false).toArray 28) (.cells (pv mx my true).toArray 28) 28 (pv (zeros 4) (zeros 4) false))
 clear hlx hly hmx hmy hlp c1
 have bel_ := ((((Below.refl w.heap.size w).alloc (Nat.le_refl _) (.cells (pv lx ly false).toArray 28)).alloc (by simp) (.cells (pv mx my true).toArray 28)).alloc (by simp; omega) (.cells (pv (zeros 4) (zeros 4) false).toArray 28))
 go_enter Tryz.func41, Tryz.ntmps41
 go_wp2_with fail
 refine (Hc1.out _).mono ?_
 rintro e w1 ⟨rfl, hbw1⟩
 have C2 := gq' B0_ hbw1
 have C3 := gq' B1_ hbw1
 have C4 := gq' B2_ hbw1
 have hbel5 := bel_.trans (Below.mono hbw1 bel_.size)
 clear B0_ B1_ B2_ bel_ hbw1
 go_wp2_with (first | (refine stN rfl 26 (.tmp 5) (.tmp 12) rfl w1 rfl (natsV .u64 lp) rfl 26 (natsV .u64 (zeros 4)) (i24 L_lp.out) (lz4 L_lp.out) n1' ?_; intro w6 hgw6 hnw6; have C9 := gq' C2 hgw6; clear C2; have C10 := gq' C3 hgw6; clear C3; have C11 := gq' C4 hgw6; clear C4; have hbel12 := hbel5.trans (Below.mono hgw6 hbel5.size); clear hbel5; have D8 := Hd hnw6; clear hnw6 hgw6; generalize w1.heap.size = G7 at *; have ci13 := pv_i C9.out L_lx.out L_ly.out; have ci14 := pv_i C10.out L_mx.out L_my.out) | (refine lm' (blk_all (C9.out)) Tryz.underlying28 (i43 L_lx.out L_ly.out) ?_) | (refine stB rfl 28 (.tmp 4) (.tmp 18) rfl (w.heap.size + 1 + 1) rfl (pv lx ly false) rfl 28 (pv (zeros 4) (zeros 4) false) C11.out (i43 L_lx.out L_ly.out) (lenEq pz9 (pv_len L_lx.out L_ly.out)) p1_ ?_))
 refine bodyPost_ret (v := .agg (pv lx ly false).toArray) ?_ rfl ⟨rfl, below_setRow' hbel12 (by first | exact Nat.le_refl _ | omega) _⟩
 exact results_cell_row Tryz.results41 _ _ (w.heap.size + 1 + 1) 28 _ (0, 0) _ rfl (C11.out.setRow _) Tryz.underlying28 rfl (by simpa using (i43 L_lx.out L_ly.out))
theorem dadd_c {lx ly my lp sy : List Nat} (hlx : lx.length = 4) (hly : ly.length = 4) (hmy : my.length = 4) (hlp : lp.length = 4) (hsy : sy.length = 4)
   (c1 : Ans 54 #[] (.agg (natsV .u64 lp).toArray))
   (c2 : Ans 45 #[.agg (natsV .u64 ly).toArray, .agg (natsV .u64 my).toArray, .agg (natsV .u64 lp).toArray] (.agg (natsV .u64 sy).toArray)) (h4 : sy = zeros 4) (w : World) :
   Calls Tryz.prog 41 #[.agg (pv lx ly false).toArray, .agg (pv lx my false).toArray] w fun e w' => e = .returned (.agg (pv (zeros 4) (zeros 4) true).toArray) ∧ Below w.heap.size w w' := by
 have L_lx := Hd hlx
 have L_ly := Hd hly
 have L_my := Hd hmy
 have L_lp := Hd hlp
 have L_sy := Hd hsy
 have Hc1 := Hd c1
 have Hc2 := Hd c2
 have Q3 := Hd (fun w => (eql24 lx lx L_lx.out L_lx.out w).trans (by rw [decide_eq_true rfl]))
 have Q4 := Hd (fun w => (eqZ24 sy L_sy.out w).trans (by rw [decide_eq_true h4]))
 have B0_ := Hd (((Blk.new w  28 (pv lx ly false)).alloc (.cells (pv lx my false).toArray 28)).alloc (.cells (pv (zeros 4) (zeros 4) false).toArray 28))
 have B1_ := Hd ((Blk.new2 w (.cells (pv lx ly false).toArray 28) 28 (pv lx my false)).alloc (.cells (pv (zeros 4) (zeros 4) false).toArray 28))
 have B2_ := Hd (Blk.new3 w (.cells (pv lx ly false).toArray 28) (.cells (pv lx my false).toArray 28) 28 (pv (zeros 4) (zeros 4) false))
 clear hlx hly hmy hlp hsy c1 c2 h4
 have bel_ := ((((Below.refl w.heap.size w).alloc (Nat.le_refl _) (.cells (pv lx ly false).toArray 28)).alloc (by simp) (.cells (pv lx my false).toArray 28)).alloc (by simp; omega) (.cells (pv (zeros 4) (zeros 4) false).toArray 28))
 go_enter Tryz.func41, Tryz.ntmps41
 have qf3 := Q3.out
 have qf4 := Q4.out
 go_wp2_with fail
 refine (Hc1.out _).mono ?_
 rintro e w1 ⟨rfl, hbw1⟩
 have C2 := gq' B0_ hbw1
 have C3 := gq' B1_ hbw1
 have C4 := gq' B2_ hbw1
 have hbel5 := bel_.trans (Below.mono hbw1 bel_.size)
 clear B0_ B1_ B2_ bel_ hbw1
 go_wp2_with (first | (refine stN rfl 26 (.tmp 5) (.tmp 12) rfl w1 rfl (natsV .u64 lp) rfl 26 (natsV .u64 (zeros 4)) (i24 L_lp.out) (lz4 L_lp.out) n1' ?_; intro w6 hgw6 hnw6; have C9 := gq' C2 hgw6; clear C2; have C10 := gq' C3 hgw6; clear C3; have C11 := gq' C4 hgw6; clear C4; have hbel12 := hbel5.trans (Below.mono hgw6 hbel5.size); clear hbel5; have D8 := Hd hnw6; clear hnw6 hgw6; generalize w1.heap.size = G7 at *; have ci13 := pv_i C9.out L_lx.out L_ly.out; have ci14 := pv_i C10.out L_lx.out L_my.out) | (refine lm' (pv_x (C9.out)) Tryz.underlying26 (i24 L_lx.out) ?_) | (refine lm' (pv_x (C10.out)) Tryz.underlying26 (i24 L_lx.out) ?_) | (refine ldwM 26 (.tmp 25) rfl w.heap.size 4 rfl (natsV .u64 ly) _ (pv_y (C9.out) L_lx.out) Tryz.underlying26 rfl (i24 L_ly.out) 5 true rfl 24 rfl rfl ?_) | (refine ldwM 26 (.tmp 27) rfl (w.heap.size + 1) 4 rfl (natsV .u64 my) _ (pv_y (C10.out) L_lx.out) Tryz.underlying26 rfl (i24 L_my.out) 5 true rfl 24 rfl rfl ?_) | (refine ldwM 26 (.tmp 5) rfl G7 0 rfl (natsV .u64 lp) _ (blk_all (D8.out)) Tryz.underlying26 rfl (i24 L_lp.out) 5 true rfl 24 rfl rfl ?_))
 refine (Hc2.out _).mono ?_
 rintro e w15 ⟨rfl, hbw15⟩
 have C16 := gq' C9 hbw15
 have C17 := gq' C10 hbw15
 have C18 := gq' C11 hbw15
 have C19 := gq' D8 hbw15
 have hbel20 := hbel12.trans (Below.mono hbw15 hbel12.size)
 clear C9 C10 C11 D8 hbel12 hbw15
 go_wp2_with (first | (refine stB rfl 28 (.tmp 4) (.tmp 34) rfl (w.heap.size + 1 + 1) rfl (pv (zeros 4) (zeros 4) true) rfl 28 (pv (zeros 4) (zeros 4) false) C18.out (i43 rfl rfl) (lenEq pz9 (show (pv (zeros 4) (zeros 4) true).length = 9 from rfl)) p1_ ?_))
 refine bodyPost_ret (v := .agg (pv (zeros 4) (zeros 4) true).toArray) ?_ rfl ⟨rfl, below_setRow' hbel20 (by first | exact Nat.le_refl _ | omega) _⟩
 exact results_cell_row Tryz.results41 _ _ (w.heap.size + 1 + 1) 28 _ (0, 0) _ rfl (C18.out.setRow _) Tryz.underlying28 rfl (by simpa using (i43 rfl rfl))
end Go.Proofs.YtdkkombpkojjaaaGreat
