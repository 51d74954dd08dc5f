/- Parts of proofs of statements, each text behind those that it stands on. No condition of its own. -/
import Derived.Test.YtdkkombpkojjaaaGreatC35
import Derived.Test.YtdkkombpkojjaaaGreatC36
import Derived.Test.YtdkkombpkojjaaaGreatC37
import Derived.Test.YtdkkombpkojjaaaGreatC38
namespace Go.Proofs.YtdkkombpkojjaaaGreat
set_option maxRecDepth 100000
set_option maxHeartbeats 6400000
open Go.RowKit
set_option linter.unusedVariables false
set_option linter.unusedSimpArgs false
theorem dmul_aff_aff {lu lx ly lp iv nx ny : List Nat} {X Y Z DX DY DZ : Nat → List Nat} {u : Nat} (hlu : lu.length = 4) (hlx : lx.length = 4) (hly : ly.length = 4) (hlp : lp.length = 4) (hiv : iv.length = 4) (hnx : nx.length = 4) (hny : ny.length = 4) (hFX : ∀ t, (X t).length = 4) (hFY : ∀ t, (Y t).length = 4) (hFZ : ∀ t, (Z t).length = 4) (hFDX : ∀ t, (DX t).length = 4) (hFDY : ∀ t, (DY t).length = 4) (hFDZ : ∀ t, (DZ t).length = 4)
   (hlu_ : lu = wds 4 u) (hX : X 256 = zeros 4) (hY : Y 256 = zeros 4) (hZ : Z 256 = zeros 4)
   (cd : ∀ t, t < 256 → ∀ w, Calls Tryz.prog 73 #[.agg (tv (X (t + 1)) (Y (t + 1)) (Z (t + 1))).toArray, .agg (tv (X (t + 1)) (Y (t + 1)) (Z (t + 1))).toArray] w fun e w' => e = .returned (.agg (tv (DX t) (DY t) (DZ t)).toArray) ∧ Below w.heap.size w w')
   (c0 : ∀ t, t < 256 → u / 2 ^ t % 2 = 0 → X t = DX t ∧ Y t = DY t ∧ Z t = DZ t)
   (cp : ∀ t, t < 256 → u / 2 ^ t % 2 = 1 → ∀ w, Calls Tryz.prog 73 #[.agg (tv (DX t) (DY t) (DZ t)).toArray, .agg (tv lx ly (wds 4 1)).toArray] w fun e w' => e = .returned (.agg (tv (X t) (Y t) (Z t)).toArray) ∧ Below w.heap.size w w')
   (hz : ¬ Z 0 = zeros 4) (c1 : Ans 54 #[] (.agg (natsV .u64 lp).toArray)) (c2 : Ans 39 #[.agg (natsV .u64 (Z 0)).toArray, .agg (natsV .u64 lp).toArray] (.agg (natsV .u64 iv).toArray)) (c3 : Ans 74 #[.agg (natsV .u64 (X 0)).toArray, .agg (natsV .u64 iv).toArray] (.agg (natsV .u64 nx).toArray)) (c4 : Ans 74 #[.agg (natsV .u64 (Y 0)).toArray, .agg (natsV .u64 iv).toArray] (.agg (natsV .u64 ny).toArray))
   (w : World) :
   Calls Tryz.prog 42 #[.agg (natsV .u64 lu).toArray, .agg (pv lx ly false).toArray] w fun e w' => e = .returned (.agg (pv nx ny false).toArray) ∧ Below w.heap.size w w' := by
 have L_lu := Hd hlu
 have L_lx := Hd hlx
 have L_ly := Hd hly
 have L_lp := Hd hlp
 have L_iv := Hd hiv
 have L_nx := Hd hnx
 have L_ny := Hd hny
 have LF_X := Hd hFX
 have LF_Y := Hd hFY
 have LF_Z := Hd hFZ
 have LF_DX := Hd hFDX
 have LF_DY := Hd hFDY
 have LF_DZ := Hd hFDZ
 have Hcd := Hd cd
 have Hc0 := Hd c0
 have Hcp := Hd cp
 have HhX := Hd hX
 have HhY := Hd hY
 have HhZ := Hd hZ
 have Hhlu_ := Hd hlu_
 have Hc1 := Hd c1
 have Hc2 := Hd c2
 have Hc3 := Hd c3
 have Hc4 := Hd c4
 have QZ := Hd (fun w => (eqZ24 (Z 0) (LF_Z.out 0) w).trans (by rw [decide_eq_false hz]))
 have B0_ := Hd ((((Blk.new w  26 (natsV .u64 lu)).alloc (.cells (pv lx ly false).toArray 28)).alloc (.cells (pv (zeros 4) (zeros 4) false).toArray 28)).alloc (.cells (tv (zeros 4) (zeros 4) (zeros 4)).toArray 97))
 have B1_ := Hd (((Blk.new2 w (.cells (natsV .u64 lu).toArray 26) 28 (pv lx ly false)).alloc (.cells (pv (zeros 4) (zeros 4) false).toArray 28)).alloc (.cells (tv (zeros 4) (zeros 4) (zeros 4)).toArray 97))
 have B2_ := Hd ((Blk.new3 w (.cells (natsV .u64 lu).toArray 26) (.cells (pv lx ly false).toArray 28) 28 (pv (zeros 4) (zeros 4) false)).alloc (.cells (tv (zeros 4) (zeros 4) (zeros 4)).toArray 97))
 have B3_ := Hd (Blk.new4 w (.cells (natsV .u64 lu).toArray 26) (.cells (pv lx ly false).toArray 28) (.cells (pv (zeros 4) (zeros 4) false).toArray 28) 97 (tv (zeros 4) (zeros 4) (zeros 4)))
 clear hlu hlx hly hlp hiv hnx hny hFX hFY hFZ hFDX hFDY hFDZ cd c0 cp hX hY hZ hlu_ c1 c2 c3 c4 hz
 have bel_ := (((((Below.refl w.heap.size w).alloc (Nat.le_refl _) (.cells (natsV .u64 lu).toArray 26)).alloc (by simp) (.cells (pv lx ly false).toArray 28)).alloc (by simp; omega) (.cells (pv (zeros 4) (zeros 4) false).toArray 28)).alloc (by simp; omega) (.cells (tv (zeros 4) (zeros 4) (zeros 4)).toArray 97))
 go_enter Tryz.func42, Tryz.ntmps42
 have ci := pv_i B1_.out L_lx.out L_ly.out
 go_upto_region 2 with (fail)
 try simp only [Act.put, zq]
 as_aux_lemma =>
 refine wp_region_P (fun w_ => Blk w_ (w.heap.size + 1) 28 (pv lx ly false)) 7 (by kernel_rfl) B1_.out ?_
 refine tkp gS1 0 rfl ?_
 try simp only [Act.put, zq]
 refine tk gS1 1 rfl (lg' (fun _ hS_ => pv_x (hS_)) Tryz.underlying26 (i24 L_lx.out)) ?_
 try simp only [Act.put, zq]
 refine tkp gS1 2 rfl ?_
 try simp only [Act.put, zq]
 refine tk gS1 3 rfl (lg' (fun _ hS_ => pv_y (hS_) L_lx.out) Tryz.underlying26 (i24 L_ly.out)) ?_
 try simp only [Act.put, zq]
 refine tkp gS1 4 rfl ?_
 try simp only [Act.put, zq]
 refine tk gS1 5 rfl (buildG (by rfl) _ _ rfl _ (bu108 L_lx.out L_ly.out) (by simp [Act.eval])) ?_
 try simp only [Act.put, zq]
 refine wpAnyG_def (i := 6) (j := 7) gS1 (by kernel_rfl) (by kernel_rfl) (by kernel_rfl) rfl rfl rfl (allocG (by rfl) rfl _ alloc108) (lenEq (show (natsV .u64 (zeros 12)).length = 12 from rfl) (tv_len L_lx.out L_ly.out (wds_len 4 1))) (fun _ => StoresG.mk (cs := (tv lx ly (wds 4 1))) (by rfl) 97 _ _ rfl rfl rfl (i108 L_lx.out L_ly.out (wds_len 4 1)) (tv_one _ _ _)) ?_
 intro w1 G2 hgw1 hz_ hn_
 try simp only [Act.put, zq]
 have NE3 := Hd (Nat.ne_of_lt (Nat.lt_of_lt_of_le B0_.out.lt hz_))
 have NE4 := Hd (Nat.ne_of_lt (Nat.lt_of_lt_of_le B1_.out.lt hz_))
 have NE5 := Hd (Nat.ne_of_lt (Nat.lt_of_lt_of_le B2_.out.lt hz_))
 have NE6 := Hd (Nat.ne_of_lt (Nat.lt_of_lt_of_le B3_.out.lt hz_))
 have GE7 := Hd (Nat.le_trans bel_.size hz_)
 have C8 := gq' B0_ hgw1
 have C9 := gq' B1_ hgw1
 have C10 := gq' B2_ hgw1
 have C11 := gq' B3_ hgw1
 have hbel12 := bel_.trans (Below.mono hgw1 bel_.size)
 have D13 := Hd hn_
 clear B0_ B1_ B2_ B3_ bel_ hn_ hz_ hgw1
 as_aux_lemma =>
 have cj := pv_i C9.out L_lx.out L_ly.out
 go_wp2_with fail
 go_loopw [7] (fun i wr => ∃ n : Nat, n ≤ 4 ∧ i = .int .i64 ((n : Int) - 1) ∧ Blk wr w.heap.size 26 (natsV .u64 lu) ∧ Blk wr (w.heap.size + 1) 28 (pv lx ly false) ∧ Blk wr (w.heap.size + 1 + 1) 28 (pv (zeros 4) (zeros 4) false) ∧ Blk wr (w.heap.size + 1 + 1 + 1) 97 (tv (X (64 * n)) (Y (64 * n)) (Z (64 * n))) ∧ Blk wr G2 97 (tv lx ly (wds 4 1)) ∧ Below w.heap.size w wr) (fun i _ => (intOf i + 1).toNat)
 case atStart => exact ⟨4, by omega, rfl, C8.out, C9.out, C10.out, by rw [show 64 * 4 = 256 from rfl, HhX.out, HhY.out, HhZ.out]; exact C11.out, D13.out, hbel12⟩
 case round =>
   clear C8 C9 C10 C11 D13 hbel12
   obtain ⟨n, hn, rfl, ku_, kp_, kr4_, kv5_, kv6_, hbel⟩ := hrel
   have Ku := Hd ku_
   have Kp := Hd kp_
   have Kr4 := Hd kr4_
   have Kv5 := Hd kv5_
   have Kv6 := Hd kv6_
   clear ku_ kp_ kr4_ kv5_ kv6_
   rcases n with _ | n
   · as_aux_lemma =>
     rw [show ((0 : Nat) : Int) - 1 = -1 from rfl]
     rw [show 64 * 0 = 0 from rfl] at Kv5
     have qz := QZ.out
     go_wp2_with (first | (refine lm' (tv_z (Kv5.out) (LF_X.out 0) (LF_Y.out 0)) Tryz.underlying26 (i24 (LF_Z.out 0)) ?_))
     as_aux_lemma =>
     refine wp_region_G (fun w_ => Blk w_ (w.heap.size + 1 + 1 + 1) 97 (tv (X 0) (Y 0) (Z 0))) 5 (by kernel_rfl) Kv5.out.drew ?_
     refine tkp gS1 0 rfl ?_
     try simp only [Act.put, zq]
     refine tk gS1 1 rfl (lg' (fun _ hS_ => tv_z (hS_) (LF_X.out 0) (LF_Y.out 0)) Tryz.underlying26 (i24 (LF_Z.out 0))) ?_
     try simp only [Act.put, zq]
     refine tk gS1 2 rfl (cg' Tryz.func54 (fun w _ => Hc1.out w)) ?_
     try simp only [Act.put, zq]
     refine tk gS1 3 rfl (cg' Tryz.func39 (fun w _ => Hc2.out w)) ?_
     try simp only [Act.put, zq]
     refine wpAnyG_def (i := 4) (j := 5) gS1 (by kernel_rfl) (by kernel_rfl) (by kernel_rfl) rfl rfl rfl (allocG (by rfl) rfl _ alloc24) (lz4 L_iv.out) (fun _ => StoresG.mk (cs := (natsV .u64 iv)) (by rfl) 26 _ _ rfl rfl rfl (i24 L_iv.out) n1') ?_
     intro w14 G15 hgw14 hz_ hn_
     try simp only [Act.put, zq]
     have NE16 := Hd (Nat.ne_of_lt (Nat.lt_of_lt_of_le Kv5.out.drew.lt hz_))
     have NE17 := Hd (Nat.ne_of_lt (Nat.lt_of_lt_of_le Kv6.out.drew.lt hz_))
     have E18 := Hd (Ku.out.drew.gr hgw14)
     have E19 := Hd (Kp.out.drew.gr hgw14)
     have E20 := Hd (Kr4.out.drew.gr hgw14)
     have E21 := Hd (Kv5.out.drew.gr hgw14)
     have E22 := Hd (Kv6.out.drew.gr hgw14)
     have hbel23 := hbel.drew.trans (Below.mono hgw14 hbel.drew.size)
     have D24 := Hd hn_
     clear Ku Kp Kr4 Kv5 Kv6 hbel hn_ hz_ hgw14
     as_aux_lemma =>
     go_wp2_with fail
     as_aux_lemma =>
     refine wp_region_G (fun w_ => Blk w_ (w.heap.size + 1 + 1 + 1) 97 (tv (X 0) (Y 0) (Z 0)) ∧ Blk w_ G15 26 (natsV .u64 iv)) 9 (by kernel_rfl) ⟨E21.out.drew, D24.out.drew⟩ ?_
     refine tkp gS2 0 rfl ?_
     try simp only [Act.put, zq]
     refine tk gS2 1 rfl (lg' (fun _ hS_ => tv_x (hS_.1)) Tryz.underlying26 (i24 (LF_X.out 0))) ?_
     try simp only [Act.put, zq]
     refine tk gS2 2 rfl (lg' (fun _ hS_ => blk_all (hS_.2)) Tryz.underlying26 (i24 L_iv.out)) ?_
     try simp only [Act.put, zq]
     refine tk gS2 3 rfl (cg' Tryz.func74 (fun w _ => Hc3.out w)) ?_
     try simp only [Act.put, zq]
     refine tkp gS2 4 rfl ?_
     try simp only [Act.put, zq]
     refine tk gS2 5 rfl (lg' (fun _ hS_ => tv_y (hS_.1) (LF_X.out 0)) Tryz.underlying26 (i24 (LF_Y.out 0))) ?_
     try simp only [Act.put, zq]
     refine tk gS2 6 rfl (lg' (fun _ hS_ => blk_all (hS_.2)) Tryz.underlying26 (i24 L_iv.out)) ?_
     try simp only [Act.put, zq]
     refine tk gS2 7 rfl (cg' Tryz.func74 (fun w _ => Hc4.out w)) ?_
     try simp only [Act.put, zq]
     refine tk gS2 8 rfl (buildG (by rfl) _ _ rfl _ (built43 L_nx.out L_ny.out) (by simp [Act.eval])) ?_
     try simp only [Act.put, zq]
     refine wpAnyG_set (i := 9) (by kernel_rfl) (by kernel_rfl) rfl rfl E20.out.drew (lenEq pz9 (pv_len L_nx.out L_ny.out)) (StoresG.mk (cs := (pv nx ny false)) (by rfl) 28 _ _ rfl rfl rfl (i43 L_nx.out L_ny.out) p1_) ?_
     intro w25 hgw25 hn_
     try simp only [Act.put, zq]
     have hbel26 := belStore hbel23.drew hgw25 (show w.heap.size ≤ (w.heap.size + 1 + 1) by omega)
     have D27 := Hd hn_
     go_wp2_with fail
     refine bodyPost_ret (v := .agg (pv nx ny false).toArray) ?_ rfl ⟨rfl, hbel26⟩
     exact results_cell_row Tryz.results42 _ _ (w.heap.size + 1 + 1) 28 _ (0, 0) _ rfl D27.out Tryz.underlying28 rfl (by simpa using (i43 L_nx.out L_ny.out))
   · rw [show ((n + 1 : Nat) : Int) - 1 = (n : Int) by omega]
     have hn4 : n < 4 := by omega
     have hnn : (0 : Int) ≤ (n : Int) := by omega
     have hni : (n : Int) < 4 := by omega
     go_wp2_with fail
     go_loopw [8] (fun bb wr => ∃ j : Nat, j ≤ 64 ∧ bb = .int .u64 ((2 ^ j / 2 : Nat) : Int) ∧ Blk wr w.heap.size 26 (natsV .u64 lu) ∧ Blk wr (w.heap.size + 1) 28 (pv lx ly false) ∧ Blk wr (w.heap.size + 1 + 1) 28 (pv (zeros 4) (zeros 4) false) ∧ Blk wr (w.heap.size + 1 + 1 + 1) 97 (tv (X (64 * n + j)) (Y (64 * n + j)) (Z (64 * n + j))) ∧ Blk wr G2 97 (tv lx ly (wds 4 1)) ∧ Below w.heap.size w wr) (fun bb _ => (intOf bb).toNat)
     case atStart => exact ⟨64, by omega, by first | rfl | decide, Ku.out, Kp.out, Kr4.out, by rw [show 64 * n + 64 = 64 * (n + 1) by omega]; exact Kv5.out, Kv6.out, hbel⟩
     case round =>
       clear Ku Kp Kr4 Kv5 Kv6 hbel
       obtain ⟨j, hj, rfl, ku_, kp_, kr4_, kv5_, kv6_, hbel⟩ := hrel
       have Ku := Hd ku_
       have Kp := Hd kp_
       have Kr4 := Hd kr4_
       have Kv5 := Hd kv5_
       have Kv6 := Hd kv6_
       clear ku_ kp_ kr4_ kv5_ kv6_
       rcases j with _ | j
       · as_aux_lemma =>
         rw [show ((2 ^ 0 / 2 : Nat) : Int) = 0 from rfl]
         go_wp2_with fail
         go_roundw
         case rel => exact ⟨n, by omega, by go_num, Ku.out, Kp.out, Kr4.out, Kv5.out, Kv6.out, hbel⟩
         case measure => simp [intOf] <;> omega
       · as_aux_lemma =>
         have hj64 : j < 64 := by omega
         have hp : 2 ^ (j + 1) / 2 = 2 ^ j := by rw [Nat.pow_succ, Nat.mul_div_cancel _ (by decide)]
         rw [hp]
         have hpl : 2 ^ j < 2 ^ 64 := Nat.pow_lt_pow_right (by decide) hj64
         have hpp : 0 < 2 ^ j := Nat.two_pow_pos j
         have hd := dgt_lt (B := 2 ^ 64) (by decide) u n
         have hand := and_pow (dgt (2 ^ 64) u n) j hd hj64
         rw [word_bit u n j hj64] at hand
         have AEn : lu.getD n 0 = dgt (2 ^ 64) u n := by rw [Hhlu_.out]; exact wds_at 4 u n hn4
         have hlul := L_lu.out
         obtain ⟨q, hq⟩ : ∃ q, q = 64 * n + j := ⟨_, rfl⟩
         have hq256 : q < 256 := by omega
         have HD := Hd (Hcd.out q hq256)
         have HP1 := Hd (Hcp.out q hq256)
         have HP0 := Hd (Hc0.out q hq256)
         rw [← hq] at hand
         rw [show 64 * n + (j + 1) = q + 1 by omega] at Kv5
         have HQ := Hd hq
         clear hq
         have hbit : u / 2 ^ q % 2 = 0 ∨ u / 2 ^ q % 2 = 1 := Nat.mod_two_eq_zero_or_one _
         have hhalf : ((2 ^ j : Nat) : Int) / 2 = ((2 ^ j / 2 : Nat) : Int) := rfl
         have hwh : IntKind.u64.wrap ((2 ^ j / 2 : Nat) : Int) = ((2 ^ j / 2 : Nat) : Int) := u64_in _ (Nat.lt_of_le_of_lt (Nat.div_le_self _ _) hpl)
         have hdlt : 2 ^ j / 2 < 2 ^ j := Nat.div_lt_self hpp (by decide)
         generalize u / 2 ^ q % 2 = bt at *
         generalize dgt (2 ^ 64) u n = d at *
         obtain ⟨hf, hhf⟩ : ∃ z, z = 2 ^ j / 2 := ⟨_, rfl⟩
         rw [← hhf] at hhalf hwh hdlt
         have HHF := Hd hhf
         clear hhf
         obtain ⟨pp, hp2⟩ : ∃ p, p = 2 ^ j := ⟨_, rfl⟩
         rw [← hp2] at hpl hpp hand hhalf hdlt ⊢
         clear hp2 hp
         have hpz : (0 : Int) < (pp : Int) := by omega
         rcases hbit with rfl | rfl
         · have hz0 : 0 * pp = 0 := Nat.zero_mul pp
           rw [hz0] at hand
           go_wp2_with (first | (refine lm' (blk_all (Kv5.out)) Tryz.underlying97 (i108 (LF_X.out (q + 1)) (LF_Y.out (q + 1)) (LF_Z.out (q + 1))) ?_) | (refine lm' (blk_all (Kv5.out)) Tryz.underlying97 (i108 (LF_X.out (q + 1)) (LF_Y.out (q + 1)) (LF_Z.out (q + 1))) ?_))
           refine (HD.out _).mono ?_
           rintro e w28 ⟨rfl, hbw28⟩
           have C29 := Hd (Ku.out.gr hbw28)
           have C30 := Hd (Kp.out.gr hbw28)
           have C31 := Hd (Kr4.out.gr hbw28)
           have C32 := Hd (Kv5.out.gr hbw28)
           have C33 := Hd (Kv6.out.gr hbw28)
           have hbel34 := hbel.trans (Below.mono hbw28 hbel.size)
           clear Ku Kp Kr4 Kv5 Kv6 hbel hbw28
           go_wp2_with (first | (refine stB rfl 97 (.tmp 5) (.tmp 29) rfl (w.heap.size + 1 + 1 + 1) rfl (tv (DX q) (DY q) (DZ q)) rfl 97 (tv (X (q + 1)) (Y (q + 1)) (Z (q + 1))) C32.out (i108 (LF_DX.out q) (LF_DY.out q) (LF_DZ.out q)) (lenEq (tv_len (LF_X.out (q + 1)) (LF_Y.out (q + 1)) (LF_Z.out (q + 1))) (tv_len (LF_DX.out q) (LF_DY.out q) (LF_DZ.out q))) (tv_one _ _ _) ?_; generalize hW : World.setRow _ _ _ = w35; obtain ⟨hgw35, hnw35⟩ := setfacts hW C32.out; clear hW; have E36 := Hd (C29.out.grown hgw35 (fun e => (show w.heap.size ≠ (w.heap.size + 1 + 1 + 1) by omega) (Option.some.inj e))); clear C29; have E37 := Hd (C30.out.grown hgw35 (fun e => (show (w.heap.size + 1) ≠ (w.heap.size + 1 + 1 + 1) by omega) (Option.some.inj e))); clear C30; have E38 := Hd (C31.out.grown hgw35 (fun e => (show (w.heap.size + 1 + 1) ≠ (w.heap.size + 1 + 1 + 1) by omega) (Option.some.inj e))); clear C31; have E39 := Hd (C33.out.grown hgw35 (fun e => (Ne.symm NE6.out) (Option.some.inj e))); clear C33; have D40 := Hd hnw35; clear hnw35 C32; have hbel41 := belStore hbel34 hgw35 (show w.heap.size ≤ (w.heap.size + 1 + 1 + 1) by omega); clear hgw35; clear hbel34; have c0 := E36.out.nat n (by rw [hlul]; exact hn4); rw [AEn] at c0))
           obtain ⟨eX, eY, eZ⟩ := HP0.out (by first | trivial | rfl)
           go_roundw
           case rel => exact ⟨j, by omega, by rw [← HHF.out], E36.out, E37.out, E38.out, by rw [← HQ.out, eX, eY, eZ]; exact D40.out, E39.out, hbel41⟩
           case measure => simp [intOf] <;> omega
         · have hz0 : 1 * pp = pp := Nat.one_mul pp
           rw [hz0] at hand
           have hne : ((pp : Int) != 0) = true := by simp; omega
           go_wp2_with (first | (refine lm' (blk_all (Kv5.out)) Tryz.underlying97 (i108 (LF_X.out (q + 1)) (LF_Y.out (q + 1)) (LF_Z.out (q + 1))) ?_) | (refine lm' (blk_all (Kv5.out)) Tryz.underlying97 (i108 (LF_X.out (q + 1)) (LF_Y.out (q + 1)) (LF_Z.out (q + 1))) ?_))
           refine (HD.out _).mono ?_
           rintro e w42 ⟨rfl, hbw42⟩
           have C43 := Hd (Ku.out.gr hbw42)
           have C44 := Hd (Kp.out.gr hbw42)
           have C45 := Hd (Kr4.out.gr hbw42)
           have C46 := Hd (Kv5.out.gr hbw42)
           have C47 := Hd (Kv6.out.gr hbw42)
           have hbel48 := hbel.trans (Below.mono hbw42 hbel.size)
           clear Ku Kp Kr4 Kv5 Kv6 hbel hbw42
           go_wp2_with (first | (refine stB rfl 97 (.tmp 5) (.tmp 29) rfl (w.heap.size + 1 + 1 + 1) rfl (tv (DX q) (DY q) (DZ q)) rfl 97 (tv (X (q + 1)) (Y (q + 1)) (Z (q + 1))) C46.out (i108 (LF_DX.out q) (LF_DY.out q) (LF_DZ.out q)) (lenEq (tv_len (LF_X.out (q + 1)) (LF_Y.out (q + 1)) (LF_Z.out (q + 1))) (tv_len (LF_DX.out q) (LF_DY.out q) (LF_DZ.out q))) (tv_one _ _ _) ?_; generalize hW : World.setRow _ _ _ = w49; obtain ⟨hgw49, hnw49⟩ := setfacts hW C46.out; clear hW; have E50 := Hd (C43.out.grown hgw49 (fun e => (show w.heap.size ≠ (w.heap.size + 1 + 1 + 1) by omega) (Option.some.inj e))); clear C43; have E51 := Hd (C44.out.grown hgw49 (fun e => (show (w.heap.size + 1) ≠ (w.heap.size + 1 + 1 + 1) by omega) (Option.some.inj e))); clear C44; have E52 := Hd (C45.out.grown hgw49 (fun e => (show (w.heap.size + 1 + 1) ≠ (w.heap.size + 1 + 1 + 1) by omega) (Option.some.inj e))); clear C45; have E53 := Hd (C47.out.grown hgw49 (fun e => (Ne.symm NE6.out) (Option.some.inj e))); clear C47; have D54 := Hd hnw49; clear hnw49 C46; have hbel55 := belStore hbel48 hgw49 (show w.heap.size ≤ (w.heap.size + 1 + 1 + 1) by omega); clear hgw49; clear hbel48; have c0 := E50.out.nat n (by rw [hlul]; exact hn4); rw [AEn] at c0) | (refine lm' (blk_all (D54.out)) Tryz.underlying97 (i108 (LF_DX.out q) (LF_DY.out q) (LF_DZ.out q)) ?_) | (refine lm' (blk_all (E53.out)) Tryz.underlying97 (i108 L_lx.out L_ly.out (wds_len 4 1)) ?_))
           refine (HP1.out (by first | trivial | rfl) _).mono ?_
           rintro e w56 ⟨rfl, hbw56⟩
           have C57 := gq' E50 hbw56
           have C58 := gq' E51 hbw56
           have C59 := gq' E52 hbw56
           have C60 := gq' D54 hbw56
           have C61 := gq' E53 hbw56
           have hbel62 := hbel55.trans (Below.mono hbw56 hbel55.size)
           clear E50 E51 E52 D54 E53 hbel55 hbw56
           go_wp2_with (first | (refine stB rfl 97 (.tmp 5) (.tmp 38) rfl (w.heap.size + 1 + 1 + 1) rfl (tv (X q) (Y q) (Z q)) rfl 97 (tv (DX q) (DY q) (DZ q)) C60.out (i108 (LF_X.out q) (LF_Y.out q) (LF_Z.out q)) (lenEq (tv_len (LF_DX.out q) (LF_DY.out q) (LF_DZ.out q)) (tv_len (LF_X.out q) (LF_Y.out q) (LF_Z.out q))) (tv_one _ _ _) ?_; generalize hW : World.setRow _ _ _ = w63; obtain ⟨hgw63, hnw63⟩ := setfacts hW C60.out; clear hW; have E64 := Hd (C57.out.grown hgw63 (fun e => (show w.heap.size ≠ (w.heap.size + 1 + 1 + 1) by omega) (Option.some.inj e))); clear C57; have E65 := Hd (C58.out.grown hgw63 (fun e => (show (w.heap.size + 1) ≠ (w.heap.size + 1 + 1 + 1) by omega) (Option.some.inj e))); clear C58; have E66 := Hd (C59.out.grown hgw63 (fun e => (show (w.heap.size + 1 + 1) ≠ (w.heap.size + 1 + 1 + 1) by omega) (Option.some.inj e))); clear C59; have E67 := Hd (C61.out.grown hgw63 (fun e => (Ne.symm NE6.out) (Option.some.inj e))); clear C61; have D68 := Hd hnw63; clear hnw63 C60; have hbel69 := belStore hbel62 hgw63 (show w.heap.size ≤ (w.heap.size + 1 + 1 + 1) by omega); clear hgw63; clear hbel62))
           go_roundw
           case rel => exact ⟨j, by omega, by rw [← HHF.out], E64.out, E65.out, E66.out, by rw [← HQ.out]; exact D68.out, E67.out, hbel69⟩
           case measure => simp [intOf] <;> omega
def rightT (x : FP) : Nat → FP
 | 0 => x * x * x
 | t + 1 => rightT x t - x
theorem one_nw : nw 1 = wds 4 1 := by unfold nw; rfl
def tn (s : EC.Tr mP) : Value := .agg (tv (nw s.x) (nw s.y) (nw s.z)).toArray
theorem d_line (s t : EC.Tr mP) : Ans 73 #[tn s, tn t] (tn (EC.lineF s t)) := fun w => by
 unfold EC.lineF
 by_cases h1 : s.z = 0
 · rw [if_pos h1]
   exact dsum_a (nw_len _) (nw_len _) (nw_len _) (nw_len _) (nw_len _) (nw_len _) (nw_0.2 h1) w
 · rw [if_neg h1]
   have g1 : ¬ nw s.z = zeros 4 := fun h => h1 (nw_0.1 h)
   by_cases h2 : t.z = 0
   · rw [if_pos h2]
     exact dsum_b (nw_len _) (nw_len _) (nw_len _) (nw_len _) (nw_len _) (nw_len _) g1 (nw_0.2 h2) w
   · rw [if_neg h2]
     have g2 : ¬ nw t.z = zeros 4 := fun h => h2 (nw_0.1 h)
     by_cases hx : s.x * t.z = t.x * s.z
     · have kx : ∀ w, Calls Tryz.prog 74 #[.agg (natsV .u64 (nw t.x)).toArray, .agg (natsV .u64 (nw s.z)).toArray] w fun e w' => e = .returned (.agg (natsV .u64 (nw (s.x * t.z))).toArray) ∧ Below w.heap.size w w' := fun w => by rw [hx]; exact d_mul t.x s.z w
       simp only []
       rw [if_pos hx]
       by_cases hy : s.y * t.z + t.y * s.z = 0
       · rw [if_pos hy]
         have h := dsum_c (nw_len _) (nw_len _) (nw_len _) (nw_len _) (nw_len _) (nw_len _) (nw_len _) (nw_len _) (nw_len (s.x * t.z)) (nw_len _) (nw_len _) (nw_len _) (nw_len _)
           (d_mul s.y t.z) (d_mul t.y s.z) (d_mul s.x t.z) kx (d_mul s.z t.z) (d_sub _ _) (d_sub _ _) (d_add _ _) g1 g2 (nw_0.2 hy) w
         have e : tn ⟨0, 0, 0⟩ = .agg (tv (zeros 4) (zeros 4) (zeros 4)).toArray := by unfold tn; rw [nw_zero]
         rw [e]; exact h
       · rw [if_neg hy, ← hx]
         exact dsum_d (nw_len _) (nw_len _) (nw_len _) (nw_len _) (nw_len _) (nw_len _) (nw_len _) (nw_len _) (nw_len (s.x * t.z)) (nw_len _) (nw_len _) (nw_len _) (nw_len _) (nw_len _) (nw_len _) (nw_len _) (nw_len _) (nw_len _) (nw_len _) (nw_len _) (nw_len _) (nw_len _) (nw_len _) (nw_len _) (nw_len _) (nw_len _) (nw_len _) (nw_len _) (nw_len _) (nw_len _) (nw_len _) (nw_len _) (nw_len _) (nw_len _)
           (d_mul s.y t.z) (d_mul t.y s.z) (d_mul s.x t.z) kx (d_mul s.z t.z) (d_sub _ _) (d_sub _ _) (d_add _ _) (d_mul _ _) (d_mul _ _) (d_sub _ _) (d_add _ _) (d_add _ _) (d_add _ _) (d_mul _ _)
           (d_mul _ _) (d_mul _ _) (d_mul _ _) (d_add _ _) (d_mul _ _) (d_sub _ _) (d_mul _ _) (d_sub _ _) (d_mul _ _) (d_mul _ _) (d_mul _ _) (d_sub _ _) (d_mul _ _) (d_mul _ _) (d_mul _ _) g1 g2 (fun h => hy (nw_0.1 h)) w
     · simp only []
       rw [if_neg hx]
       exact dsum_e (nw_len _) (nw_len _) (nw_len _) (nw_len _) (nw_len _) (nw_len _) (nw_len _) (nw_len _) (nw_len _) (nw_len _) (nw_len _) (nw_len _) (nw_len _) (nw_len _) (nw_len _) (nw_len _) (nw_len _) (nw_len _) (nw_len _) (nw_len _) (nw_len _) (nw_len _) (nw_len _) (nw_len _) (nw_len _) (nw_len _) (nw_len _)
         (d_mul s.y t.z) (d_mul t.y s.z) (d_mul s.x t.z) (d_mul t.x s.z) (d_mul s.z t.z) (d_sub _ _) (d_sub _ _)
         (d_mul _ _) (d_mul _ _) (d_mul _ _) (d_add _ _) (d_mul _ _) (d_sub _ _) (d_mul _ _) (d_sub _ _) (d_mul _ _) (d_mul _ _) (d_mul _ _) (d_sub _ _) (d_mul _ _) (d_mul _ _) (d_mul _ _) g1 g2 (fun h => hx (nw_inj h)) w
def accL (O : EC.Tr mP) (u : Nat) : Nat → EC.Tr mP
 | 0 => ⟨0, 0, 0⟩
 | n + 1 => if u / 2 ^ (256 - (n + 1)) % 2 = 1 then EC.lineF (EC.lineF (accL O u n) (accL O u n)) O else EC.lineF (accL O u n) (accL O u n)
theorem accL_lin {P : EC.Pt mP} {O : EC.Tr mP} (hP : EC.On bP P) (hO : EC.Lin O P) {u : Nat} (hu : u < 2 ^ 256) : ∀ n, n ≤ 256 → EC.Lin (accL O u n) (EC.mul (u / 2 ^ (256 - n)) P)
 | 0, _ => by
   rw [Nat.sub_zero, Nat.div_eq_of_lt hu]
   exact (rfl : (0 : FP) = 0)
 | n + 1, hn => by
   have ih := accL_lin hP hO hu n (by omega)
   have m := fun k => EC.mul.on okP hP k
   have h1 := ih.plus okP (m _) (m _) ih
   rw [← EC.mul_bit okP hP] at h1
   have hb := half_bit u 256 n hn
   unfold accL
   split
   · rename_i h
     rw [h] at hb
     rw [hb]
     exact h1.plus okP (m _) hP hO
   · rename_i h
     have h0 : u / 2 ^ (256 - (n + 1)) % 2 = 0 := by omega
     rw [h0, Nat.add_zero] at hb
     rw [hb]
     exact h1
theorem acc_step (O : EC.Tr mP) (u t : Nat) (ht : t < 256) : accL O u (256 - t) = if u / 2 ^ t % 2 = 1 then EC.lineF (EC.lineF (accL O u (256 - (t + 1))) (accL O u (256 - (t + 1)))) O else EC.lineF (accL O u (256 - (t + 1))) (accL O u (256 - (t + 1))) := by
 have e : 256 - t = (256 - (t + 1)) + 1 := by omega
 rw [e]
 show (if u / 2 ^ (256 - (256 - (t + 1) + 1)) % 2 = 1 then _ else _) = _
 rw [show 256 - (256 - (t + 1) + 1) = t by omega]
theorem d_mulP {P : EC.Pt mP} (hP : EC.On bP P) (u : Nat) (hu : u < 2 ^ 256) : Ans 42 #[.agg (natsV .u64 (wds 4 u)).toArray, ptV P] (ptV (EC.mul u P)) := fun w => by
 have F := fun (f : EC.Tr mP → FP) (O : EC.Tr mP) => (fun t => nw_len (f (accL O u (256 - t))))
 cases P with
 | inf =>
   rw [EC.mul_inf]
   have hz := accL_lin (P := .inf) (O := ⟨0, 0, 0⟩) trivial (rfl : (0 : FP) = 0) hu 256 (Nat.le_refl _)
   rw [EC.mul_inf] at hz
   exact dmul_inf_inf (X := fun t => nw (accL ⟨0, 0, 0⟩ u (256 - t)).x) (Y := fun t => nw (accL ⟨0, 0, 0⟩ u (256 - t)).y) (Z := fun t => nw (accL ⟨0, 0, 0⟩ u (256 - t)).z)
     (DX := fun t => nw (EC.lineF (accL ⟨0, 0, 0⟩ u (256 - (t + 1))) (accL ⟨0, 0, 0⟩ u (256 - (t + 1)))).x) (DY := fun t => nw (EC.lineF (accL ⟨0, 0, 0⟩ u (256 - (t + 1))) (accL ⟨0, 0, 0⟩ u (256 - (t + 1)))).y) (DZ := fun t => nw (EC.lineF (accL ⟨0, 0, 0⟩ u (256 - (t + 1))) (accL ⟨0, 0, 0⟩ u (256 - (t + 1)))).z)
     (wds_len 4 u) (fun _ => nw_len _) (fun _ => nw_len _) (fun _ => nw_len _) (fun _ => nw_len _) (fun _ => nw_len _) (fun _ => nw_len _) rfl nw_zero nw_zero nw_zero
     (fun t _ w => d_line _ _ w) (fun t ht h => by rw [acc_step _ u t ht, if_neg (by omega)]; exact ⟨rfl, rfl, rfl⟩)
     (fun t ht h w => by
       have k := d_line (EC.lineF (accL ⟨0, 0, 0⟩ u (256 - (t + 1))) (accL ⟨0, 0, 0⟩ u (256 - (t + 1)))) ⟨0, 0, 0⟩ w
       have e := acc_step ⟨0, 0, 0⟩ u t ht
       rw [if_pos h] at e
       rw [← e] at k
       unfold tn at k
       rw [nw_zero] at k
       exact k) (nw_0.2 hz) w
 | aff x y =>
   have hO : EC.Lin (⟨x, y, 1⟩ : EC.Tr mP) (.aff x y) := ⟨by show (1 : FP) ≠ 0; decide, g_3 x, g_3 y⟩
   have hz := accL_lin (P := .aff x y) hP hO hu 256 (Nat.le_refl _)
   rw [Nat.sub_self, Nat.pow_zero, Nat.div_one] at hz
   have K : ∀ t, t < 256 → u / 2 ^ t % 2 = 1 → ∀ w, Calls Tryz.prog 73 #[tn (EC.lineF (accL ⟨x, y, 1⟩ u (256 - (t + 1))) (accL ⟨x, y, 1⟩ u (256 - (t + 1)))), .agg (tv (nw x) (nw y) (wds 4 1)).toArray] w fun e w' => e = .returned (tn (accL ⟨x, y, 1⟩ u (256 - t))) ∧ Below w.heap.size w w' := fun t ht h w => by
     have k := d_line (EC.lineF (accL ⟨x, y, 1⟩ u (256 - (t + 1))) (accL ⟨x, y, 1⟩ u (256 - (t + 1)))) ⟨x, y, 1⟩ w
     have e := acc_step ⟨x, y, 1⟩ u t ht
     rw [if_pos h] at e
     rw [← e, show tn ⟨x, y, 1⟩ = .agg (tv (nw x) (nw y) (wds 4 1)).toArray from by unfold tn; rw [one_nw]] at k
     exact k
   cases hm : EC.mul u (.aff x y) with
   | inf =>
     rw [hm] at hz
     exact dmul_aff_inf (X := fun t => nw (accL ⟨x, y, 1⟩ u (256 - t)).x) (Y := fun t => nw (accL ⟨x, y, 1⟩ u (256 - t)).y) (Z := fun t => nw (accL ⟨x, y, 1⟩ u (256 - t)).z)
       (DX := fun t => nw (EC.lineF (accL ⟨x, y, 1⟩ u (256 - (t + 1))) (accL ⟨x, y, 1⟩ u (256 - (t + 1)))).x) (DY := fun t => nw (EC.lineF (accL ⟨x, y, 1⟩ u (256 - (t + 1))) (accL ⟨x, y, 1⟩ u (256 - (t + 1)))).y) (DZ := fun t => nw (EC.lineF (accL ⟨x, y, 1⟩ u (256 - (t + 1))) (accL ⟨x, y, 1⟩ u (256 - (t + 1)))).z)
       (wds_len 4 u) (nw_len x) (nw_len y) (fun _ => nw_len _) (fun _ => nw_len _) (fun _ => nw_len _) (fun _ => nw_len _) (fun _ => nw_len _) (fun _ => nw_len _) rfl nw_zero nw_zero nw_zero
       (fun t _ w => d_line _ _ w) (fun t ht h => by rw [acc_step _ u t ht, if_neg (by omega)]; exact ⟨rfl, rfl, rfl⟩) K (nw_0.2 hz) w
   | aff X Y =>
     rw [hm] at hz
     obtain ⟨z0, ex, ey⟩ := hz
     have hi := inv_fp _ z0
     rw [← iv_fp _ z0] at hi
     have e1 : (accL ⟨x, y, 1⟩ u 256).x * EC.iv (accL ⟨x, y, 1⟩ u 256).z = X := by rw [ex, g_4, hi]; exact (g_3 X).symm
     have e2 : (accL ⟨x, y, 1⟩ u 256).y * EC.iv (accL ⟨x, y, 1⟩ u 256).z = Y := by rw [ey, g_4, hi]; exact (g_3 Y).symm
     exact dmul_aff_aff (X := fun t => nw (accL ⟨x, y, 1⟩ u (256 - t)).x) (Y := fun t => nw (accL ⟨x, y, 1⟩ u (256 - t)).y) (Z := fun t => nw (accL ⟨x, y, 1⟩ u (256 - t)).z)
       (DX := fun t => nw (EC.lineF (accL ⟨x, y, 1⟩ u (256 - (t + 1))) (accL ⟨x, y, 1⟩ u (256 - (t + 1)))).x) (DY := fun t => nw (EC.lineF (accL ⟨x, y, 1⟩ u (256 - (t + 1))) (accL ⟨x, y, 1⟩ u (256 - (t + 1)))).y) (DZ := fun t => nw (EC.lineF (accL ⟨x, y, 1⟩ u (256 - (t + 1))) (accL ⟨x, y, 1⟩ u (256 - (t + 1)))).z)
       (wds_len 4 u) (nw_len x) (nw_len y) (wds_len 4 mP) (nw_len _) (nw_len X) (nw_len Y) (fun _ => nw_len _) (fun _ => nw_len _) (fun _ => nw_len _) (fun _ => nw_len _) (fun _ => nw_len _) (fun _ => nw_len _) rfl nw_zero nw_zero nw_zero
       (fun t _ w => d_line _ _ w) (fun t ht h => by rw [acc_step _ u t ht, if_neg (by omega)]; exact ⟨rfl, rfl, rfl⟩) K (fun h => z0 (nw_0.1 h)) DP_any (d_inv _ z0) (fun w => by rw [← e1]; exact d_mul _ _ w) (fun w => by rw [← e2]; exact d_mul _ _ w) w
theorem d_scalar {w : World} {A : Option Addr} {n c : Nat} {l : List Nat} (hB : BIn w A n c l) :
   Calls Tryz.prog 12 #[.slice A n c] w fun e w' => e = .returned (.agg (natsV .u64 (wds 4 (scE n l))).toArray) ∧ Below w.heap.size w w' := by
 have c1 := fun A c W (h : BIn W A 32 c (zeros (32 - min n 32) ++ l.take (min n 32))) => refOf_any A c _ W h
 have hx := be_256 (zt_len hB) (zt_lt hB)
 have c3 := fun w => Rest_any (be (zeros (32 - min n 32) ++ l.take (min n 32))) mN false w mN256 hx (by show _ + 2 ^ 256 * 0 < _; have := fld_N.gt; omega)
 have e0 : ∀ x : Nat, x + 2 ^ 256 * false.toNat = x := fun x => by show x + 2 ^ 256 * 0 = x; omega
 simp only [e0] at c3
 unfold scE
 by_cases h : n ≤ 32
 · rw [Nat.min_eq_left h] at c1 c3 ⊢
   exact dscal_le w (wds_len 4 _) (wds_len 4 mN) (wds_len 4 _) hB ⟨rfl, h⟩ (by omega) c1 DN_any c3
 · rw [Nat.min_eq_right (by omega)] at c1 c3 ⊢
   exact dscal_gt w (wds_len 4 _) (wds_len 4 mN) (wds_len 4 _) hB ⟨rfl, by omega⟩ rfl c1 DN_any c3
theorem d_invN (s : Nat) (hs : s < 2 ^ 256) : Ans 39 #[.agg (natsV .u64 (wds 4 s)).toArray, .agg (natsV .u64 (wds 4 mN)).toArray] (.agg (natsV .u64 (wds 4 (wN s))).toArray) := fun w => by
 refine dwrap_84 (wds_len 4 s) (wds_len 4 mN) (wds_len 4 (mN - 2)) (wds_len 4 _) (fun w => ?_) (fun w => ?_) w
 · have h := dminus_any mN 2 w mN256 (by decide)
   rw [less_two mN mN2, ← num_lit2] at h
   exact h
 · exact Pow5_any s (mN - 2) mN w hs (Nat.lt_of_le_of_lt (Nat.sub_le _ _) mN256) mN256 fld_N.gt
theorem d_mulN (a b : Nat) (ha : a < 2 ^ 256) (hb : b < 2 ^ 256) : Ans 40 #[.agg (natsV .u64 (wds 4 a)).toArray, .agg (natsV .u64 (wds 4 b)).toArray, .agg (natsV .u64 (wds 4 mN)).toArray] (.agg (natsV .u64 (wds 4 (a * b % mN))).toArray) := fun w => Mul5_any a b mN w ha hb mN256 fld_N.gt
theorem wN_256 (s : Nat) : wN s < 2 ^ 256 := Nat.lt_trans (wN_lt s) mN256
theorem d_rest (x : Nat) (hx : x < 2 ^ 256) : Ans 18 #[.agg (natsV .u64 (wds 4 x)).toArray, .bool false, .agg (natsV .u64 (wds 4 mN)).toArray] (.agg (natsV .u64 (wds 4 (x % mN))).toArray) := fun w => by
 have k := Rest_any x mN false w mN256 hx (by show _ + 2 ^ 256 * 0 < _; have := fld_N.gt; omega)
 have e0 : x + 2 ^ 256 * false.toNat = x := by show x + 2 ^ 256 * 0 = x; omega
 rw [e0] at k
 exact k
theorem dbase_k : Ans 43 #[] (.agg (pv (nw gX) (nw gY) false).toArray) := fun w => dbase_any w
end Go.Proofs.YtdkkombpkojjaaaGreat
