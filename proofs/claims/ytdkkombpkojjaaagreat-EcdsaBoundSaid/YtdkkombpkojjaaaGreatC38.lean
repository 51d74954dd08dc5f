/- Parts of proofs of statements, each text behind those that it stands on. No condition of its own. -/
import Derived.Test.YtdkkombpkojjaaaGreatC34
namespace Go.Proofs.YtdkkombpkojjaaaGreat
set_option maxRecDepth 100000
set_option maxHeartbeats 6400000
open Go.RowKit
set_option linter.unusedVariables false
set_option linter.unusedSimpArgs false
theorem bu108 {lx ly : List Nat} (hx : lx.length = 4) (hy : ly.length = 4) : Tryz.prog.built 97 [(0, .agg (natsV .u64 lx).toArray), (1, .agg (natsV .u64 ly).toArray), (2, .agg #[.int .u64 1, .int .u64 0, .int .u64 0, .int .u64 0])] = some (tv lx ly (wds 4 1)).toArray := by
 rw [num_lit1]; exact built108 hx hy (wds_len 4 1)
theorem dmul_inf_inf {lu : List Nat} {X Y Z DX DY DZ : Nat → List Nat} {u : Nat} (hlu : lu.length = 4) (hFX : ∀ t, (X t).length = 4) (hFY : ∀ t, (Y t).length = 4) (hFZ : ∀ t, (Z t).length = 4) (hFDX : ∀ t, (DX t).length = 4) (hFDY : ∀ t, (DY t).length = 4) (hFDZ : ∀ t, (DZ t).length = 4)
   (hlu_ : lu = wds 4 u) (hX : X 256 = zeros 4) (hY : Y 256 = zeros 4) (hZ : Z 256 = zeros 4)
   (cd : ∀ t, t < 256 → ∀ w, Calls Tryz.prog 73 #[.agg (tv (X (t + 1)) (Y (t + 1)) (Z (t + 1))).toArray, .agg (tv (X (t + 1)) (Y (t + 1)) (Z (t + 1))).toArray] w fun e w' => e = .returned (.agg (tv (DX t) (DY t) (DZ t)).toArray) ∧ Below w.heap.size w w')
   (c0 : ∀ t, t < 256 → u / 2 ^ t % 2 = 0 → X t = DX t ∧ Y t = DY t ∧ Z t = DZ t)
   (cp : ∀ t, t < 256 → u / 2 ^ t % 2 = 1 → ∀ w, Calls Tryz.prog 73 #[.agg (tv (DX t) (DY t) (DZ t)).toArray, .agg (tv (zeros 4) (zeros 4) (zeros 4)).toArray] w fun e w' => e = .returned (.agg (tv (X t) (Y t) (Z t)).toArray) ∧ Below w.heap.size w w')
   (hz : Z 0 = zeros 4)
   (w : World) :
   Calls Tryz.prog 42 #[.agg (natsV .u64 lu).toArray, .agg (pv (zeros 4) (zeros 4) true).toArray] w fun e w' => e = .returned (.agg (pv (zeros 4) (zeros 4) true).toArray) ∧ Below w.heap.size w w' := by
 have L_lu := Hd hlu
 have LF_X := Hd hFX
 have LF_Y := Hd hFY
 have LF_Z := Hd hFZ
 have LF_DX := Hd hFDX
 have LF_DY := Hd hFDY
 have LF_DZ := Hd hFDZ
 have Hcd := Hd cd
 have Hc0 := Hd c0
 have Hcp := Hd cp
 have HhX := Hd hX
 have HhY := Hd hY
 have HhZ := Hd hZ
 have Hhlu_ := Hd hlu_
 have QZ := Hd (fun w => (eqZ24 (Z 0) (LF_Z.out 0) w).trans (by rw [decide_eq_true hz]))
 have B0_ := Hd ((((Blk.new w  26 (natsV .u64 lu)).alloc (.cells (pv (zeros 4) (zeros 4) true).toArray 28)).alloc (.cells (pv (zeros 4) (zeros 4) false).toArray 28)).alloc (.cells (tv (zeros 4) (zeros 4) (zeros 4)).toArray 97))
 have B1_ := Hd (((Blk.new2 w (.cells (natsV .u64 lu).toArray 26) 28 (pv (zeros 4) (zeros 4) true)).alloc (.cells (pv (zeros 4) (zeros 4) false).toArray 28)).alloc (.cells (tv (zeros 4) (zeros 4) (zeros 4)).toArray 97))
 have B2_ := Hd ((Blk.new3 w (.cells (natsV .u64 lu).toArray 26) (.cells (pv (zeros 4) (zeros 4) true).toArray 28) 28 (pv (zeros 4) (zeros 4) false)).alloc (.cells (tv (zeros 4) (zeros 4) (zeros 4)).toArray 97))
 have B3_ := Hd (Blk.new4 w (.cells (natsV .u64 lu).toArray 26) (.cells (pv (zeros 4) (zeros 4) true).toArray 28) (.cells (pv (zeros 4) (zeros 4) false).toArray 28) 97 (tv (zeros 4) (zeros 4) (zeros 4)))
 clear hlu hFX hFY hFZ hFDX hFDY hFDZ cd c0 cp hX hY hZ hlu_ hz
 have bel_ := (((((Below.refl w.heap.size w).alloc (Nat.le_refl _) (.cells (natsV .u64 lu).toArray 26)).alloc (by simp) (.cells (pv (zeros 4) (zeros 4) true).toArray 28)).alloc (by simp; omega) (.cells (pv (zeros 4) (zeros 4) false).toArray 28)).alloc (by simp; omega) (.cells (tv (zeros 4) (zeros 4) (zeros 4)).toArray 97))
 go_enter Tryz.func42, Tryz.ntmps42
 have ci := pv_i B1_.out rfl rfl
 go_upto_region 2 with (fail)
 try simp only [Act.put, zq]
 as_aux_lemma =>
 refine wp_region_P (fun w_ => Blk w_ (w.heap.size + 1) 28 (pv (zeros 4) (zeros 4) true)) 7 (by kernel_rfl) B1_.out ?_
 refine tkp gS1 0 rfl ?_
 try simp only [Act.put, zq]
 refine tk gS1 1 rfl (lg' (fun _ hS_ => pv_x (hS_)) Tryz.underlying26 (i24 rfl)) ?_
 try simp only [Act.put, zq]
 refine tkp gS1 2 rfl ?_
 try simp only [Act.put, zq]
 refine tk gS1 3 rfl (lg' (fun _ hS_ => pv_y (hS_) rfl) Tryz.underlying26 (i24 rfl)) ?_
 try simp only [Act.put, zq]
 refine tkp gS1 4 rfl ?_
 try simp only [Act.put, zq]
 refine tk gS1 5 rfl (buildG (by rfl) _ _ rfl _ (bu108 z4l z4l) (by simp [Act.eval])) ?_
 try simp only [Act.put, zq]
 refine wpAnyG_def (i := 6) (j := 7) gS1 (by kernel_rfl) (by kernel_rfl) (by kernel_rfl) rfl rfl rfl (allocG (by rfl) rfl _ alloc108) (lenEq (show (natsV .u64 (zeros 12)).length = 12 from rfl) (tv_len z4l z4l (wds_len 4 1))) (fun _ => StoresG.mk (cs := (tv (zeros 4) (zeros 4) (wds 4 1))) (by rfl) 97 _ _ rfl rfl rfl (i108 z4l z4l (wds_len 4 1)) (tv_one _ _ _)) ?_
 intro w1 G2 hgw1 hz_ hn_
 try simp only [Act.put, zq]
 have NE3 := Hd (Nat.ne_of_lt (Nat.lt_of_lt_of_le B0_.out.lt hz_))
 have NE4 := Hd (Nat.ne_of_lt (Nat.lt_of_lt_of_le B1_.out.lt hz_))
 have NE5 := Hd (Nat.ne_of_lt (Nat.lt_of_lt_of_le B2_.out.lt hz_))
 have NE6 := Hd (Nat.ne_of_lt (Nat.lt_of_lt_of_le B3_.out.lt hz_))
 have GE7 := Hd (Nat.le_trans bel_.size hz_)
 have C8 := gq' B0_ hgw1
 have C9 := gq' B1_ hgw1
 have C10 := gq' B2_ hgw1
 have C11 := gq' B3_ hgw1
 have hbel12 := bel_.trans (Below.mono hgw1 bel_.size)
 have D13 := Hd hn_
 clear B0_ B1_ B2_ B3_ bel_ hn_ hz_ hgw1
 as_aux_lemma =>
 have cj := pv_i C9.out rfl rfl
 go_wp2_with (first | (refine stB rfl 97 (.tmp 6) (.tmp 18) rfl G2 rfl (tv (zeros 4) (zeros 4) (zeros 4)) rfl 97 (tv (zeros 4) (zeros 4) (wds 4 1)) D13.out (i108 z4l z4l z4l) (lenEq (tv_len z4l z4l (wds_len 4 1)) (tv_len z4l z4l z4l)) (tv_one _ _ _) ?_; generalize hW : World.setRow _ _ _ = w14; obtain ⟨hgw14, hnw14⟩ := setfacts hW D13.out; clear hW; have E15 := Hd (C8.out.grown hgw14 (fun e => NE3.out (Option.some.inj e))); clear C8; have E16 := Hd (C9.out.grown hgw14 (fun e => NE4.out (Option.some.inj e))); clear C9; have E17 := Hd (C10.out.grown hgw14 (fun e => NE5.out (Option.some.inj e))); clear C10; have E18 := Hd (C11.out.grown hgw14 (fun e => NE6.out (Option.some.inj e))); clear C11; have D19 := Hd hnw14; clear hnw14 D13; have hbel20 := belStore hbel12 hgw14 (GE7.out); clear hgw14; clear hbel12))
 go_loopw [7] (fun i wr => ∃ n : Nat, n ≤ 4 ∧ i = .int .i64 ((n : Int) - 1) ∧ Blk wr w.heap.size 26 (natsV .u64 lu) ∧ Blk wr (w.heap.size + 1) 28 (pv (zeros 4) (zeros 4) true) ∧ Blk wr (w.heap.size + 1 + 1) 28 (pv (zeros 4) (zeros 4) false) ∧ Blk wr (w.heap.size + 1 + 1 + 1) 97 (tv (X (64 * n)) (Y (64 * n)) (Z (64 * n))) ∧ Blk wr G2 97 (tv (zeros 4) (zeros 4) (zeros 4)) ∧ Below w.heap.size w wr) (fun i _ => (intOf i + 1).toNat)
 case atStart => exact ⟨4, by omega, rfl, E15.out, E16.out, E17.out, by rw [show 64 * 4 = 256 from rfl, HhX.out, HhY.out, HhZ.out]; exact E18.out, D19.out, hbel20⟩
 case round =>
   clear E15 E16 E17 E18 D19 hbel20
   obtain ⟨n, hn, rfl, ku_, kp_, kr4_, kv5_, kv6_, hbel⟩ := hrel
   have Ku := Hd ku_
   have Kp := Hd kp_
   have Kr4 := Hd kr4_
   have Kv5 := Hd kv5_
   have Kv6 := Hd kv6_
   clear ku_ kp_ kr4_ kv5_ kv6_
   rcases n with _ | n
   · as_aux_lemma =>
     rw [show ((0 : Nat) : Int) - 1 = -1 from rfl]
     rw [show 64 * 0 = 0 from rfl] at Kv5
     have qz := QZ.out
     go_wp2_with (first | (refine lm' (tv_z (Kv5.out) (LF_X.out 0) (LF_Y.out 0)) Tryz.underlying26 (i24 (LF_Z.out 0)) ?_) | (refine stB rfl 28 (.tmp 4) (.tmp 43) rfl (w.heap.size + 1 + 1) rfl (pv (zeros 4) (zeros 4) true) rfl 28 (pv (zeros 4) (zeros 4) false) Kr4.out (i43 rfl rfl) (lenEq pz9 (show (pv (zeros 4) (zeros 4) true).length = 9 from rfl)) p1_ ?_))
     refine bodyPost_ret (v := .agg (pv (zeros 4) (zeros 4) true).toArray) ?_ rfl ⟨rfl, below_setRow' hbel (by first | exact Nat.le_refl _ | omega) _⟩
     exact results_cell_row Tryz.results42 _ _ (w.heap.size + 1 + 1) 28 _ (0, 0) _ rfl (Kr4.out.setRow _) Tryz.underlying28 rfl (by simpa using (i43 rfl rfl))
   · rw [show ((n + 1 : Nat) : Int) - 1 = (n : Int) by omega]
     have hn4 : n < 4 := by omega
     have hnn : (0 : Int) ≤ (n : Int) := by omega
     have hni : (n : Int) < 4 := by omega
     go_wp2_with fail
     go_loopw [8] (fun bb wr => ∃ j : Nat, j ≤ 64 ∧ bb = .int .u64 ((2 ^ j / 2 : Nat) : Int) ∧ Blk wr w.heap.size 26 (natsV .u64 lu) ∧ Blk wr (w.heap.size + 1) 28 (pv (zeros 4) (zeros 4) true) ∧ Blk wr (w.heap.size + 1 + 1) 28 (pv (zeros 4) (zeros 4) false) ∧ Blk wr (w.heap.size + 1 + 1 + 1) 97 (tv (X (64 * n + j)) (Y (64 * n + j)) (Z (64 * n + j))) ∧ Blk wr G2 97 (tv (zeros 4) (zeros 4) (zeros 4)) ∧ Below w.heap.size w wr) (fun bb _ => (intOf bb).toNat)
     case atStart => exact ⟨64, by omega, by first | rfl | decide, Ku.out, Kp.out, Kr4.out, by rw [show 64 * n + 64 = 64 * (n + 1) by omega]; exact Kv5.out, Kv6.out, hbel⟩
     case round =>
       clear Ku Kp Kr4 Kv5 Kv6 hbel
       obtain ⟨j, hj, rfl, ku_, kp_, kr4_, kv5_, kv6_, hbel⟩ := hrel
       have Ku := Hd ku_
       have Kp := Hd kp_
       have Kr4 := Hd kr4_
       have Kv5 := Hd kv5_
       have Kv6 := Hd kv6_
       clear ku_ kp_ kr4_ kv5_ kv6_
       rcases j with _ | j
       · as_aux_lemma =>
         rw [show ((2 ^ 0 / 2 : Nat) : Int) = 0 from rfl]
         go_wp2_with fail
         go_roundw
         case rel => exact ⟨n, by omega, by go_num, Ku.out, Kp.out, Kr4.out, Kv5.out, Kv6.out, hbel⟩
         case measure => simp [intOf] <;> omega
       · as_aux_lemma =>
         have hj64 : j < 64 := by omega
         have hp : 2 ^ (j + 1) / 2 = 2 ^ j := by rw [Nat.pow_succ, Nat.mul_div_cancel _ (by decide)]
         rw [hp]
         have hpl : 2 ^ j < 2 ^ 64 := Nat.pow_lt_pow_right (by decide) hj64
         have hpp : 0 < 2 ^ j := Nat.two_pow_pos j
         have hd := dgt_lt (B := 2 ^ 64) (by decide) u n
         have hand := and_pow (dgt (2 ^ 64) u n) j hd hj64
         rw [word_bit u n j hj64] at hand
         have AEn : lu.getD n 0 = dgt (2 ^ 64) u n := by rw [Hhlu_.out]; exact wds_at 4 u n hn4
         have hlul := L_lu.out
         obtain ⟨q, hq⟩ : ∃ q, q = 64 * n + j := ⟨_, rfl⟩
         have hq256 : q < 256 := by omega
         have HD := Hd (Hcd.out q hq256)
         have HP1 := Hd (Hcp.out q hq256)
         have HP0 := Hd (Hc0.out q hq256)
         rw [← hq] at hand
         rw [show 64 * n + (j + 1) = q + 1 by omega] at Kv5
         have HQ := Hd hq
         clear hq
         have hbit : u / 2 ^ q % 2 = 0 ∨ u / 2 ^ q % 2 = 1 := Nat.mod_two_eq_zero_or_one _
         have hhalf : ((2 ^ j : Nat) : Int) / 2 = ((2 ^ j / 2 : Nat) : Int) := rfl
         have hwh : IntKind.u64.wrap ((2 ^ j / 2 : Nat) : Int) = ((2 ^ j / 2 : Nat) : Int) := u64_in _ (Nat.lt_of_le_of_lt (Nat.div_le_self _ _) hpl)
         have hdlt : 2 ^ j / 2 < 2 ^ j := Nat.div_lt_self hpp (by decide)
         generalize u / 2 ^ q % 2 = bt at *
         generalize dgt (2 ^ 64) u n = d at *
         obtain ⟨hf, hhf⟩ : ∃ z, z = 2 ^ j / 2 := ⟨_, rfl⟩
         rw [← hhf] at hhalf hwh hdlt
         have HHF := Hd hhf
         clear hhf
         obtain ⟨pp, hp2⟩ : ∃ p, p = 2 ^ j := ⟨_, rfl⟩
         rw [← hp2] at hpl hpp hand hhalf hdlt ⊢
         clear hp2 hp
         have hpz : (0 : Int) < (pp : Int) := by omega
         rcases hbit with rfl | rfl
         · have hz0 : 0 * pp = 0 := Nat.zero_mul pp
           rw [hz0] at hand
           go_wp2_with (first | (refine lm' (blk_all (Kv5.out)) Tryz.underlying97 (i108 (LF_X.out (q + 1)) (LF_Y.out (q + 1)) (LF_Z.out (q + 1))) ?_) | (refine lm' (blk_all (Kv5.out)) Tryz.underlying97 (i108 (LF_X.out (q + 1)) (LF_Y.out (q + 1)) (LF_Z.out (q + 1))) ?_))
           refine (HD.out _).mono ?_
           rintro e w21 ⟨rfl, hbw21⟩
           have C22 := Hd (Ku.out.gr hbw21)
           have C23 := Hd (Kp.out.gr hbw21)
           have C24 := Hd (Kr4.out.gr hbw21)
           have C25 := Hd (Kv5.out.gr hbw21)
           have C26 := Hd (Kv6.out.gr hbw21)
           have hbel27 := hbel.trans (Below.mono hbw21 hbel.size)
           clear Ku Kp Kr4 Kv5 Kv6 hbel hbw21
           go_wp2_with (first | (refine stB rfl 97 (.tmp 5) (.tmp 29) rfl (w.heap.size + 1 + 1 + 1) rfl (tv (DX q) (DY q) (DZ q)) rfl 97 (tv (X (q + 1)) (Y (q + 1)) (Z (q + 1))) C25.out (i108 (LF_DX.out q) (LF_DY.out q) (LF_DZ.out q)) (lenEq (tv_len (LF_X.out (q + 1)) (LF_Y.out (q + 1)) (LF_Z.out (q + 1))) (tv_len (LF_DX.out q) (LF_DY.out q) (LF_DZ.out q))) (tv_one _ _ _) ?_; generalize hW : World.setRow _ _ _ = w28; obtain ⟨hgw28, hnw28⟩ := setfacts hW C25.out; clear hW; have E29 := Hd (C22.out.grown hgw28 (fun e => (show w.heap.size ≠ (w.heap.size + 1 + 1 + 1) by omega) (Option.some.inj e))); clear C22; have E30 := Hd (C23.out.grown hgw28 (fun e => (show (w.heap.size + 1) ≠ (w.heap.size + 1 + 1 + 1) by omega) (Option.some.inj e))); clear C23; have E31 := Hd (C24.out.grown hgw28 (fun e => (show (w.heap.size + 1 + 1) ≠ (w.heap.size + 1 + 1 + 1) by omega) (Option.some.inj e))); clear C24; have E32 := Hd (C26.out.grown hgw28 (fun e => (Ne.symm NE6.out) (Option.some.inj e))); clear C26; have D33 := Hd hnw28; clear hnw28 C25; have hbel34 := belStore hbel27 hgw28 (show w.heap.size ≤ (w.heap.size + 1 + 1 + 1) by omega); clear hgw28; clear hbel27; have c0 := E29.out.nat n (by rw [hlul]; exact hn4); rw [AEn] at c0))
           obtain ⟨eX, eY, eZ⟩ := HP0.out (by first | trivial | rfl)
           go_roundw
           case rel => exact ⟨j, by omega, by rw [← HHF.out], E29.out, E30.out, E31.out, by rw [← HQ.out, eX, eY, eZ]; exact D33.out, E32.out, hbel34⟩
           case measure => simp [intOf] <;> omega
         · have hz0 : 1 * pp = pp := Nat.one_mul pp
           rw [hz0] at hand
           have hne : ((pp : Int) != 0) = true := by simp; omega
           go_wp2_with (first | (refine lm' (blk_all (Kv5.out)) Tryz.underlying97 (i108 (LF_X.out (q + 1)) (LF_Y.out (q + 1)) (LF_Z.out (q + 1))) ?_) | (refine lm' (blk_all (Kv5.out)) Tryz.underlying97 (i108 (LF_X.out (q + 1)) (LF_Y.out (q + 1)) (LF_Z.out (q + 1))) ?_))
           refine (HD.out _).mono ?_
           rintro e w35 ⟨rfl, hbw35⟩
           have C36 := Hd (Ku.out.gr hbw35)
           have C37 := Hd (Kp.out.gr hbw35)
           have C38 := Hd (Kr4.out.gr hbw35)
           have C39 := Hd (Kv5.out.gr hbw35)
           have C40 := Hd (Kv6.out.gr hbw35)
           have hbel41 := hbel.trans (Below.mono hbw35 hbel.size)
           clear Ku Kp Kr4 Kv5 Kv6 hbel hbw35
           go_wp2_with (first | (refine stB rfl 97 (.tmp 5) (.tmp 29) rfl (w.heap.size + 1 + 1 + 1) rfl (tv (DX q) (DY q) (DZ q)) rfl 97 (tv (X (q + 1)) (Y (q + 1)) (Z (q + 1))) C39.out (i108 (LF_DX.out q) (LF_DY.out q) (LF_DZ.out q)) (lenEq (tv_len (LF_X.out (q + 1)) (LF_Y.out (q + 1)) (LF_Z.out (q + 1))) (tv_len (LF_DX.out q) (LF_DY.out q) (LF_DZ.out q))) (tv_one _ _ _) ?_; generalize hW : World.setRow _ _ _ = w42; obtain ⟨hgw42, hnw42⟩ := setfacts hW C39.out; clear hW; have E43 := Hd (C36.out.grown hgw42 (fun e => (show w.heap.size ≠ (w.heap.size + 1 + 1 + 1) by omega) (Option.some.inj e))); clear C36; have E44 := Hd (C37.out.grown hgw42 (fun e => (show (w.heap.size + 1) ≠ (w.heap.size + 1 + 1 + 1) by omega) (Option.some.inj e))); clear C37; have E45 := Hd (C38.out.grown hgw42 (fun e => (show (w.heap.size + 1 + 1) ≠ (w.heap.size + 1 + 1 + 1) by omega) (Option.some.inj e))); clear C38; have E46 := Hd (C40.out.grown hgw42 (fun e => (Ne.symm NE6.out) (Option.some.inj e))); clear C40; have D47 := Hd hnw42; clear hnw42 C39; have hbel48 := belStore hbel41 hgw42 (show w.heap.size ≤ (w.heap.size + 1 + 1 + 1) by omega); clear hgw42; clear hbel41; have c0 := E43.out.nat n (by rw [hlul]; exact hn4); rw [AEn] at c0) | (refine lm' (blk_all (D47.out)) Tryz.underlying97 (i108 (LF_DX.out q) (LF_DY.out q) (LF_DZ.out q)) ?_) | (refine lm' (blk_all (E46.out)) Tryz.underlying97 (i108 z4l z4l z4l) ?_))
           refine (HP1.out (by first | trivial | rfl) _).mono ?_
           rintro e w49 ⟨rfl, hbw49⟩
           have C50 := gq' E43 hbw49
           have C51 := gq' E44 hbw49
           have C52 := gq' E45 hbw49
           have C53 := gq' D47 hbw49
           have C54 := gq' E46 hbw49
           have hbel55 := hbel48.trans (Below.mono hbw49 hbel48.size)
           clear E43 E44 E45 D47 E46 hbel48 hbw49
           go_wp2_with (first | (refine stB rfl 97 (.tmp 5) (.tmp 38) rfl (w.heap.size + 1 + 1 + 1) rfl (tv (X q) (Y q) (Z q)) rfl 97 (tv (DX q) (DY q) (DZ q)) C53.out (i108 (LF_X.out q) (LF_Y.out q) (LF_Z.out q)) (lenEq (tv_len (LF_DX.out q) (LF_DY.out q) (LF_DZ.out q)) (tv_len (LF_X.out q) (LF_Y.out q) (LF_Z.out q))) (tv_one _ _ _) ?_; generalize hW : World.setRow _ _ _ = w56; obtain ⟨hgw56, hnw56⟩ := setfacts hW C53.out; clear hW; have E57 := Hd (C50.out.grown hgw56 (fun e => (show w.heap.size ≠ (w.heap.size + 1 + 1 + 1) by omega) (Option.some.inj e))); clear C50; have E58 := Hd (C51.out.grown hgw56 (fun e => (show (w.heap.size + 1) ≠ (w.heap.size + 1 + 1 + 1) by omega) (Option.some.inj e))); clear C51; have E59 := Hd (C52.out.grown hgw56 (fun e => (show (w.heap.size + 1 + 1) ≠ (w.heap.size + 1 + 1 + 1) by omega) (Option.some.inj e))); clear C52; have E60 := Hd (C54.out.grown hgw56 (fun e => (Ne.symm NE6.out) (Option.some.inj e))); clear C54; have D61 := Hd hnw56; clear hnw56 C53; have hbel62 := belStore hbel55 hgw56 (show w.heap.size ≤ (w.heap.size + 1 + 1 + 1) by omega); clear hgw56; clear hbel55))
           go_roundw
           case rel => exact ⟨j, by omega, by rw [← HHF.out], E57.out, E58.out, E59.out, by rw [← HQ.out]; exact D61.out, E60.out, hbel62⟩
           case measure => simp [intOf] <;> omega
theorem dmul_aff_inf {lu lx ly : List Nat} {X Y Z DX DY DZ : Nat → List Nat} {u : Nat} (hlu : lu.length = 4) (hlx : lx.length = 4) (hly : ly.length = 4) (hFX : ∀ t, (X t).length = 4) (hFY : ∀ t, (Y t).length = 4) (hFZ : ∀ t, (Z t).length = 4) (hFDX : ∀ t, (DX t).length = 4) (hFDY : ∀ t, (DY t).length = 4) (hFDZ : ∀ t, (DZ t).length = 4)
   (hlu_ : lu = wds 4 u) (hX : X 256 = zeros 4) (hY : Y 256 = zeros 4) (hZ : Z 256 = zeros 4)
   (cd : ∀ t, t < 256 → ∀ w, Calls Tryz.prog 73 #[.agg (tv (X (t + 1)) (Y (t + 1)) (Z (t + 1))).toArray, .agg (tv (X (t + 1)) (Y (t + 1)) (Z (t + 1))).toArray] w fun e w' => e = .returned (.agg (tv (DX t) (DY t) (DZ t)).toArray) ∧ Below w.heap.size w w')
   (c0 : ∀ t, t < 256 → u / 2 ^ t % 2 = 0 → X t = DX t ∧ Y t = DY t ∧ Z t = DZ t)
   (cp : ∀ t, t < 256 → u / 2 ^ t % 2 = 1 → ∀ w, Calls Tryz.prog 73 #[.agg (tv (DX t) (DY t) (DZ t)).toArray, .agg (tv lx ly (wds 4 1)).toArray] w fun e w' => e = .returned (.agg (tv (X t) (Y t) (Z t)).toArray) ∧ Below w.heap.size w w')
   (hz : Z 0 = zeros 4)
   (w : World) :
   Calls Tryz.prog 42 #[.agg (natsV .u64 lu).toArray, .agg (pv lx ly false).toArray] w fun e w' => e = .returned (.agg (pv (zeros 4) (zeros 4) true).toArray) ∧ Below w.heap.size w w' := by
 have L_lu := Hd hlu
 have L_lx := Hd hlx
 have L_ly := Hd hly
 have LF_X := Hd hFX
 have LF_Y := Hd hFY
 have LF_Z := Hd hFZ
 have LF_DX := Hd hFDX
 have LF_DY := Hd hFDY
 have LF_DZ := Hd hFDZ
 have Hcd := Hd cd
 have Hc0 := Hd c0
 have Hcp := Hd cp
 have HhX := Hd hX
 have HhY := Hd hY
 have HhZ := Hd hZ
 have Hhlu_ := Hd hlu_
 have QZ := Hd (fun w => (eqZ24 (Z 0) (LF_Z.out 0) w).trans (by rw [decide_eq_true hz]))
 have B0_ := Hd ((((Blk.new w  26 (natsV .u64 lu)).alloc (.cells (pv lx ly false).toArray 28)).alloc (.cells (pv (zeros 4) (zeros 4) false).toArray 28)).alloc (.cells (tv (zeros 4) (zeros 4) (zeros 4)).toArray 97))
 have B1_ := Hd (((Blk.new2 w (.cells (natsV .u64 lu).toArray 26) 28 (pv lx ly false)).alloc (.cells (pv (zeros 4) (zeros 4) false).toArray 28)).alloc (.cells (tv (zeros 4) (zeros 4) (zeros 4)).toArray 97))
 have B2_ := Hd ((Blk.new3 w (.cells (natsV .u64 lu).toArray 26) (.cells (pv lx ly false).toArray 28) 28 (pv (zeros 4) (zeros 4) false)).alloc (.cells (tv (zeros 4) (zeros 4) (zeros 4)).toArray 97))
 have B3_ := Hd (Blk.new4 w (.cells (natsV .u64 lu).toArray 26) (.cells (pv lx ly false).toArray 28) (.cells (pv (zeros 4) (zeros 4) false).toArray 28) 97 (tv (zeros 4) (zeros 4) (zeros 4)))
 clear hlu hlx hly hFX hFY hFZ hFDX hFDY hFDZ cd c0 cp hX hY hZ hlu_ hz
 have bel_ := (((((Below.refl w.heap.size w).alloc (Nat.le_refl _) (.cells (natsV .u64 lu).toArray 26)).alloc (by simp) (.cells (pv lx ly false).toArray 28)).alloc (by simp; omega) (.cells (pv (zeros 4) (zeros 4) false).toArray 28)).alloc (by simp; omega) (.cells (tv (zeros 4) (zeros 4) (zeros 4)).toArray 97))
 go_enter Tryz.func42, Tryz.ntmps42
 have ci := pv_i B1_.out L_lx.out L_ly.out
 go_upto_region 2 with (fail)
 try simp only [Act.put, zq]
 as_aux_lemma =>
 refine wp_region_P (fun w_ => Blk w_ (w.heap.size + 1) 28 (pv lx ly false)) 7 (by kernel_rfl) B1_.out ?_
 refine tkp gS1 0 rfl ?_
 try simp only [Act.put, zq]
 refine tk gS1 1 rfl (lg' (fun _ hS_ => pv_x (hS_)) Tryz.underlying26 (i24 L_lx.out)) ?_
 try simp only [Act.put, zq]
 refine tkp gS1 2 rfl ?_
 try simp only [Act.put, zq]
 refine tk gS1 3 rfl (lg' (fun _ hS_ => pv_y (hS_) L_lx.out) Tryz.underlying26 (i24 L_ly.out)) ?_
 try simp only [Act.put, zq]
 refine tkp gS1 4 rfl ?_
 try simp only [Act.put, zq]
 refine tk gS1 5 rfl (buildG (by rfl) _ _ rfl _ (bu108 L_lx.out L_ly.out) (by simp [Act.eval])) ?_
 try simp only [Act.put, zq]
 refine wpAnyG_def (i := 6) (j := 7) gS1 (by kernel_rfl) (by kernel_rfl) (by kernel_rfl) rfl rfl rfl (allocG (by rfl) rfl _ alloc108) (lenEq (show (natsV .u64 (zeros 12)).length = 12 from rfl) (tv_len L_lx.out L_ly.out (wds_len 4 1))) (fun _ => StoresG.mk (cs := (tv lx ly (wds 4 1))) (by rfl) 97 _ _ rfl rfl rfl (i108 L_lx.out L_ly.out (wds_len 4 1)) (tv_one _ _ _)) ?_
 intro w1 G2 hgw1 hz_ hn_
 try simp only [Act.put, zq]
 have NE3 := Hd (Nat.ne_of_lt (Nat.lt_of_lt_of_le B0_.out.lt hz_))
 have NE4 := Hd (Nat.ne_of_lt (Nat.lt_of_lt_of_le B1_.out.lt hz_))
 have NE5 := Hd (Nat.ne_of_lt (Nat.lt_of_lt_of_le B2_.out.lt hz_))
 have NE6 := Hd (Nat.ne_of_lt (Nat.lt_of_lt_of_le B3_.out.lt hz_))
 have GE7 := Hd (Nat.le_trans bel_.size hz_)
 have C8 := gq' B0_ hgw1
 have C9 := gq' B1_ hgw1
 have C10 := gq' B2_ hgw1
 have C11 := gq' B3_ hgw1
 have hbel12 := bel_.trans (Below.mono hgw1 bel_.size)
 have D13 := Hd hn_
 clear B0_ B1_ B2_ B3_ bel_ hn_ hz_ hgw1
 as_aux_lemma =>
 have cj := pv_i C9.out L_lx.out L_ly.out
 go_wp2_with fail
 go_loopw [7] (fun i wr => ∃ n : Nat, n ≤ 4 ∧ i = .int .i64 ((n : Int) - 1) ∧ Blk wr w.heap.size 26 (natsV .u64 lu) ∧ Blk wr (w.heap.size + 1) 28 (pv lx ly false) ∧ Blk wr (w.heap.size + 1 + 1) 28 (pv (zeros 4) (zeros 4) false) ∧ Blk wr (w.heap.size + 1 + 1 + 1) 97 (tv (X (64 * n)) (Y (64 * n)) (Z (64 * n))) ∧ Blk wr G2 97 (tv lx ly (wds 4 1)) ∧ Below w.heap.size w wr) (fun i _ => (intOf i + 1).toNat)
 case atStart => exact ⟨4, by omega, rfl, C8.out, C9.out, C10.out, by rw [show 64 * 4 = 256 from rfl, HhX.out, HhY.out, HhZ.out]; exact C11.out, D13.out, hbel12⟩
 case round =>
   clear C8 C9 C10 C11 D13 hbel12
   obtain ⟨n, hn, rfl, ku_, kp_, kr4_, kv5_, kv6_, hbel⟩ := hrel
   have Ku := Hd ku_
   have Kp := Hd kp_
   have Kr4 := Hd kr4_
   have Kv5 := Hd kv5_
   have Kv6 := Hd kv6_
   clear ku_ kp_ kr4_ kv5_ kv6_
   rcases n with _ | n
   · as_aux_lemma =>
     rw [show ((0 : Nat) : Int) - 1 = -1 from rfl]
     rw [show 64 * 0 = 0 from rfl] at Kv5
     have qz := QZ.out
     go_wp2_with (first | (refine lm' (tv_z (Kv5.out) (LF_X.out 0) (LF_Y.out 0)) Tryz.underlying26 (i24 (LF_Z.out 0)) ?_) | (refine stB rfl 28 (.tmp 4) (.tmp 43) rfl (w.heap.size + 1 + 1) rfl (pv (zeros 4) (zeros 4) true) rfl 28 (pv (zeros 4) (zeros 4) false) Kr4.out (i43 rfl rfl) (lenEq pz9 (show (pv (zeros 4) (zeros 4) true).length = 9 from rfl)) p1_ ?_))
     refine bodyPost_ret (v := .agg (pv (zeros 4) (zeros 4) true).toArray) ?_ rfl ⟨rfl, below_setRow' hbel (by first | exact Nat.le_refl _ | omega) _⟩
     exact results_cell_row Tryz.results42 _ _ (w.heap.size + 1 + 1) 28 _ (0, 0) _ rfl (Kr4.out.setRow _) Tryz.underlying28 rfl (by simpa using (i43 rfl rfl))
   · rw [show ((n + 1 : Nat) : Int) - 1 = (n : Int) by omega]
     have hn4 : n < 4 := by omega
     have hnn : (0 : Int) ≤ (n : Int) := by omega
     have hni : (n : Int) < 4 := by omega
     go_wp2_with fail
     go_loopw [8] (fun bb wr => ∃ j : Nat, j ≤ 64 ∧ bb = .int .u64 ((2 ^ j / 2 : Nat) : Int) ∧ Blk wr w.heap.size 26 (natsV .u64 lu) ∧ Blk wr (w.heap.size + 1) 28 (pv lx ly false) ∧ Blk wr (w.heap.size + 1 + 1) 28 (pv (zeros 4) (zeros 4) false) ∧ Blk wr (w.heap.size + 1 + 1 + 1) 97 (tv (X (64 * n + j)) (Y (64 * n + j)) (Z (64 * n + j))) ∧ Blk wr G2 97 (tv lx ly (wds 4 1)) ∧ Below w.heap.size w wr) (fun bb _ => (intOf bb).toNat)
     case atStart => exact ⟨64, by omega, by first | rfl | decide, Ku.out, Kp.out, Kr4.out, by rw [show 64 * n + 64 = 64 * (n + 1) by omega]; exact Kv5.out, Kv6.out, hbel⟩
     case round =>
       clear Ku Kp Kr4 Kv5 Kv6 hbel
       obtain ⟨j, hj, rfl, ku_, kp_, kr4_, kv5_, kv6_, hbel⟩ := hrel
       have Ku := Hd ku_
       have Kp := Hd kp_
       have Kr4 := Hd kr4_
       have Kv5 := Hd kv5_
       have Kv6 := Hd kv6_
       clear ku_ kp_ kr4_ kv5_ kv6_
       rcases j with _ | j
       · as_aux_lemma =>
         rw [show ((2 ^ 0 / 2 : Nat) : Int) = 0 from rfl]
         go_wp2_with fail
         go_roundw
         case rel => exact ⟨n, by omega, by go_num, Ku.out, Kp.out, Kr4.out, Kv5.out, Kv6.out, hbel⟩
         case measure => simp [intOf] <;> omega
       · as_aux_lemma =>
         have hj64 : j < 64 := by omega
         have hp : 2 ^ (j + 1) / 2 = 2 ^ j := by rw [Nat.pow_succ, Nat.mul_div_cancel _ (by decide)]
         rw [hp]
         have hpl : 2 ^ j < 2 ^ 64 := Nat.pow_lt_pow_right (by decide) hj64
         have hpp : 0 < 2 ^ j := Nat.two_pow_pos j
         have hd := dgt_lt (B := 2 ^ 64) (by decide) u n
         have hand := and_pow (dgt (2 ^ 64) u n) j hd hj64
         rw [word_bit u n j hj64] at hand
         have AEn : lu.getD n 0 = dgt (2 ^ 64) u n := by rw [Hhlu_.out]; exact wds_at 4 u n hn4
         have hlul := L_lu.out
         obtain ⟨q, hq⟩ : ∃ q, q = 64 * n + j := ⟨_, rfl⟩
         have hq256 : q < 256 := by omega
         have HD := Hd (Hcd.out q hq256)
         have HP1 := Hd (Hcp.out q hq256)
         have HP0 := Hd (Hc0.out q hq256)
         rw [← hq] at hand
         rw [show 64 * n + (j + 1) = q + 1 by omega] at Kv5
         have HQ := Hd hq
         clear hq
         have hbit : u / 2 ^ q % 2 = 0 ∨ u / 2 ^ q % 2 = 1 := Nat.mod_two_eq_zero_or_one _
         have hhalf : ((2 ^ j : Nat) : Int) / 2 = ((2 ^ j / 2 : Nat) : Int) := rfl
         have hwh : IntKind.u64.wrap ((2 ^ j / 2 : Nat) : Int) = ((2 ^ j / 2 : Nat) : Int) := u64_in _ (Nat.lt_of_le_of_lt (Nat.div_le_self _ _) hpl)
         have hdlt : 2 ^ j / 2 < 2 ^ j := Nat.div_lt_self hpp (by decide)
         generalize u / 2 ^ q % 2 = bt at *
         generalize dgt (2 ^ 64) u n = d at *
         obtain ⟨hf, hhf⟩ : ∃ z, z = 2 ^ j / 2 := ⟨_, rfl⟩
         rw [← hhf] at hhalf hwh hdlt
         have HHF := Hd hhf
         clear hhf
         obtain ⟨pp, hp2⟩ : ∃ p, p = 2 ^ j := ⟨_, rfl⟩
         rw [← hp2] at hpl hpp hand hhalf hdlt ⊢
         clear hp2 hp
         have hpz : (0 : Int) < (pp : Int) := by omega
         rcases hbit with rfl | rfl
         · have hz0 : 0 * pp = 0 := Nat.zero_mul pp
           rw [hz0] at hand
           go_wp2_with (first | (refine lm' (blk_all (Kv5.out)) Tryz.underlying97 (i108 (LF_X.out (q + 1)) (LF_Y.out (q + 1)) (LF_Z.out (q + 1))) ?_) | (refine lm' (blk_all (Kv5.out)) Tryz.underlying97 (i108 (LF_X.out (q + 1)) (LF_Y.out (q + 1)) (LF_Z.out (q + 1))) ?_))
           refine (HD.out _).mono ?_
           rintro e w14 ⟨rfl, hbw14⟩
           have C15 := Hd (Ku.out.gr hbw14)
           have C16 := Hd (Kp.out.gr hbw14)
           have C17 := Hd (Kr4.out.gr hbw14)
           have C18 := Hd (Kv5.out.gr hbw14)
           have C19 := Hd (Kv6.out.gr hbw14)
           have hbel20 := hbel.trans (Below.mono hbw14 hbel.size)
           clear Ku Kp Kr4 Kv5 Kv6 hbel hbw14
           go_wp2_with (first | (refine stB rfl 97 (.tmp 5) (.tmp 29) rfl (w.heap.size + 1 + 1 + 1) rfl (tv (DX q) (DY q) (DZ q)) rfl 97 (tv (X (q + 1)) (Y (q + 1)) (Z (q + 1))) C18.out (i108 (LF_DX.out q) (LF_DY.out q) (LF_DZ.out q)) (lenEq (tv_len (LF_X.out (q + 1)) (LF_Y.out (q + 1)) (LF_Z.out (q + 1))) (tv_len (LF_DX.out q) (LF_DY.out q) (LF_DZ.out q))) (tv_one _ _ _) ?_; generalize hW : World.setRow _ _ _ = w21; obtain ⟨hgw21, hnw21⟩ := setfacts hW C18.out; clear hW; have E22 := Hd (C15.out.grown hgw21 (fun e => (show w.heap.size ≠ (w.heap.size + 1 + 1 + 1) by omega) (Option.some.inj e))); clear C15; have E23 := Hd (C16.out.grown hgw21 (fun e => (show (w.heap.size + 1) ≠ (w.heap.size + 1 + 1 + 1) by omega) (Option.some.inj e))); clear C16; have E24 := Hd (C17.out.grown hgw21 (fun e => (show (w.heap.size + 1 + 1) ≠ (w.heap.size + 1 + 1 + 1) by omega) (Option.some.inj e))); clear C17; have E25 := Hd (C19.out.grown hgw21 (fun e => (Ne.symm NE6.out) (Option.some.inj e))); clear C19; have D26 := Hd hnw21; clear hnw21 C18; have hbel27 := belStore hbel20 hgw21 (show w.heap.size ≤ (w.heap.size + 1 + 1 + 1) by omega); clear hgw21; clear hbel20; have c0 := E22.out.nat n (by rw [hlul]; exact hn4); rw [AEn] at c0))
           obtain ⟨eX, eY, eZ⟩ := HP0.out (by first | trivial | rfl)
           go_roundw
           case rel => exact ⟨j, by omega, by rw [← HHF.out], E22.out, E23.out, E24.out, by rw [← HQ.out, eX, eY, eZ]; exact D26.out, E25.out, hbel27⟩
           case measure => simp [intOf] <;> omega
         · have hz0 : 1 * pp = pp := Nat.one_mul pp
           rw [hz0] at hand
           have hne : ((pp : Int) != 0) = true := by simp; omega
           go_wp2_with (first | (refine lm' (blk_all (Kv5.out)) Tryz.underlying97 (i108 (LF_X.out (q + 1)) (LF_Y.out (q + 1)) (LF_Z.out (q + 1))) ?_) | (refine lm' (blk_all (Kv5.out)) Tryz.underlying97 (i108 (LF_X.out (q + 1)) (LF_Y.out (q + 1)) (LF_Z.out (q + 1))) ?_))
           refine (HD.out _).mono ?_
           rintro e w28 ⟨rfl, hbw28⟩
           have C29 := Hd (Ku.out.gr hbw28)
           have C30 := Hd (Kp.out.gr hbw28)
           have C31 := Hd (Kr4.out.gr hbw28)
           have C32 := Hd (Kv5.out.gr hbw28)
           have C33 := Hd (Kv6.out.gr hbw28)
           have hbel34 := hbel.trans (Below.mono hbw28 hbel.size)
           clear Ku Kp Kr4 Kv5 Kv6 hbel hbw28
           go_wp2_with (first | (refine stB rfl 97 (.tmp 5) (.tmp 29) rfl (w.heap.size + 1 + 1 + 1) rfl (tv (DX q) (DY q) (DZ q)) rfl 97 (tv (X (q + 1)) (Y (q + 1)) (Z (q + 1))) C32.out (i108 (LF_DX.out q) (LF_DY.out q) (LF_DZ.out q)) (lenEq (tv_len (LF_X.out (q + 1)) (LF_Y.out (q + 1)) (LF_Z.out (q + 1))) (tv_len (LF_DX.out q) (LF_DY.out q) (LF_DZ.out q))) (tv_one _ _ _) ?_; generalize hW : World.setRow _ _ _ = w35; obtain ⟨hgw35, hnw35⟩ := setfacts hW C32.out; clear hW; have E36 := Hd (C29.out.grown hgw35 (fun e => (show w.heap.size ≠ (w.heap.size + 1 + 1 + 1) by omega) (Option.some.inj e))); clear C29; have E37 := Hd (C30.out.grown hgw35 (fun e => (show (w.heap.size + 1) ≠ (w.heap.size + 1 + 1 + 1) by omega) (Option.some.inj e))); clear C30; have E38 := Hd (C31.out.grown hgw35 (fun e => (show (w.heap.size + 1 + 1) ≠ (w.heap.size + 1 + 1 + 1) by omega) (Option.some.inj e))); clear C31; have E39 := Hd (C33.out.grown hgw35 (fun e => (Ne.symm NE6.out) (Option.some.inj e))); clear C33; have D40 := Hd hnw35; clear hnw35 C32; have hbel41 := belStore hbel34 hgw35 (show w.heap.size ≤ (w.heap.size + 1 + 1 + 1) by omega); clear hgw35; clear hbel34; have c0 := E36.out.nat n (by rw [hlul]; exact hn4); rw [AEn] at c0) | (refine lm' (blk_all (D40.out)) Tryz.underlying97 (i108 (LF_DX.out q) (LF_DY.out q) (LF_DZ.out q)) ?_) | (refine lm' (blk_all (E39.out)) Tryz.underlying97 (i108 L_lx.out L_ly.out (wds_len 4 1)) ?_))
           refine (HP1.out (by first | trivial | rfl) _).mono ?_
           rintro e w42 ⟨rfl, hbw42⟩
           have C43 := gq' E36 hbw42
           have C44 := gq' E37 hbw42
           have C45 := gq' E38 hbw42
           have C46 := gq' D40 hbw42
           have C47 := gq' E39 hbw42
           have hbel48 := hbel41.trans (Below.mono hbw42 hbel41.size)
           clear E36 E37 E38 D40 E39 hbel41 hbw42
           go_wp2_with (first | (refine stB rfl 97 (.tmp 5) (.tmp 38) rfl (w.heap.size + 1 + 1 + 1) rfl (tv (X q) (Y q) (Z q)) rfl 97 (tv (DX q) (DY q) (DZ q)) C46.out (i108 (LF_X.out q) (LF_Y.out q) (LF_Z.out q)) (lenEq (tv_len (LF_DX.out q) (LF_DY.out q) (LF_DZ.out q)) (tv_len (LF_X.out q) (LF_Y.out q) (LF_Z.out q))) (tv_one _ _ _) ?_; generalize hW : World.setRow _ _ _ = w49; obtain ⟨hgw49, hnw49⟩ := setfacts hW C46.out; clear hW; have E50 := Hd (C43.out.grown hgw49 (fun e => (show w.heap.size ≠ (w.heap.size + 1 + 1 + 1) by omega) (Option.some.inj e))); clear C43; have E51 := Hd (C44.out.grown hgw49 (fun e => (show (w.heap.size + 1) ≠ (w.heap.size + 1 + 1 + 1) by omega) (Option.some.inj e))); clear C44; have E52 := Hd (C45.out.grown hgw49 (fun e => (show (w.heap.size + 1 + 1) ≠ (w.heap.size + 1 + 1 + 1) by omega) (Option.some.inj e))); clear C45; have E53 := Hd (C47.out.grown hgw49 (fun e => (Ne.symm NE6.out) (Option.some.inj e))); clear C47; have D54 := Hd hnw49; clear hnw49 C46; have hbel55 := belStore hbel48 hgw49 (show w.heap.size ≤ (w.heap.size + 1 + 1 + 1) by omega); clear hgw49; clear hbel48))
           go_roundw
           case rel => exact ⟨j, by omega, by rw [← HHF.out], E50.out, E51.out, E52.out, by rw [← HQ.out]; exact D54.out, E53.out, hbel55⟩
           case measure => simp [intOf] <;> omega
end Go.Proofs.YtdkkombpkojjaaaGreat
