/- Parts of proofs of statements, each text behind those that it stands on. No condition of its own. -/
import Derived.Test.YtfffmoolkgheaaaZ38
namespace Go.Proofs.Ytfffmoolkgheaaa
open Go.RowKit
set_option linter.unusedVariables false
set_option linter.unusedSimpArgs false
set_option maxRecDepth 100000 in
set_option maxHeartbeats 6400000 in
theorem dmul_aff_aff {lu lx ly lp iv nx ny : List Nat} {X Y Z DX DY DZ : Nat → List Nat} {u : Nat} (hlu : lu.length = 4) (hlx : lx.length = 4) (hly : ly.length = 4) (hlp : lp.length = 4) (hiv : iv.length = 4) (hnx : nx.length = 4) (hny : ny.length = 4) (hFX : ∀ t, (X t).length = 4) (hFY : ∀ t, (Y t).length = 4) (hFZ : ∀ t, (Z t).length = 4) (hFDX : ∀ t, (DX t).length = 4) (hFDY : ∀ t, (DY t).length = 4) (hFDZ : ∀ t, (DZ t).length = 4)
    (hlu_ : lu = wds 4 u) (hX : X 256 = zeros 4) (hY : Y 256 = zeros 4) (hZ : Z 256 = zeros 4)
    (cd : ∀ t, t < 256 → ∀ w, Calls Try.prog 86 #[.agg (tv (X (t + 1)) (Y (t + 1)) (Z (t + 1))).toArray, .agg (tv (X (t + 1)) (Y (t + 1)) (Z (t + 1))).toArray] w fun e w' => e = .returned (.agg (tv (DX t) (DY t) (DZ t)).toArray) ∧ Below w.heap.size w w')
    (c0 : ∀ t, t < 256 → u / 2 ^ t % 2 = 0 → X t = DX t ∧ Y t = DY t ∧ Z t = DZ t)
    (cp : ∀ t, t < 256 → u / 2 ^ t % 2 = 1 → ∀ w, Calls Try.prog 86 #[.agg (tv (DX t) (DY t) (DZ t)).toArray, .agg (tv lx ly (wds 4 1)).toArray] w fun e w' => e = .returned (.agg (tv (X t) (Y t) (Z t)).toArray) ∧ Below w.heap.size w w')
    (hz : ¬ Z 0 = zeros 4) (c1 : ∀ w, Calls Try.prog 56 #[] w fun e w' => e = .returned (.agg (natsV .u64 lp).toArray) ∧ Below w.heap.size w w') (c2 : ∀ w, Calls Try.prog 84 #[.agg (natsV .u64 (Z 0)).toArray, .agg (natsV .u64 lp).toArray] w fun e w' => e = .returned (.agg (natsV .u64 iv).toArray) ∧ Below w.heap.size w w') (c3 : ∀ w, Calls Try.prog 87 #[.agg (natsV .u64 (X 0)).toArray, .agg (natsV .u64 iv).toArray] w fun e w' => e = .returned (.agg (natsV .u64 nx).toArray) ∧ Below w.heap.size w w') (c4 : ∀ w, Calls Try.prog 87 #[.agg (natsV .u64 (Y 0)).toArray, .agg (natsV .u64 iv).toArray] w fun e w' => e = .returned (.agg (natsV .u64 ny).toArray) ∧ Below w.heap.size w w')
    (w : World) :
    Calls Try.prog 42 #[.agg (natsV .u64 lu).toArray, .agg (pv lx ly false).toArray] w fun e w' => e = .returned (.agg (pv nx ny false).toArray) ∧ Below w.heap.size w w' := by
  have L_lu := Lib.hid hlu
  clear hlu
  have L_lx := Lib.hid hlx
  clear hlx
  have L_ly := Lib.hid hly
  clear hly
  have L_lp := Lib.hid hlp
  clear hlp
  have L_iv := Lib.hid hiv
  clear hiv
  have L_nx := Lib.hid hnx
  clear hnx
  have L_ny := Lib.hid hny
  clear hny
  have LF_X := Lib.hid hFX
  clear hFX
  have LF_Y := Lib.hid hFY
  clear hFY
  have LF_Z := Lib.hid hFZ
  clear hFZ
  have LF_DX := Lib.hid hFDX
  clear hFDX
  have LF_DY := Lib.hid hFDY
  clear hFDY
  have LF_DZ := Lib.hid hFDZ
  clear hFDZ
  have Hcd := Lib.hid cd
  clear cd
  have Hc0 := Lib.hid c0
  clear c0
  have Hcp := Lib.hid cp
  clear cp
  have HhX := Lib.hid hX
  clear hX
  have HhY := Lib.hid hY
  clear hY
  have HhZ := Lib.hid hZ
  clear hZ
  have Hhlu_ := Lib.hid hlu_
  clear hlu_
  have Hc1 := Lib.hid c1
  clear c1
  have Hc2 := Lib.hid c2
  clear c2
  have Hc3 := Lib.hid c3
  clear c3
  have Hc4 := Lib.hid c4
  clear c4
  have QZ := Lib.hid (fun w => (eqZ24 (Z 0) (LF_Z.out 0) w).trans (by rw [decide_eq_false hz]))
  clear hz
  have B0_ := Lib.hid ((((Blk.new w  24 (natsV .u64 lu)).alloc (.cells (pv lx ly false).toArray 43)).alloc (.cells (pv (zeros 4) (zeros 4) false).toArray 43)).alloc (.cells (tv (zeros 4) (zeros 4) (zeros 4)).toArray 108))
  have B1_ := Lib.hid (((Blk.new2 w (.cells (natsV .u64 lu).toArray 24) 43 (pv lx ly false)).alloc (.cells (pv (zeros 4) (zeros 4) false).toArray 43)).alloc (.cells (tv (zeros 4) (zeros 4) (zeros 4)).toArray 108))
  have B2_ := Lib.hid ((Blk.new3 w (.cells (natsV .u64 lu).toArray 24) (.cells (pv lx ly false).toArray 43) 43 (pv (zeros 4) (zeros 4) false)).alloc (.cells (tv (zeros 4) (zeros 4) (zeros 4)).toArray 108))
  have B3_ := Lib.hid (Blk.new4 w (.cells (natsV .u64 lu).toArray 24) (.cells (pv lx ly false).toArray 43) (.cells (pv (zeros 4) (zeros 4) false).toArray 43) 108 (tv (zeros 4) (zeros 4) (zeros 4)))
  have bel_ := (((((Below.refl w.heap.size w).alloc (Nat.le_refl _) (.cells (natsV .u64 lu).toArray 24)).alloc (by simp) (.cells (pv lx ly false).toArray 43)).alloc (by simp; omega) (.cells (pv (zeros 4) (zeros 4) false).toArray 43)).alloc (by simp; omega) (.cells (tv (zeros 4) (zeros 4) (zeros 4)).toArray 108))
  go_enter Try.func42, Try.ntmps42
  have ci := pv_i B1_.out L_lx.out L_ly.out
  go_upto_region 2 with (fail)
  try simp only [Act.put, zq1, zq2, zq3, zq4, zq5, zq6]
  as_aux_lemma =>
  refine wp_region_P (fun w_ => Blk w_ (w.heap.size + 1) 43 (pv lx ly false)) 7 (by kernel_rfl) B1_.out ?_
  refine wpAnyG_take (fun _ _ hS_ hb_ => hS_.gr hb_) (i := 0) rfl (by kernel_rfl) (fun _ _ _ h => h) (pureG (by rfl) (by intro w; go_simp; first | done | with_reducible rfl)) ?_
  try simp only [Act.put, zq1, zq2, zq3, zq4, zq5, zq6]
  refine wpAnyG_take (fun _ _ hS_ hb_ => hS_.gr hb_) (i := 1) rfl (by kernel_rfl) (fun _ _ _ h => h) (loadG (by rfl) _ _ rfl _ _ rfl (natsV .u64 lx) _ (fun _ hS_ => pv_x (hS_)) Try.underlying24 rfl (i24 L_lx.out)) ?_
  try simp only [Act.put, zq1, zq2, zq3, zq4, zq5, zq6]
  refine wpAnyG_take (fun _ _ hS_ hb_ => hS_.gr hb_) (i := 2) rfl (by kernel_rfl) (fun _ _ _ h => h) (pureG (by rfl) (by intro w; go_simp; first | done | with_reducible rfl)) ?_
  try simp only [Act.put, zq1, zq2, zq3, zq4, zq5, zq6]
  refine wpAnyG_take (fun _ _ hS_ hb_ => hS_.gr hb_) (i := 3) rfl (by kernel_rfl) (fun _ _ _ h => h) (loadG (by rfl) _ _ rfl _ _ rfl (natsV .u64 ly) _ (fun _ hS_ => pv_y (hS_) L_lx.out) Try.underlying24 rfl (i24 L_ly.out)) ?_
  try simp only [Act.put, zq1, zq2, zq3, zq4, zq5, zq6]
  refine wpAnyG_take (fun _ _ hS_ hb_ => hS_.gr hb_) (i := 4) rfl (by kernel_rfl) (fun _ _ _ h => h) (pureG (by rfl) (by intro w; go_simp; first | done | with_reducible rfl)) ?_
  try simp only [Act.put, zq1, zq2, zq3, zq4, zq5, zq6]
  refine wpAnyG_take (fun _ _ hS_ hb_ => hS_.gr hb_) (i := 5) rfl (by kernel_rfl) (fun _ _ _ h => h) (buildG (by rfl) _ _ rfl _ (bu108 L_lx.out L_ly.out) (by simp [Act.eval])) ?_
  try simp only [Act.put, zq1, zq2, zq3, zq4, zq5, zq6]
  refine wpAnyG_def (i := 6) (j := 7) (fun _ _ hS_ hb_ => hS_.gr hb_) (by kernel_rfl) (by kernel_rfl) (by kernel_rfl) rfl rfl rfl (allocG (by rfl) rfl _ alloc108) (lenEq (show (natsV .u64 (zeros 12)).length = 12 from rfl) (tv_len L_lx.out L_ly.out (wds_len 4 1))) (fun _ => StoresG.mk (cs := (tv lx ly (wds 4 1))) (by rfl) 108 _ _ rfl rfl rfl (i108 L_lx.out L_ly.out (wds_len 4 1)) (tv_one _ _ _)) ?_
  intro w1 G2 hgw1 hz_ hn_
  try simp only [Act.put, zq1, zq2, zq3, zq4, zq5, zq6]
  have NE3 := Lib.hid (Nat.ne_of_lt (Nat.lt_of_lt_of_le B0_.out.lt hz_))
  have NE4 := Lib.hid (Nat.ne_of_lt (Nat.lt_of_lt_of_le B1_.out.lt hz_))
  have NE5 := Lib.hid (Nat.ne_of_lt (Nat.lt_of_lt_of_le B2_.out.lt hz_))
  have NE6 := Lib.hid (Nat.ne_of_lt (Nat.lt_of_lt_of_le B3_.out.lt hz_))
  have GE7 := Lib.hid (Nat.le_trans bel_.size hz_)
  have C8 := Lib.hid (B0_.out.gr hgw1)
  clear B0_
  have C9 := Lib.hid (B1_.out.gr hgw1)
  clear B1_
  have C10 := Lib.hid (B2_.out.gr hgw1)
  clear B2_
  have C11 := Lib.hid (B3_.out.gr hgw1)
  clear B3_
  have hbel12 := bel_.trans (Below.mono hgw1 bel_.size)
  clear bel_
  have D13 := Lib.hid hn_
  clear hn_ hz_ hgw1
  as_aux_lemma =>
  have cj := pv_i C9.out L_lx.out L_ly.out
  go_wp2_with fail
  go_loopw [7] (fun i wr => ∃ n : Nat, n ≤ 4 ∧ i = .int .i64 ((n : Int) - 1) ∧ Blk wr w.heap.size 24 (natsV .u64 lu) ∧ Blk wr (w.heap.size + 1) 43 (pv lx ly false) ∧ Blk wr (w.heap.size + 1 + 1) 43 (pv (zeros 4) (zeros 4) false) ∧ Blk wr (w.heap.size + 1 + 1 + 1) 108 (tv (X (64 * n)) (Y (64 * n)) (Z (64 * n))) ∧ Blk wr G2 108 (tv lx ly (wds 4 1)) ∧ Below w.heap.size w wr) (fun i _ => (intOf i + 1).toNat)
  case atStart => exact ⟨4, by omega, rfl, C8.out, C9.out, C10.out, by rw [show 64 * 4 = 256 from rfl, HhX.out, HhY.out, HhZ.out]; exact C11.out, D13.out, hbel12⟩
  case round =>
    clear C8 C9 C10 C11 D13 hbel12
    obtain ⟨n, hn, rfl, ku_, kp_, kr4_, kv5_, kv6_, hbel⟩ := hrel
    have Ku := Lib.hid ku_
    have Kp := Lib.hid kp_
    have Kr4 := Lib.hid kr4_
    have Kv5 := Lib.hid kv5_
    have Kv6 := Lib.hid kv6_
    clear ku_ kp_ kr4_ kv5_ kv6_
    rcases n with _ | n
    · as_aux_lemma =>
      rw [show ((0 : Nat) : Int) - 1 = -1 from rfl]
      rw [show 64 * 0 = 0 from rfl] at Kv5
      have qz := QZ.out
      go_wp2_with (first | (refine wpList_load_mid rfl 24 (.tmp 39) rfl (w.heap.size + 1 + 1 + 1) 8 rfl (natsV .u64 (Z 0)) _ (tv_z (Kv5.out) (LF_X.out 0) (LF_Y.out 0)) Try.underlying24 rfl (i24 (LF_Z.out 0)) ?_))
      as_aux_lemma =>
      refine wp_region_G (fun w_ => Blk w_ (w.heap.size + 1 + 1 + 1) 108 (tv (X 0) (Y 0) (Z 0))) 5 (by kernel_rfl) Kv5.out.drew ?_
      refine wpAnyG_take (fun _ _ hS_ hb_ => hS_.gr hb_) (i := 0) rfl (by kernel_rfl) (fun _ _ _ h => h) (pureG (by rfl) (by intro w; go_simp; first | done | with_reducible rfl)) ?_
      try simp only [Act.put, zq1, zq2, zq3, zq4, zq5, zq6]
      refine wpAnyG_take (fun _ _ hS_ hb_ => hS_.gr hb_) (i := 1) rfl (by kernel_rfl) (fun _ _ _ h => h) (loadG (by rfl) _ _ rfl _ _ rfl (natsV .u64 (Z 0)) _ (fun _ hS_ => tv_z (hS_) (LF_X.out 0) (LF_Y.out 0)) Try.underlying24 rfl (i24 (LF_Z.out 0))) ?_
      try simp only [Act.put, zq1, zq2, zq3, zq4, zq5, zq6]
      refine wpAnyG_take (fun _ _ hS_ hb_ => hS_.gr hb_) (i := 2) rfl (by kernel_rfl) (fun _ _ _ h => h) (callG (by rfl) rfl Try.func56 (by kernel_rfl) (by kernel_rfl) (#[]) (by simp [Act.eval]) (fun w _ => Hc1.out w)) ?_
      try simp only [Act.put, zq1, zq2, zq3, zq4, zq5, zq6]
      refine wpAnyG_take (fun _ _ hS_ hb_ => hS_.gr hb_) (i := 3) rfl (by kernel_rfl) (fun _ _ _ h => h) (callG (by rfl) rfl Try.func84 (by kernel_rfl) (by kernel_rfl) (#[.agg (natsV .u64 (Z 0)).toArray, .agg (natsV .u64 lp).toArray]) (by simp [Act.eval]) (fun w _ => Hc2.out w)) ?_
      try simp only [Act.put, zq1, zq2, zq3, zq4, zq5, zq6]
      refine wpAnyG_def (i := 4) (j := 5) (fun _ _ hS_ hb_ => hS_.gr hb_) (by kernel_rfl) (by kernel_rfl) (by kernel_rfl) rfl rfl rfl (allocG (by rfl) rfl _ alloc24) (lenEq (show (natsV .u64 (zeros 4)).length = 4 from rfl) (by rw [natsV_length, L_iv.out])) (fun _ => StoresG.mk (cs := (natsV .u64 iv)) (by rfl) 24 _ _ rfl rfl rfl (i24 L_iv.out) (natsV_one _ _)) ?_
      intro w14 G15 hgw14 hz_ hn_
      try simp only [Act.put, zq1, zq2, zq3, zq4, zq5, zq6]
      have NE16 := Lib.hid (Nat.ne_of_lt (Nat.lt_of_lt_of_le Kv5.out.drew.lt hz_))
      have NE17 := Lib.hid (Nat.ne_of_lt (Nat.lt_of_lt_of_le Kv6.out.drew.lt hz_))
      have E18 := Lib.hid (Ku.out.drew.gr hgw14)
      clear Ku
      have E19 := Lib.hid (Kp.out.drew.gr hgw14)
      clear Kp
      have E20 := Lib.hid (Kr4.out.drew.gr hgw14)
      clear Kr4
      have E21 := Lib.hid (Kv5.out.drew.gr hgw14)
      clear Kv5
      have E22 := Lib.hid (Kv6.out.drew.gr hgw14)
      clear Kv6
      have hbel23 := hbel.drew.trans (Below.mono hgw14 hbel.drew.size)
      clear hbel
      have D24 := Lib.hid hn_
      clear hn_ hz_ hgw14
      as_aux_lemma =>
      go_wp2_with fail
      as_aux_lemma =>
      refine wp_region_G (fun w_ => Blk w_ (w.heap.size + 1 + 1 + 1) 108 (tv (X 0) (Y 0) (Z 0)) ∧ Blk w_ G15 24 (natsV .u64 iv)) 9 (by kernel_rfl) ⟨E21.out.drew, D24.out.drew⟩ ?_
      refine wpAnyG_take (fun _ _ hS_ hb_ => ⟨hS_.1.gr hb_, hS_.2.gr hb_⟩) (i := 0) rfl (by kernel_rfl) (fun _ _ _ h => h) (pureG (by rfl) (by intro w; go_simp; first | done | with_reducible rfl)) ?_
      try simp only [Act.put, zq1, zq2, zq3, zq4, zq5, zq6]
      refine wpAnyG_take (fun _ _ hS_ hb_ => ⟨hS_.1.gr hb_, hS_.2.gr hb_⟩) (i := 1) rfl (by kernel_rfl) (fun _ _ _ h => h) (loadG (by rfl) _ _ rfl _ _ rfl (natsV .u64 (X 0)) _ (fun _ hS_ => tv_x (hS_.1)) Try.underlying24 rfl (i24 (LF_X.out 0))) ?_
      try simp only [Act.put, zq1, zq2, zq3, zq4, zq5, zq6]
      refine wpAnyG_take (fun _ _ hS_ hb_ => ⟨hS_.1.gr hb_, hS_.2.gr hb_⟩) (i := 2) rfl (by kernel_rfl) (fun _ _ _ h => h) (loadG (by rfl) _ _ rfl _ _ rfl (natsV .u64 iv) _ (fun _ hS_ => blk_all (hS_.2)) Try.underlying24 rfl (i24 L_iv.out)) ?_
      try simp only [Act.put, zq1, zq2, zq3, zq4, zq5, zq6]
      refine wpAnyG_take (fun _ _ hS_ hb_ => ⟨hS_.1.gr hb_, hS_.2.gr hb_⟩) (i := 3) rfl (by kernel_rfl) (fun _ _ _ h => h) (callG (by rfl) rfl Try.func87 (by kernel_rfl) (by kernel_rfl) (#[.agg (natsV .u64 (X 0)).toArray, .agg (natsV .u64 iv).toArray]) (by simp [Act.eval]) (fun w _ => Hc3.out w)) ?_
      try simp only [Act.put, zq1, zq2, zq3, zq4, zq5, zq6]
      refine wpAnyG_take (fun _ _ hS_ hb_ => ⟨hS_.1.gr hb_, hS_.2.gr hb_⟩) (i := 4) rfl (by kernel_rfl) (fun _ _ _ h => h) (pureG (by rfl) (by intro w; go_simp; first | done | with_reducible rfl)) ?_
      try simp only [Act.put, zq1, zq2, zq3, zq4, zq5, zq6]
      refine wpAnyG_take (fun _ _ hS_ hb_ => ⟨hS_.1.gr hb_, hS_.2.gr hb_⟩) (i := 5) rfl (by kernel_rfl) (fun _ _ _ h => h) (loadG (by rfl) _ _ rfl _ _ rfl (natsV .u64 (Y 0)) _ (fun _ hS_ => tv_y (hS_.1) (LF_X.out 0)) Try.underlying24 rfl (i24 (LF_Y.out 0))) ?_
      try simp only [Act.put, zq1, zq2, zq3, zq4, zq5, zq6]
      refine wpAnyG_take (fun _ _ hS_ hb_ => ⟨hS_.1.gr hb_, hS_.2.gr hb_⟩) (i := 6) rfl (by kernel_rfl) (fun _ _ _ h => h) (loadG (by rfl) _ _ rfl _ _ rfl (natsV .u64 iv) _ (fun _ hS_ => blk_all (hS_.2)) Try.underlying24 rfl (i24 L_iv.out)) ?_
      try simp only [Act.put, zq1, zq2, zq3, zq4, zq5, zq6]
      refine wpAnyG_take (fun _ _ hS_ hb_ => ⟨hS_.1.gr hb_, hS_.2.gr hb_⟩) (i := 7) rfl (by kernel_rfl) (fun _ _ _ h => h) (callG (by rfl) rfl Try.func87 (by kernel_rfl) (by kernel_rfl) (#[.agg (natsV .u64 (Y 0)).toArray, .agg (natsV .u64 iv).toArray]) (by simp [Act.eval]) (fun w _ => Hc4.out w)) ?_
      try simp only [Act.put, zq1, zq2, zq3, zq4, zq5, zq6]
      refine wpAnyG_take (fun _ _ hS_ hb_ => ⟨hS_.1.gr hb_, hS_.2.gr hb_⟩) (i := 8) rfl (by kernel_rfl) (fun _ _ _ h => h) (buildG (by rfl) _ _ rfl _ (built43 L_nx.out L_ny.out) (by simp [Act.eval])) ?_
      try simp only [Act.put, zq1, zq2, zq3, zq4, zq5, zq6]
      refine wpAnyG_set (i := 9) (by kernel_rfl) (by kernel_rfl) rfl rfl E20.out.drew (lenEq (show (pv (zeros 4) (zeros 4) false).length = 9 from rfl) (pv_len L_nx.out L_ny.out)) (StoresG.mk (cs := (pv nx ny false)) (by rfl) 43 _ _ rfl rfl rfl (i43 L_nx.out L_ny.out) (pv_one _ _ _)) ?_
      intro w25 hgw25 hn_
      try simp only [Act.put, zq1, zq2, zq3, zq4, zq5, zq6]
      have hbel26 := belStore hbel23.drew hgw25 (show w.heap.size ≤ (w.heap.size + 1 + 1) by omega)
      have D27 := Lib.hid hn_
      go_wp2_with fail
      refine bodyPost_ret (v := .agg (pv nx ny false).toArray) ?_ rfl ⟨rfl, hbel26⟩
      exact results_cell_row Try.results42 _ _ (w.heap.size + 1 + 1) 43 _ (0, 0) _ rfl D27.out Try.underlying43 rfl (by simpa using (i43 L_nx.out L_ny.out))
    · rw [show ((n + 1 : Nat) : Int) - 1 = (n : Int) by omega]
      have hn4 : n < 4 := by omega
      have hnn : (0 : Int) ≤ (n : Int) := by omega
      have hni : (n : Int) < 4 := by omega
      go_wp2_with fail
      go_loopw [8] (fun bb wr => ∃ j : Nat, j ≤ 64 ∧ bb = .int .u64 ((2 ^ j / 2 : Nat) : Int) ∧ Blk wr w.heap.size 24 (natsV .u64 lu) ∧ Blk wr (w.heap.size + 1) 43 (pv lx ly false) ∧ Blk wr (w.heap.size + 1 + 1) 43 (pv (zeros 4) (zeros 4) false) ∧ Blk wr (w.heap.size + 1 + 1 + 1) 108 (tv (X (64 * n + j)) (Y (64 * n + j)) (Z (64 * n + j))) ∧ Blk wr G2 108 (tv lx ly (wds 4 1)) ∧ Below w.heap.size w wr) (fun bb _ => (intOf bb).toNat)
      case atStart => exact ⟨64, by omega, by first | rfl | decide, Ku.out, Kp.out, Kr4.out, by rw [show 64 * n + 64 = 64 * (n + 1) by omega]; exact Kv5.out, Kv6.out, hbel⟩
      case round =>
        clear Ku Kp Kr4 Kv5 Kv6 hbel
        obtain ⟨j, hj, rfl, ku_, kp_, kr4_, kv5_, kv6_, hbel⟩ := hrel
        have Ku := Lib.hid ku_
        have Kp := Lib.hid kp_
        have Kr4 := Lib.hid kr4_
        have Kv5 := Lib.hid kv5_
        have Kv6 := Lib.hid kv6_
        clear ku_ kp_ kr4_ kv5_ kv6_
        rcases j with _ | j
        · as_aux_lemma =>
          rw [show ((2 ^ 0 / 2 : Nat) : Int) = 0 from rfl]
          go_wp2_with fail
          go_roundw
          case rel => exact ⟨n, by omega, by go_num, Ku.out, Kp.out, Kr4.out, Kv5.out, Kv6.out, hbel⟩
          case measure => simp [intOf] <;> omega
        · as_aux_lemma =>
          have hj64 : j < 64 := by omega
          have hp : 2 ^ (j + 1) / 2 = 2 ^ j := by rw [Nat.pow_succ, Nat.mul_div_cancel _ (by decide)]
          rw [hp]
          have hpl : 2 ^ j < 2 ^ 64 := Nat.pow_lt_pow_right (by decide) hj64
          have hpp : 0 < 2 ^ j := Nat.two_pow_pos j
          have hd := dgt_lt (B := 2 ^ 64) (by decide) u n
          have hand := and_pow (dgt (2 ^ 64) u n) j hd hj64
          rw [word_bit u n j hj64] at hand
          have AEn : lu.getD n 0 = dgt (2 ^ 64) u n := by rw [Hhlu_.out]; exact wds_at 4 u n hn4
          have hlul := L_lu.out
          obtain ⟨q, hq⟩ : ∃ q, q = 64 * n + j := ⟨_, rfl⟩
          have hq256 : q < 256 := by omega
          have HD := Lib.hid (Hcd.out q hq256)
          have HP1 := Lib.hid (Hcp.out q hq256)
          have HP0 := Lib.hid (Hc0.out q hq256)
          rw [← hq] at hand
          rw [show 64 * n + (j + 1) = q + 1 by omega] at Kv5
          have HQ := Lib.hid hq
          clear hq
          have hbit : u / 2 ^ q % 2 = 0 ∨ u / 2 ^ q % 2 = 1 := Nat.mod_two_eq_zero_or_one _
          have hhalf : ((2 ^ j : Nat) : Int) / 2 = ((2 ^ j / 2 : Nat) : Int) := rfl
          have hwh : IntKind.u64.wrap ((2 ^ j / 2 : Nat) : Int) = ((2 ^ j / 2 : Nat) : Int) := u64_in _ (Nat.lt_of_le_of_lt (Nat.div_le_self _ _) hpl)
          have hdlt : 2 ^ j / 2 < 2 ^ j := Nat.div_lt_self hpp (by decide)
          generalize u / 2 ^ q % 2 = bt at *
          generalize dgt (2 ^ 64) u n = d at *
          obtain ⟨hf, hhf⟩ : ∃ z, z = 2 ^ j / 2 := ⟨_, rfl⟩
          rw [← hhf] at hhalf hwh hdlt
          have HHF := Lib.hid hhf
          clear hhf
          obtain ⟨pp, hp2⟩ : ∃ p, p = 2 ^ j := ⟨_, rfl⟩
          rw [← hp2] at hpl hpp hand hhalf hdlt ⊢
          clear hp2 hp
          have hpz : (0 : Int) < (pp : Int) := by omega
          rcases hbit with rfl | rfl
          · have hz0 : 0 * pp = 0 := Nat.zero_mul pp
            rw [hz0] at hand
            go_wp2_with (first | (refine wpList_load_mid rfl 108 (.tmp 5) rfl (w.heap.size + 1 + 1 + 1) 0 rfl (tv (X (q + 1)) (Y (q + 1)) (Z (q + 1))) _ (blk_all (Kv5.out)) Try.underlying108 rfl (i108 (LF_X.out (q + 1)) (LF_Y.out (q + 1)) (LF_Z.out (q + 1))) ?_) | (refine wpList_load_mid rfl 108 (.tmp 5) rfl (w.heap.size + 1 + 1 + 1) 0 rfl (tv (X (q + 1)) (Y (q + 1)) (Z (q + 1))) _ (blk_all (Kv5.out)) Try.underlying108 rfl (i108 (LF_X.out (q + 1)) (LF_Y.out (q + 1)) (LF_Z.out (q + 1))) ?_))
            refine (HD.out _).mono ?_
            rintro e w28 ⟨rfl, hbw28⟩
            have C29 := Lib.hid (Ku.out.gr hbw28)
            clear Ku
            have C30 := Lib.hid (Kp.out.gr hbw28)
            clear Kp
            have C31 := Lib.hid (Kr4.out.gr hbw28)
            clear Kr4
            have C32 := Lib.hid (Kv5.out.gr hbw28)
            clear Kv5
            have C33 := Lib.hid (Kv6.out.gr hbw28)
            clear Kv6
            have hbel34 := hbel.trans (Below.mono hbw28 hbel.size)
            clear hbel
            clear hbw28
            go_wp2_with (first | (refine stB rfl 108 (.tmp 5) (.tmp 29) rfl (w.heap.size + 1 + 1 + 1) rfl (tv (DX q) (DY q) (DZ q)) rfl 108 (tv (X (q + 1)) (Y (q + 1)) (Z (q + 1))) C32.out (i108 (LF_DX.out q) (LF_DY.out q) (LF_DZ.out q)) (lenEq (tv_len (LF_X.out (q + 1)) (LF_Y.out (q + 1)) (LF_Z.out (q + 1))) (tv_len (LF_DX.out q) (LF_DY.out q) (LF_DZ.out q))) (tv_one _ _ _) ?_; generalize hW : World.setRow _ _ _ = w35; obtain ⟨hgw35, hnw35⟩ := setfacts hW C32.out; clear hW; have E36 := Lib.hid (C29.out.grown hgw35 (fun e => (show w.heap.size ≠ (w.heap.size + 1 + 1 + 1) by omega) (Option.some.inj e))); clear C29; have E37 := Lib.hid (C30.out.grown hgw35 (fun e => (show (w.heap.size + 1) ≠ (w.heap.size + 1 + 1 + 1) by omega) (Option.some.inj e))); clear C30; have E38 := Lib.hid (C31.out.grown hgw35 (fun e => (show (w.heap.size + 1 + 1) ≠ (w.heap.size + 1 + 1 + 1) by omega) (Option.some.inj e))); clear C31; have E39 := Lib.hid (C33.out.grown hgw35 (fun e => (Ne.symm NE6.out) (Option.some.inj e))); clear C33; have D40 := Lib.hid hnw35; clear hnw35 C32; have hbel41 := belStore hbel34 hgw35 (show w.heap.size ≤ (w.heap.size + 1 + 1 + 1) by omega); clear hgw35; clear hbel34; have c0 := E36.out.nat n (by rw [hlul]; exact hn4); rw [AEn] at c0))
            obtain ⟨eX, eY, eZ⟩ := HP0.out (by first | trivial | rfl)
            go_roundw
            case rel => exact ⟨j, by omega, by rw [← HHF.out], E36.out, E37.out, E38.out, by rw [← HQ.out, eX, eY, eZ]; exact D40.out, E39.out, hbel41⟩
            case measure => simp [intOf] <;> omega
          · have hz0 : 1 * pp = pp := Nat.one_mul pp
            rw [hz0] at hand
            have hne : ((pp : Int) != 0) = true := by simp; omega
            go_wp2_with (first | (refine wpList_load_mid rfl 108 (.tmp 5) rfl (w.heap.size + 1 + 1 + 1) 0 rfl (tv (X (q + 1)) (Y (q + 1)) (Z (q + 1))) _ (blk_all (Kv5.out)) Try.underlying108 rfl (i108 (LF_X.out (q + 1)) (LF_Y.out (q + 1)) (LF_Z.out (q + 1))) ?_) | (refine wpList_load_mid rfl 108 (.tmp 5) rfl (w.heap.size + 1 + 1 + 1) 0 rfl (tv (X (q + 1)) (Y (q + 1)) (Z (q + 1))) _ (blk_all (Kv5.out)) Try.underlying108 rfl (i108 (LF_X.out (q + 1)) (LF_Y.out (q + 1)) (LF_Z.out (q + 1))) ?_))
            refine (HD.out _).mono ?_
            rintro e w42 ⟨rfl, hbw42⟩
            have C43 := Lib.hid (Ku.out.gr hbw42)
            clear Ku
            have C44 := Lib.hid (Kp.out.gr hbw42)
            clear Kp
            have C45 := Lib.hid (Kr4.out.gr hbw42)
            clear Kr4
            have C46 := Lib.hid (Kv5.out.gr hbw42)
            clear Kv5
            have C47 := Lib.hid (Kv6.out.gr hbw42)
            clear Kv6
            have hbel48 := hbel.trans (Below.mono hbw42 hbel.size)
            clear hbel
            clear hbw42
            go_wp2_with (first | (refine stB rfl 108 (.tmp 5) (.tmp 29) rfl (w.heap.size + 1 + 1 + 1) rfl (tv (DX q) (DY q) (DZ q)) rfl 108 (tv (X (q + 1)) (Y (q + 1)) (Z (q + 1))) C46.out (i108 (LF_DX.out q) (LF_DY.out q) (LF_DZ.out q)) (lenEq (tv_len (LF_X.out (q + 1)) (LF_Y.out (q + 1)) (LF_Z.out (q + 1))) (tv_len (LF_DX.out q) (LF_DY.out q) (LF_DZ.out q))) (tv_one _ _ _) ?_; generalize hW : World.setRow _ _ _ = w49; obtain ⟨hgw49, hnw49⟩ := setfacts hW C46.out; clear hW; have E50 := Lib.hid (C43.out.grown hgw49 (fun e => (show w.heap.size ≠ (w.heap.size + 1 + 1 + 1) by omega) (Option.some.inj e))); clear C43; have E51 := Lib.hid (C44.out.grown hgw49 (fun e => (show (w.heap.size + 1) ≠ (w.heap.size + 1 + 1 + 1) by omega) (Option.some.inj e))); clear C44; have E52 := Lib.hid (C45.out.grown hgw49 (fun e => (show (w.heap.size + 1 + 1) ≠ (w.heap.size + 1 + 1 + 1) by omega) (Option.some.inj e))); clear C45; have E53 := Lib.hid (C47.out.grown hgw49 (fun e => (Ne.symm NE6.out) (Option.some.inj e))); clear C47; have D54 := Lib.hid hnw49; clear hnw49 C46; have hbel55 := belStore hbel48 hgw49 (show w.heap.size ≤ (w.heap.size + 1 + 1 + 1) by omega); clear hgw49; clear hbel48; have c0 := E50.out.nat n (by rw [hlul]; exact hn4); rw [AEn] at c0) | (refine wpList_load_mid rfl 108 (.tmp 5) rfl (w.heap.size + 1 + 1 + 1) 0 rfl (tv (DX q) (DY q) (DZ q)) _ (blk_all (D54.out)) Try.underlying108 rfl (i108 (LF_DX.out q) (LF_DY.out q) (LF_DZ.out q)) ?_) | (refine wpList_load_mid rfl 108 (.tmp 6) rfl G2 0 rfl (tv lx ly (wds 4 1)) _ (blk_all (E53.out)) Try.underlying108 rfl (i108 L_lx.out L_ly.out (wds_len 4 1)) ?_))
            refine (HP1.out (by first | trivial | rfl) _).mono ?_
            rintro e w56 ⟨rfl, hbw56⟩
            have C57 := Lib.hid (E50.out.gr hbw56)
            clear E50
            have C58 := Lib.hid (E51.out.gr hbw56)
            clear E51
            have C59 := Lib.hid (E52.out.gr hbw56)
            clear E52
            have C60 := Lib.hid (D54.out.gr hbw56)
            clear D54
            have C61 := Lib.hid (E53.out.gr hbw56)
            clear E53
            have hbel62 := hbel55.trans (Below.mono hbw56 hbel55.size)
            clear hbel55
            clear hbw56
            go_wp2_with (first | (refine stB rfl 108 (.tmp 5) (.tmp 38) rfl (w.heap.size + 1 + 1 + 1) rfl (tv (X q) (Y q) (Z q)) rfl 108 (tv (DX q) (DY q) (DZ q)) C60.out (i108 (LF_X.out q) (LF_Y.out q) (LF_Z.out q)) (lenEq (tv_len (LF_DX.out q) (LF_DY.out q) (LF_DZ.out q)) (tv_len (LF_X.out q) (LF_Y.out q) (LF_Z.out q))) (tv_one _ _ _) ?_; generalize hW : World.setRow _ _ _ = w63; obtain ⟨hgw63, hnw63⟩ := setfacts hW C60.out; clear hW; have E64 := Lib.hid (C57.out.grown hgw63 (fun e => (show w.heap.size ≠ (w.heap.size + 1 + 1 + 1) by omega) (Option.some.inj e))); clear C57; have E65 := Lib.hid (C58.out.grown hgw63 (fun e => (show (w.heap.size + 1) ≠ (w.heap.size + 1 + 1 + 1) by omega) (Option.some.inj e))); clear C58; have E66 := Lib.hid (C59.out.grown hgw63 (fun e => (show (w.heap.size + 1 + 1) ≠ (w.heap.size + 1 + 1 + 1) by omega) (Option.some.inj e))); clear C59; have E67 := Lib.hid (C61.out.grown hgw63 (fun e => (Ne.symm NE6.out) (Option.some.inj e))); clear C61; have D68 := Lib.hid hnw63; clear hnw63 C60; have hbel69 := belStore hbel62 hgw63 (show w.heap.size ≤ (w.heap.size + 1 + 1 + 1) by omega); clear hgw63; clear hbel62))
            go_roundw
            case rel => exact ⟨j, by omega, by rw [← HHF.out], E64.out, E65.out, E66.out, by rw [← HQ.out]; exact D68.out, E67.out, hbel69⟩
            case measure => simp [intOf] <;> omega
end Go.Proofs.Ytfffmoolkgheaaa
