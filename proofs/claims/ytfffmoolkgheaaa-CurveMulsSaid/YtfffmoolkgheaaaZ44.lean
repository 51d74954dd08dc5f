/- Parts of proofs of statements, each text behind those that it stands on. No condition of its own. -/
import Derived.Test.YtfffmoolkgheaaaZ42
namespace Go.Proofs.Ytfffmoolkgheaaa
open Go.RowKit
set_option linter.unusedVariables false
set_option linter.unusedSimpArgs false
set_option maxRecDepth 100000 in
set_option maxHeartbeats 3200000 in
theorem muls_ok {lu lx ly lv gx gy ax ay cx cy dx dy : List Nat} {ip ia ic id_ : Bool} (hlu : lu.length = 4) (hlx : lx.length = 4) (hly : ly.length = 4) (hlv : lv.length = 4) (hgx : gx.length = 4) (hgy : gy.length = 4) (hax : ax.length = 4) (hay : ay.length = 4) (hcx : cx.length = 4) (hcy : cy.length = 4) (hdx : dx.length = 4) (hdy : dy.length = 4)
    (c1 : ∀ w, Calls Try.prog 24 #[] w fun e w' => e = .returned (.bool true) ∧ Below w.heap.size w w')
    (c2 : ∀ w, Calls Try.prog 40 #[.agg (natsV .u64 lu).toArray, .agg (pv lx ly ip).toArray] w fun e w' => e = .returned (.tuple #[.agg (pv ax ay ia).toArray, .int .i64 0]) ∧ Below w.heap.size w w')
    (c3 : ∀ w, Calls Try.prog 30 #[] w fun e w' => e = .returned (.agg (pv gx gy false).toArray) ∧ Below w.heap.size w w')
    (c4 : ∀ w, Calls Try.prog 41 #[.agg (natsV .u64 lu).toArray, .agg (pv lx ly ip).toArray, .agg (natsV .u64 lv).toArray, .agg (pv gx gy false).toArray] w fun e w' => e = .returned (.tuple #[.agg (pv cx cy ic).toArray, .int .i64 0]) ∧ Below w.heap.size w w')
    (c5 : ∀ w, Calls Try.prog 25 #[.agg (pv lx ly ip).toArray] w fun e w' => e = .returned (.bool true) ∧ Below w.heap.size w w')
    (c6 : ∀ w, Calls Try.prog 42 #[.agg (natsV .u64 lu).toArray, .agg (pv lx ly ip).toArray] w fun e w' => e = .returned (.agg (pv ax ay ia).toArray) ∧ Below w.heap.size w w')
    (c7 : ∀ w, Calls Try.prog 31 #[] w fun e w' => e = .returned (.agg (pv gx gy false).toArray) ∧ Below w.heap.size w w')
    (c8 : ∀ w, Calls Try.prog 42 #[.agg (natsV .u64 lv).toArray, .agg (pv gx gy false).toArray] w fun e w' => e = .returned (.agg (pv dx dy id_).toArray) ∧ Below w.heap.size w w')
    (c9 : ∀ w, Calls Try.prog 39 #[.agg (pv ax ay ia).toArray, .agg (pv dx dy id_).toArray] w fun e w' => e = .returned (.agg (pv cx cy ic).toArray) ∧ Below w.heap.size w w') (w : World) :
    Calls Try.prog 8 #[.agg (natsV .u64 lu).toArray, .agg (pv lx ly ip).toArray, .agg (natsV .u64 lv).toArray] w fun e w' => e = .returned (.bool true) ∧ Below w.heap.size w w' := by
  have L_lu := Lib.hid hlu
  clear hlu
  have L_lx := Lib.hid hlx
  clear hlx
  have L_ly := Lib.hid hly
  clear hly
  have L_lv := Lib.hid hlv
  clear hlv
  have L_gx := Lib.hid hgx
  clear hgx
  have L_gy := Lib.hid hgy
  clear hgy
  have L_ax := Lib.hid hax
  clear hax
  have L_ay := Lib.hid hay
  clear hay
  have L_cx := Lib.hid hcx
  clear hcx
  have L_cy := Lib.hid hcy
  clear hcy
  have L_dx := Lib.hid hdx
  clear hdx
  have L_dy := Lib.hid hdy
  clear hdy
  have Hc1 := Lib.hid c1
  clear c1
  have Hc2 := Lib.hid c2
  clear c2
  have Hc3 := Lib.hid c3
  clear c3
  have Hc4 := Lib.hid c4
  clear c4
  have Hc5 := Lib.hid c5
  clear c5
  have Hc6 := Lib.hid c6
  clear c6
  have Hc7 := Lib.hid c7
  clear c7
  have Hc8 := Lib.hid c8
  clear c8
  have Hc9 := Lib.hid c9
  clear c9
  have QA := Lib.hid (fun w => (eql43 ax ay ax ay ia ia L_ax.out L_ay.out L_ax.out L_ay.out w).trans (by rw [decide_eq_true ⟨rfl, rfl, rfl⟩]))
  have QB := Lib.hid (fun w => (eql43 cx cy cx cy ic ic L_cx.out L_cy.out L_cx.out L_cy.out w).trans (by rw [decide_eq_true ⟨rfl, rfl, rfl⟩]))
  have B0_ := Lib.hid (((Blk.new w  24 (natsV .u64 lu)).alloc (.cells (pv lx ly ip).toArray 43)).alloc (.cells (natsV .u64 lv).toArray 24))
  have B1_ := Lib.hid ((Blk.new2 w (.cells (natsV .u64 lu).toArray 24) 43 (pv lx ly ip)).alloc (.cells (natsV .u64 lv).toArray 24))
  have B2_ := Lib.hid (Blk.new3 w (.cells (natsV .u64 lu).toArray 24) (.cells (pv lx ly ip).toArray 43) 24 (natsV .u64 lv))
  have bel_ := ((((Below.refl w.heap.size w).alloc (Nat.le_refl _) (.cells (natsV .u64 lu).toArray 24)).alloc (by simp) (.cells (pv lx ly ip).toArray 43)).alloc (by simp; omega) (.cells (natsV .u64 lv).toArray 24))
  go_enter Try.func8, Try.ntmps8
  go_wp2_with fail
  refine (Hc1.out _).mono ?_
  rintro e w1 ⟨rfl, hbw1⟩
  have C2 := Lib.hid (B0_.out.gr hbw1)
  clear B0_
  have C3 := Lib.hid (B1_.out.gr hbw1)
  clear B1_
  have C4 := Lib.hid (B2_.out.gr hbw1)
  clear B2_
  have hbel5 := bel_.trans (Below.mono hbw1 bel_.size)
  clear bel_
  clear hbw1
  go_wp2_with (first | (refine wpList_load_mid rfl 24 (.tmp 3) rfl w.heap.size 0 rfl (natsV .u64 lu) _ (blk_all (C2.out)) Try.underlying24 rfl (i24 L_lu.out) ?_) | (refine wpList_load_mid rfl 43 (.tmp 4) rfl (w.heap.size + 1) 0 rfl (pv lx ly ip) _ (blk_all (C3.out)) Try.underlying43 rfl (i43 L_lx.out L_ly.out) ?_))
  refine (Hc2.out _).mono ?_
  rintro e w6 ⟨rfl, hbw6⟩
  have C7 := Lib.hid (C2.out.gr hbw6)
  clear C2
  have C8 := Lib.hid (C3.out.gr hbw6)
  clear C3
  have C9 := Lib.hid (C4.out.gr hbw6)
  clear C4
  have hbel10 := hbel5.trans (Below.mono hbw6 hbel5.size)
  clear hbel5
  clear hbw6
  go_wp2_with (first | (refine stB rfl 43 (.tmp 8) (.tmp 20) rfl w6.heap.size rfl (pv ax ay ia) rfl 43 (pv (zeros 4) (zeros 4) false) (Blk.new w6 43 (pv (zeros 4) (zeros 4) false)) (i43 L_ax.out L_ay.out) (lenEq (show (pv (zeros 4) (zeros 4) false).length = 9 from rfl) (pv_len L_ax.out L_ay.out)) (pv_one _ _ _) ?_; generalize hW : World.setRow _ _ _ = w11; obtain ⟨hgw11, hnw11⟩ := newfacts hW; clear hW; have C14 := Lib.hid (C7.out.gr hgw11); clear C7; have C15 := Lib.hid (C8.out.gr hgw11); clear C8; have C16 := Lib.hid (C9.out.gr hgw11); clear C9; have hbel17 := hbel10.trans (Below.mono hgw11 hbel10.size); clear hbel10; have D13 := Lib.hid hnw11; have szw11 := hgw11.size; clear hnw11 hgw11 szw11; generalize w6.heap.size = G12 at *))
  as_aux_lemma =>
  refine wp_region_G (fun w_ => Blk w_ w.heap.size 24 (natsV .u64 lu) ∧ Blk w_ (w.heap.size + 1) 43 (pv lx ly ip) ∧ Blk w_ (w.heap.size + 1 + 1) 24 (natsV .u64 lv)) 11 (by kernel_rfl) ⟨C14.out.drew, C15.out.drew, C16.out.drew⟩ ?_
  refine wpAnyG_take (fun _ _ hS_ hb_ => ⟨hS_.1.gr hb_, hS_.2.1.gr hb_, hS_.2.2.gr hb_⟩) (i := 0) rfl (by kernel_rfl) (fun _ _ _ h => h) (loadG (by rfl) _ _ rfl _ _ rfl (natsV .u64 lu) _ (fun _ hS_ => blk_all (hS_.1)) Try.underlying24 rfl (i24 L_lu.out)) ?_
  try simp only [Act.put, zq1, zq2, zq3, zq4, zq5, zq6]
  refine wpAnyG_take (fun _ _ hS_ hb_ => ⟨hS_.1.gr hb_, hS_.2.1.gr hb_, hS_.2.2.gr hb_⟩) (i := 1) rfl (by kernel_rfl) (fun _ _ _ h => h) (loadG (by rfl) _ _ rfl _ _ rfl (pv lx ly ip) _ (fun _ hS_ => blk_all (hS_.2.1)) Try.underlying43 rfl (i43 L_lx.out L_ly.out)) ?_
  try simp only [Act.put, zq1, zq2, zq3, zq4, zq5, zq6]
  refine wpAnyG_take (fun _ _ hS_ hb_ => ⟨hS_.1.gr hb_, hS_.2.1.gr hb_, hS_.2.2.gr hb_⟩) (i := 2) rfl (by kernel_rfl) (fun _ _ _ h => h) (loadG (by rfl) _ _ rfl _ _ rfl (natsV .u64 lv) _ (fun _ hS_ => blk_all (hS_.2.2)) Try.underlying24 rfl (i24 L_lv.out)) ?_
  try simp only [Act.put, zq1, zq2, zq3, zq4, zq5, zq6]
  refine wpAnyG_take (fun _ _ hS_ hb_ => ⟨hS_.1.gr hb_, hS_.2.1.gr hb_, hS_.2.2.gr hb_⟩) (i := 3) rfl (by kernel_rfl) (fun _ _ _ h => h) (callG (by rfl) rfl Try.func30 (by kernel_rfl) (by kernel_rfl) (#[]) (by simp [Act.eval]) (fun w _ => Hc3.out w)) ?_
  try simp only [Act.put, zq1, zq2, zq3, zq4, zq5, zq6]
  refine wpAnyG_take (fun _ _ hS_ hb_ => ⟨hS_.1.gr hb_, hS_.2.1.gr hb_, hS_.2.2.gr hb_⟩) (i := 4) rfl (by kernel_rfl) (fun _ _ _ h => h) (callG (by rfl) rfl Try.func41 (by kernel_rfl) (by kernel_rfl) (#[.agg (natsV .u64 lu).toArray, .agg (pv lx ly ip).toArray, .agg (natsV .u64 lv).toArray, .agg (pv gx gy false).toArray]) (by simp [Act.eval]) (fun w _ => Hc4.out w)) ?_
  try simp only [Act.put, zq1, zq2, zq3, zq4, zq5, zq6]
  refine wpAnyG_take (fun _ _ hS_ hb_ => ⟨hS_.1.gr hb_, hS_.2.1.gr hb_, hS_.2.2.gr hb_⟩) (i := 5) rfl (by kernel_rfl) (fun _ _ _ h => h) (pureG (by rfl) (by intro w; go_simp; first | done | with_reducible rfl)) ?_
  try simp only [Act.put, zq1, zq2, zq3, zq4, zq5, zq6]
  refine wpAnyG_take (fun _ _ hS_ hb_ => ⟨hS_.1.gr hb_, hS_.2.1.gr hb_, hS_.2.2.gr hb_⟩) (i := 6) rfl (by kernel_rfl) (fun _ _ _ h => h) (pureG (by rfl) (by intro w; go_simp; first | done | with_reducible rfl)) ?_
  try simp only [Act.put, zq1, zq2, zq3, zq4, zq5, zq6]
  refine wpAnyG_take (fun _ _ hS_ hb_ => ⟨hS_.1.gr hb_, hS_.2.1.gr hb_, hS_.2.2.gr hb_⟩) (i := 7) rfl (by kernel_rfl) (fun _ _ _ h => h) (pureG (by rfl) (by intro w; go_simp; first | done | with_reducible rfl)) ?_
  try simp only [Act.put, zq1, zq2, zq3, zq4, zq5, zq6]
  refine wpAnyG_alloc (i := 8) (fun _ _ hS_ hb_ => ⟨hS_.1.gr hb_, hS_.2.1.gr hb_, hS_.2.2.gr hb_⟩) (by kernel_rfl) rfl (allocG (by rfl) rfl _ alloc43) ?_
  intro w18 G19 hgw18 hz_ hn_
  try simp only [Act.put, zq1, zq2, zq3, zq4, zq5, zq6]
  have NG20 := Lib.hid (Nat.ne_of_lt (Nat.lt_of_lt_of_le C14.out.drew.lt hz_))
  have NG21 := Lib.hid (Nat.ne_of_lt (Nat.lt_of_lt_of_le C15.out.drew.lt hz_))
  have NG22 := Lib.hid (Nat.ne_of_lt (Nat.lt_of_lt_of_le C16.out.drew.lt hz_))
  have NE23 := Lib.hid (Nat.ne_of_lt (Nat.lt_of_lt_of_le C14.out.drew.lt hz_))
  have NE24 := Lib.hid (Nat.ne_of_lt (Nat.lt_of_lt_of_le C15.out.drew.lt hz_))
  have NE25 := Lib.hid (Nat.ne_of_lt (Nat.lt_of_lt_of_le C16.out.drew.lt hz_))
  have NE26 := Lib.hid (Nat.ne_of_lt (Nat.lt_of_lt_of_le D13.out.drew.lt hz_))
  have GE27 := Lib.hid (Nat.le_trans hbel17.drew.size hz_)
  have E28 := Lib.hid (C14.out.drew.gr hgw18)
  clear C14
  have E29 := Lib.hid (C15.out.drew.gr hgw18)
  clear C15
  have E30 := Lib.hid (C16.out.drew.gr hgw18)
  clear C16
  have E31 := Lib.hid (D13.out.drew.gr hgw18)
  clear D13
  have hbel32 := hbel17.drew.trans (Below.mono hgw18 hbel17.drew.size)
  clear hbel17
  have D33 := Lib.hid hn_
  clear hn_ hz_ hgw18
  refine wpAnyG_store (i := 9) (by kernel_rfl) rfl D33.out (lenEq (show (pv (zeros 4) (zeros 4) false).length = 9 from rfl) (pv_len L_cx.out L_cy.out)) (StoresG.mk (cs := (pv cx cy ic)) (by rfl) 43 _ _ rfl rfl rfl (i43 L_cx.out L_cy.out) (pv_one _ _ _)) (.inr (fun _ hS_ => ⟨hS_.1.row _ (NG20.out), hS_.2.1.row _ (NG21.out), hS_.2.2.row _ (NG22.out)⟩)) ?_
  intro w34 hgw34 hn_
  try simp only [Act.put, zq1, zq2, zq3, zq4, zq5, zq6]
  have E35 := Lib.hid (E28.out.grown hgw34 (fun e => NE23.out (Option.some.inj e)))
  clear E28
  have E36 := Lib.hid (E29.out.grown hgw34 (fun e => NE24.out (Option.some.inj e)))
  clear E29
  have E37 := Lib.hid (E30.out.grown hgw34 (fun e => NE25.out (Option.some.inj e)))
  clear E30
  have E38 := Lib.hid (E31.out.grown hgw34 (fun e => NE26.out (Option.some.inj e)))
  clear E31
  have D39 := Lib.hid hn_
  clear hn_ D33
  have hbel40 := belStore hbel32 hgw34 (GE27.out)
  clear hgw34
  refine wpAnyG_take (fun _ _ hS_ hb_ => ⟨hS_.1.gr hb_, hS_.2.1.gr hb_, hS_.2.2.gr hb_⟩) (i := 10) rfl (by kernel_rfl) (fun _ _ _ h => h) (pureG (by rfl) (by intro w; go_simp; first | done | with_reducible rfl)) ?_
  try simp only [Act.put, zq1, zq2, zq3, zq4, zq5, zq6]
  refine wpAnyG_done (by kernel_rfl) ?_ _
  intro w41 hgw41
  try simp only [Act.put, zq1, zq2, zq3, zq4, zq5, zq6]
  have C42 := Lib.hid (E35.out.gr hgw41)
  clear E35
  have C43 := Lib.hid (E36.out.gr hgw41)
  clear E36
  have C44 := Lib.hid (E37.out.gr hgw41)
  clear E37
  have C45 := Lib.hid (E38.out.gr hgw41)
  clear E38
  have C46 := Lib.hid (D39.out.gr hgw41)
  clear D39
  have hbel47 := hbel40.trans (Below.mono hgw41 hbel40.size)
  clear hbel40
  clear hgw41
  as_aux_lemma =>
  go_wp2_with (first | (refine wpList_load_mid rfl 43 (.tmp 4) rfl (w.heap.size + 1) 0 rfl (pv lx ly ip) _ (blk_all (C43.out)) Try.underlying43 rfl (i43 L_lx.out L_ly.out) ?_))
  refine (Hc5.out _).mono ?_
  rintro e w48 ⟨rfl, hbw48⟩
  have C49 := Lib.hid (C42.out.gr hbw48)
  clear C42
  have C50 := Lib.hid (C43.out.gr hbw48)
  clear C43
  have C51 := Lib.hid (C44.out.gr hbw48)
  clear C44
  have C52 := Lib.hid (C45.out.gr hbw48)
  clear C45
  have C53 := Lib.hid (C46.out.gr hbw48)
  clear C46
  have hbel54 := hbel47.trans (Below.mono hbw48 hbel47.size)
  clear hbel47
  clear hbw48
  go_wp2_with (first | (refine wpList_load_mid rfl 24 (.tmp 3) rfl w.heap.size 0 rfl (natsV .u64 lu) _ (blk_all (C49.out)) Try.underlying24 rfl (i24 L_lu.out) ?_) | (refine wpList_load_mid rfl 43 (.tmp 4) rfl (w.heap.size + 1) 0 rfl (pv lx ly ip) _ (blk_all (C50.out)) Try.underlying43 rfl (i43 L_lx.out L_ly.out) ?_))
  refine (Hc6.out _).mono ?_
  rintro e w55 ⟨rfl, hbw55⟩
  have C56 := Lib.hid (C49.out.gr hbw55)
  clear C49
  have C57 := Lib.hid (C50.out.gr hbw55)
  clear C50
  have C58 := Lib.hid (C51.out.gr hbw55)
  clear C51
  have C59 := Lib.hid (C52.out.gr hbw55)
  clear C52
  have C60 := Lib.hid (C53.out.gr hbw55)
  clear C53
  have hbel61 := hbel54.trans (Below.mono hbw55 hbel54.size)
  clear hbel54
  clear hbw55
  go_wp2_with (first | (refine stB rfl 43 (.tmp 13) (.tmp 55) rfl w55.heap.size rfl (pv ax ay ia) rfl 43 (pv (zeros 4) (zeros 4) false) (Blk.new w55 43 (pv (zeros 4) (zeros 4) false)) (i43 L_ax.out L_ay.out) (lenEq (show (pv (zeros 4) (zeros 4) false).length = 9 from rfl) (pv_len L_ax.out L_ay.out)) (pv_one _ _ _) ?_; generalize hW : World.setRow _ _ _ = w62; obtain ⟨hgw62, hnw62⟩ := newfacts hW; clear hW; have NE65 := Lib.hid (Nat.ne_of_lt (C60.out.lt)); have C66 := Lib.hid (C56.out.gr hgw62); clear C56; have C67 := Lib.hid (C57.out.gr hgw62); clear C57; have C68 := Lib.hid (C58.out.gr hgw62); clear C58; have C69 := Lib.hid (C59.out.gr hgw62); clear C59; have C70 := Lib.hid (C60.out.gr hgw62); clear C60; have hbel71 := hbel61.trans (Below.mono hgw62 hbel61.size); clear hbel61; have D64 := Lib.hid hnw62; have szw62 := hgw62.size; clear hnw62 hgw62 szw62; generalize w55.heap.size = G63 at *))
  as_aux_lemma =>
  refine wp_region_G (fun w_ => Blk w_ (w.heap.size + 1 + 1) 24 (natsV .u64 lv)) 4 (by kernel_rfl) C68.out.drew ?_
  refine wpAnyG_take (fun _ _ hS_ hb_ => hS_.gr hb_) (i := 0) rfl (by kernel_rfl) (fun _ _ _ h => h) (loadG (by rfl) _ _ rfl _ _ rfl (natsV .u64 lv) _ (fun _ hS_ => blk_all (hS_)) Try.underlying24 rfl (i24 L_lv.out)) ?_
  try simp only [Act.put, zq1, zq2, zq3, zq4, zq5, zq6]
  refine wpAnyG_take (fun _ _ hS_ hb_ => hS_.gr hb_) (i := 1) rfl (by kernel_rfl) (fun _ _ _ h => h) (callG (by rfl) rfl Try.func31 (by kernel_rfl) (by kernel_rfl) (#[]) (by simp [Act.eval]) (fun w _ => Hc7.out w)) ?_
  try simp only [Act.put, zq1, zq2, zq3, zq4, zq5, zq6]
  refine wpAnyG_take (fun _ _ hS_ hb_ => hS_.gr hb_) (i := 2) rfl (by kernel_rfl) (fun _ _ _ h => h) (callG (by rfl) rfl Try.func42 (by kernel_rfl) (by kernel_rfl) (#[.agg (natsV .u64 lv).toArray, .agg (pv gx gy false).toArray]) (by simp [Act.eval]) (fun w _ => Hc8.out w)) ?_
  try simp only [Act.put, zq1, zq2, zq3, zq4, zq5, zq6]
  refine wpAnyG_def (i := 3) (j := 4) (fun _ _ hS_ hb_ => hS_.gr hb_) (by kernel_rfl) (by kernel_rfl) (by kernel_rfl) rfl rfl rfl (allocG (by rfl) rfl _ alloc43) (lenEq (show (pv (zeros 4) (zeros 4) false).length = 9 from rfl) (pv_len L_dx.out L_dy.out)) (fun _ => StoresG.mk (cs := (pv dx dy id_)) (by rfl) 43 _ _ rfl rfl rfl (i43 L_dx.out L_dy.out) (pv_one _ _ _)) ?_
  intro w72 G73 hgw72 hz_ hn_
  try simp only [Act.put, zq1, zq2, zq3, zq4, zq5, zq6]
  have NE74 := Lib.hid (Nat.ne_of_lt (Nat.lt_of_lt_of_le C70.out.drew.lt hz_))
  have E75 := Lib.hid (C66.out.drew.gr hgw72)
  clear C66
  have E76 := Lib.hid (C67.out.drew.gr hgw72)
  clear C67
  have E77 := Lib.hid (C68.out.drew.gr hgw72)
  clear C68
  have E78 := Lib.hid (C69.out.drew.gr hgw72)
  clear C69
  have E79 := Lib.hid (C70.out.drew.gr hgw72)
  clear C70
  have E80 := Lib.hid (D64.out.drew.gr hgw72)
  clear D64
  have hbel81 := hbel71.drew.trans (Below.mono hgw72 hbel71.drew.size)
  clear hbel71
  have D82 := Lib.hid hn_
  clear hn_ hz_ hgw72
  as_aux_lemma =>
  go_wp2_with fail
  as_aux_lemma =>
  refine wp_region_G (fun w_ => Blk w_ G12 43 (pv ax ay ia) ∧ Blk w_ G63 43 (pv ax ay ia) ∧ Blk w_ G19 43 (pv cx cy ic) ∧ Blk w_ G73 43 (pv dx dy id_)) 22 (by kernel_rfl) ⟨E78.out.drew, E80.out.drew, E79.out.drew, D82.out.drew⟩ ?_
  refine wpAnyG_take (fun _ _ hS_ hb_ => ⟨hS_.1.gr hb_, hS_.2.1.gr hb_, hS_.2.2.1.gr hb_, hS_.2.2.2.gr hb_⟩) (i := 0) rfl (by kernel_rfl) (fun _ _ _ h => h) (pureG (by rfl) (by intro w; go_simp; first | done | with_reducible rfl)) ?_
  try simp only [Act.put, zq1, zq2, zq3, zq4, zq5, zq6]
  refine wpAnyG_take (fun _ _ hS_ hb_ => ⟨hS_.1.gr hb_, hS_.2.1.gr hb_, hS_.2.2.1.gr hb_, hS_.2.2.2.gr hb_⟩) (i := 1) rfl (by kernel_rfl) (fun _ _ _ h => h) (pureG (by rfl) (by intro w; go_simp; first | done | with_reducible rfl)) ?_
  try simp only [Act.put, zq1, zq2, zq3, zq4, zq5, zq6]
  refine wpAnyG_take (fun _ _ hS_ hb_ => ⟨hS_.1.gr hb_, hS_.2.1.gr hb_, hS_.2.2.1.gr hb_, hS_.2.2.2.gr hb_⟩) (i := 2) rfl (by kernel_rfl) (fun _ _ _ h => h) (pureG (by rfl) (by intro w; go_simp; first | done | with_reducible rfl)) ?_
  try simp only [Act.put, zq1, zq2, zq3, zq4, zq5, zq6]
  refine wpAnyG_take (fun _ _ hS_ hb_ => ⟨hS_.1.gr hb_, hS_.2.1.gr hb_, hS_.2.2.1.gr hb_, hS_.2.2.2.gr hb_⟩) (i := 3) rfl (by kernel_rfl) (fun _ _ _ h => h) (pureG (by rfl) (by intro w; go_simp; first | done | with_reducible rfl)) ?_
  try simp only [Act.put, zq1, zq2, zq3, zq4, zq5, zq6]
  refine wpAnyG_take (fun _ _ hS_ hb_ => ⟨hS_.1.gr hb_, hS_.2.1.gr hb_, hS_.2.2.1.gr hb_, hS_.2.2.2.gr hb_⟩) (i := 4) rfl (by kernel_rfl) (fun _ _ _ h => h) (pureG (by rfl) (by intro w; go_simp; first | done | with_reducible rfl)) ?_
  try simp only [Act.put, zq1, zq2, zq3, zq4, zq5, zq6]
  refine wpAnyG_take (fun _ _ hS_ hb_ => ⟨hS_.1.gr hb_, hS_.2.1.gr hb_, hS_.2.2.1.gr hb_, hS_.2.2.2.gr hb_⟩) (i := 5) rfl (by kernel_rfl) (fun _ _ _ h => h) (pureG (by rfl) (by intro w; go_simp; first | done | with_reducible rfl)) ?_
  try simp only [Act.put, zq1, zq2, zq3, zq4, zq5, zq6]
  refine wpAnyG_take (fun _ _ hS_ hb_ => ⟨hS_.1.gr hb_, hS_.2.1.gr hb_, hS_.2.2.1.gr hb_, hS_.2.2.2.gr hb_⟩) (i := 6) rfl (by kernel_rfl) (fun _ _ _ h => h) (pureG (by rfl) (by intro w; go_simp; first | done | with_reducible rfl)) ?_
  try simp only [Act.put, zq1, zq2, zq3, zq4, zq5, zq6]
  refine wpAnyG_take (fun _ _ hS_ hb_ => ⟨hS_.1.gr hb_, hS_.2.1.gr hb_, hS_.2.2.1.gr hb_, hS_.2.2.2.gr hb_⟩) (i := 7) rfl (by kernel_rfl) (fun _ _ _ h => h) (pureG (by rfl) (by intro w; go_simp; first | done | with_reducible rfl)) ?_
  try simp only [Act.put, zq1, zq2, zq3, zq4, zq5, zq6]
  refine wpAnyG_take (fun _ _ hS_ hb_ => ⟨hS_.1.gr hb_, hS_.2.1.gr hb_, hS_.2.2.1.gr hb_, hS_.2.2.2.gr hb_⟩) (i := 8) rfl (by kernel_rfl) (fun _ _ _ h => h) (pureG (by rfl) (by intro w; go_simp; first | done | with_reducible rfl)) ?_
  try simp only [Act.put, zq1, zq2, zq3, zq4, zq5, zq6]
  refine wpAnyG_take (fun _ _ hS_ hb_ => ⟨hS_.1.gr hb_, hS_.2.1.gr hb_, hS_.2.2.1.gr hb_, hS_.2.2.2.gr hb_⟩) (i := 9) rfl (by kernel_rfl) (fun _ _ _ h => h) (pureG (by rfl) (by intro w; go_simp; first | done | with_reducible rfl)) ?_
  try simp only [Act.put, zq1, zq2, zq3, zq4, zq5, zq6]
  refine wpAnyG_take (fun _ _ hS_ hb_ => ⟨hS_.1.gr hb_, hS_.2.1.gr hb_, hS_.2.2.1.gr hb_, hS_.2.2.2.gr hb_⟩) (i := 10) rfl (by kernel_rfl) (fun _ _ _ h => h) (loadG (by rfl) _ _ rfl _ _ rfl (pv ax ay ia) _ (fun _ hS_ => blk_all (hS_.1)) Try.underlying43 rfl (i43 L_ax.out L_ay.out)) ?_
  try simp only [Act.put, zq1, zq2, zq3, zq4, zq5, zq6]
  refine wpAnyG_take (fun _ _ hS_ hb_ => ⟨hS_.1.gr hb_, hS_.2.1.gr hb_, hS_.2.2.1.gr hb_, hS_.2.2.2.gr hb_⟩) (i := 11) rfl (by kernel_rfl) (fun _ _ _ h => h) (loadG (by rfl) _ _ rfl _ _ rfl (pv ax ay ia) _ (fun _ hS_ => blk_all (hS_.2.1)) Try.underlying43 rfl (i43 L_ax.out L_ay.out)) ?_
  try simp only [Act.put, zq1, zq2, zq3, zq4, zq5, zq6]
  refine wpAnyG_take (fun _ _ hS_ hb_ => ⟨hS_.1.gr hb_, hS_.2.1.gr hb_, hS_.2.2.1.gr hb_, hS_.2.2.2.gr hb_⟩) (i := 12) rfl (by kernel_rfl) (fun _ _ _ h => h) (pureG (by rfl) (by intro w; have q := QA.out; go_simp; first | done | with_reducible rfl)) ?_
  try simp only [Act.put, zq1, zq2, zq3, zq4, zq5, zq6]
  refine wpAnyG_take (fun _ _ hS_ hb_ => ⟨hS_.1.gr hb_, hS_.2.1.gr hb_, hS_.2.2.1.gr hb_, hS_.2.2.2.gr hb_⟩) (i := 13) rfl (by kernel_rfl) (fun _ _ _ h => h) (pureG (by rfl) (by intro w; go_simp; first | done | with_reducible rfl)) ?_
  try simp only [Act.put, zq1, zq2, zq3, zq4, zq5, zq6]
  refine wpAnyG_take (fun _ _ hS_ hb_ => ⟨hS_.1.gr hb_, hS_.2.1.gr hb_, hS_.2.2.1.gr hb_, hS_.2.2.2.gr hb_⟩) (i := 14) rfl (by kernel_rfl) (fun _ _ _ h => h) (pureG (by rfl) (by intro w; go_simp; first | done | with_reducible rfl)) ?_
  try simp only [Act.put, zq1, zq2, zq3, zq4, zq5, zq6]
  refine wpAnyG_take (fun _ _ hS_ hb_ => ⟨hS_.1.gr hb_, hS_.2.1.gr hb_, hS_.2.2.1.gr hb_, hS_.2.2.2.gr hb_⟩) (i := 15) rfl (by kernel_rfl) (fun _ _ _ h => h) (loadG (by rfl) _ _ rfl _ _ rfl (pv cx cy ic) _ (fun _ hS_ => blk_all (hS_.2.2.1)) Try.underlying43 rfl (i43 L_cx.out L_cy.out)) ?_
  try simp only [Act.put, zq1, zq2, zq3, zq4, zq5, zq6]
  refine wpAnyG_take (fun _ _ hS_ hb_ => ⟨hS_.1.gr hb_, hS_.2.1.gr hb_, hS_.2.2.1.gr hb_, hS_.2.2.2.gr hb_⟩) (i := 16) rfl (by kernel_rfl) (fun _ _ _ h => h) (loadG (by rfl) _ _ rfl _ _ rfl (pv ax ay ia) _ (fun _ hS_ => blk_all (hS_.2.1)) Try.underlying43 rfl (i43 L_ax.out L_ay.out)) ?_
  try simp only [Act.put, zq1, zq2, zq3, zq4, zq5, zq6]
  refine wpAnyG_take (fun _ _ hS_ hb_ => ⟨hS_.1.gr hb_, hS_.2.1.gr hb_, hS_.2.2.1.gr hb_, hS_.2.2.2.gr hb_⟩) (i := 17) rfl (by kernel_rfl) (fun _ _ _ h => h) (loadG (by rfl) _ _ rfl _ _ rfl (pv dx dy id_) _ (fun _ hS_ => blk_all (hS_.2.2.2)) Try.underlying43 rfl (i43 L_dx.out L_dy.out)) ?_
  try simp only [Act.put, zq1, zq2, zq3, zq4, zq5, zq6]
  refine wpAnyG_take (fun _ _ hS_ hb_ => ⟨hS_.1.gr hb_, hS_.2.1.gr hb_, hS_.2.2.1.gr hb_, hS_.2.2.2.gr hb_⟩) (i := 18) rfl (by kernel_rfl) (fun _ _ _ h => h) (callG (by rfl) rfl Try.func39 (by kernel_rfl) (by kernel_rfl) (#[.agg (pv ax ay ia).toArray, .agg (pv dx dy id_).toArray]) (by simp [Act.eval]) (fun w _ => Hc9.out w)) ?_
  try simp only [Act.put, zq1, zq2, zq3, zq4, zq5, zq6]
  refine wpAnyG_take (fun _ _ hS_ hb_ => ⟨hS_.1.gr hb_, hS_.2.1.gr hb_, hS_.2.2.1.gr hb_, hS_.2.2.2.gr hb_⟩) (i := 19) rfl (by kernel_rfl) (fun _ _ _ h => h) (pureG (by rfl) (by intro w; have q := QB.out; go_simp; first | done | with_reducible rfl)) ?_
  try simp only [Act.put, zq1, zq2, zq3, zq4, zq5, zq6]
  refine wpAnyG_take (fun _ _ hS_ hb_ => ⟨hS_.1.gr hb_, hS_.2.1.gr hb_, hS_.2.2.1.gr hb_, hS_.2.2.2.gr hb_⟩) (i := 20) rfl (by kernel_rfl) (fun _ _ _ h => h) (pureG (by rfl) (by intro w; go_simp; first | done | with_reducible rfl)) ?_
  try simp only [Act.put, zq1, zq2, zq3, zq4, zq5, zq6]
  refine wpAnyG_take (fun _ _ hS_ hb_ => ⟨hS_.1.gr hb_, hS_.2.1.gr hb_, hS_.2.2.1.gr hb_, hS_.2.2.2.gr hb_⟩) (i := 21) rfl (by kernel_rfl) (fun _ _ _ h => h) (pureG (by rfl) (by intro w; go_simp; first | done | with_reducible rfl)) ?_
  try simp only [Act.put, zq1, zq2, zq3, zq4, zq5, zq6]
  refine wpAnyG_done (by kernel_rfl) ?_ _
  intro w83 hgw83
  try simp only [Act.put, zq1, zq2, zq3, zq4, zq5, zq6]
  have E84 := Lib.hid (E75.out.drew.gr hgw83)
  clear E75
  have E85 := Lib.hid (E76.out.drew.gr hgw83)
  clear E76
  have E86 := Lib.hid (E77.out.drew.gr hgw83)
  clear E77
  have E87 := Lib.hid (E78.out.drew.gr hgw83)
  clear E78
  have E88 := Lib.hid (E79.out.drew.gr hgw83)
  clear E79
  have E89 := Lib.hid (E80.out.drew.gr hgw83)
  clear E80
  have E90 := Lib.hid (D82.out.drew.gr hgw83)
  clear D82
  have hbel91 := hbel81.drew.trans (Below.mono hgw83 hbel81.drew.size)
  clear hbel81
  clear hgw83
  as_aux_lemma =>
  go_wp2_with fail
  go_ret
  exact ⟨rfl, hbel91⟩
set_option maxRecDepth 100000 in
set_option maxHeartbeats 3200000 in
theorem muls_no {lu lx ly lv gx gy : List Nat} {ip : Bool} (hlu : lu.length = 4) (hlx : lx.length = 4) (hly : ly.length = 4) (hlv : lv.length = 4) (hgx : gx.length = 4) (hgy : gy.length = 4)
    (c1 : ∀ w, Calls Try.prog 24 #[] w fun e w' => e = .returned (.bool true) ∧ Below w.heap.size w w')
    (c2 : ∀ w, Calls Try.prog 40 #[.agg (natsV .u64 lu).toArray, .agg (pv lx ly ip).toArray] w fun e w' => e = .returned (.tuple #[.agg (pv (zeros 4) (zeros 4) false).toArray, .int .i64 62]) ∧ Below w.heap.size w w')
    (c3 : ∀ w, Calls Try.prog 30 #[] w fun e w' => e = .returned (.agg (pv gx gy false).toArray) ∧ Below w.heap.size w w')
    (c4 : ∀ w, Calls Try.prog 41 #[.agg (natsV .u64 lu).toArray, .agg (pv lx ly ip).toArray, .agg (natsV .u64 lv).toArray, .agg (pv gx gy false).toArray] w fun e w' => e = .returned (.tuple #[.agg (pv (zeros 4) (zeros 4) false).toArray, .int .i64 62]) ∧ Below w.heap.size w w')
    (c5 : ∀ w, Calls Try.prog 25 #[.agg (pv lx ly ip).toArray] w fun e w' => e = .returned (.bool false) ∧ Below w.heap.size w w') (w : World) :
    Calls Try.prog 8 #[.agg (natsV .u64 lu).toArray, .agg (pv lx ly ip).toArray, .agg (natsV .u64 lv).toArray] w fun e w' => e = .returned (.bool true) ∧ Below w.heap.size w w' := by
  have L_lu := Lib.hid hlu
  clear hlu
  have L_lx := Lib.hid hlx
  clear hlx
  have L_ly := Lib.hid hly
  clear hly
  have L_lv := Lib.hid hlv
  clear hlv
  have L_gx := Lib.hid hgx
  clear hgx
  have L_gy := Lib.hid hgy
  clear hgy
  have Hc1 := Lib.hid c1
  clear c1
  have Hc2 := Lib.hid c2
  clear c2
  have Hc3 := Lib.hid c3
  clear c3
  have Hc4 := Lib.hid c4
  clear c4
  have Hc5 := Lib.hid c5
  clear c5
  have QZ := Lib.hid (fun w => show (binOp .eql 43 (.agg (pv (zeros 4) (zeros 4) false).toArray) (.agg #[.int .u64 0, .int .u64 0, .int .u64 0, .int .u64 0, .int .u64 0, .int .u64 0, .int .u64 0, .int .u64 0, .bool false])).run Try.prog w = _ from (eql43 (zeros 4) (zeros 4) (zeros 4) (zeros 4) false false rfl rfl rfl rfl w).trans (by rw [decide_eq_true ⟨rfl, rfl, rfl⟩]))
  have B0_ := Lib.hid (((Blk.new w  24 (natsV .u64 lu)).alloc (.cells (pv lx ly ip).toArray 43)).alloc (.cells (natsV .u64 lv).toArray 24))
  have B1_ := Lib.hid ((Blk.new2 w (.cells (natsV .u64 lu).toArray 24) 43 (pv lx ly ip)).alloc (.cells (natsV .u64 lv).toArray 24))
  have B2_ := Lib.hid (Blk.new3 w (.cells (natsV .u64 lu).toArray 24) (.cells (pv lx ly ip).toArray 43) 24 (natsV .u64 lv))
  have bel_ := ((((Below.refl w.heap.size w).alloc (Nat.le_refl _) (.cells (natsV .u64 lu).toArray 24)).alloc (by simp) (.cells (pv lx ly ip).toArray 43)).alloc (by simp; omega) (.cells (natsV .u64 lv).toArray 24))
  go_enter Try.func8, Try.ntmps8
  go_wp2_with fail
  refine (Hc1.out _).mono ?_
  rintro e w1 ⟨rfl, hbw1⟩
  have C2 := Lib.hid (B0_.out.gr hbw1)
  clear B0_
  have C3 := Lib.hid (B1_.out.gr hbw1)
  clear B1_
  have C4 := Lib.hid (B2_.out.gr hbw1)
  clear B2_
  have hbel5 := bel_.trans (Below.mono hbw1 bel_.size)
  clear bel_
  clear hbw1
  go_wp2_with (first | (refine wpList_load_mid rfl 24 (.tmp 3) rfl w.heap.size 0 rfl (natsV .u64 lu) _ (blk_all (C2.out)) Try.underlying24 rfl (i24 L_lu.out) ?_) | (refine wpList_load_mid rfl 43 (.tmp 4) rfl (w.heap.size + 1) 0 rfl (pv lx ly ip) _ (blk_all (C3.out)) Try.underlying43 rfl (i43 L_lx.out L_ly.out) ?_))
  refine (Hc2.out _).mono ?_
  rintro e w6 ⟨rfl, hbw6⟩
  have C7 := Lib.hid (C2.out.gr hbw6)
  clear C2
  have C8 := Lib.hid (C3.out.gr hbw6)
  clear C3
  have C9 := Lib.hid (C4.out.gr hbw6)
  clear C4
  have hbel10 := hbel5.trans (Below.mono hbw6 hbel5.size)
  clear hbel5
  clear hbw6
  go_wp2_with (first | (refine stB rfl 43 (.tmp 8) (.tmp 20) rfl w6.heap.size rfl (pv (zeros 4) (zeros 4) false) rfl 43 (pv (zeros 4) (zeros 4) false) (Blk.new w6 43 (pv (zeros 4) (zeros 4) false)) (i43 rfl rfl) (lenEq (show (pv (zeros 4) (zeros 4) false).length = 9 from rfl) (show (pv (zeros 4) (zeros 4) false).length = 9 from rfl)) (pv_one _ _ _) ?_; generalize hW : World.setRow _ _ _ = w11; obtain ⟨hgw11, hnw11⟩ := newfacts hW; clear hW; have C14 := Lib.hid (C7.out.gr hgw11); clear C7; have C15 := Lib.hid (C8.out.gr hgw11); clear C8; have C16 := Lib.hid (C9.out.gr hgw11); clear C9; have hbel17 := hbel10.trans (Below.mono hgw11 hbel10.size); clear hbel10; have D13 := Lib.hid hnw11; have szw11 := hgw11.size; clear hnw11 hgw11 szw11; generalize w6.heap.size = G12 at *))
  as_aux_lemma =>
  refine wp_region_G (fun w_ => Blk w_ w.heap.size 24 (natsV .u64 lu) ∧ Blk w_ (w.heap.size + 1) 43 (pv lx ly ip) ∧ Blk w_ (w.heap.size + 1 + 1) 24 (natsV .u64 lv)) 11 (by kernel_rfl) ⟨C14.out.drew, C15.out.drew, C16.out.drew⟩ ?_
  refine wpAnyG_take (fun _ _ hS_ hb_ => ⟨hS_.1.gr hb_, hS_.2.1.gr hb_, hS_.2.2.gr hb_⟩) (i := 0) rfl (by kernel_rfl) (fun _ _ _ h => h) (loadG (by rfl) _ _ rfl _ _ rfl (natsV .u64 lu) _ (fun _ hS_ => blk_all (hS_.1)) Try.underlying24 rfl (i24 L_lu.out)) ?_
  try simp only [Act.put, zq1, zq2, zq3, zq4, zq5, zq6]
  refine wpAnyG_take (fun _ _ hS_ hb_ => ⟨hS_.1.gr hb_, hS_.2.1.gr hb_, hS_.2.2.gr hb_⟩) (i := 1) rfl (by kernel_rfl) (fun _ _ _ h => h) (loadG (by rfl) _ _ rfl _ _ rfl (pv lx ly ip) _ (fun _ hS_ => blk_all (hS_.2.1)) Try.underlying43 rfl (i43 L_lx.out L_ly.out)) ?_
  try simp only [Act.put, zq1, zq2, zq3, zq4, zq5, zq6]
  refine wpAnyG_take (fun _ _ hS_ hb_ => ⟨hS_.1.gr hb_, hS_.2.1.gr hb_, hS_.2.2.gr hb_⟩) (i := 2) rfl (by kernel_rfl) (fun _ _ _ h => h) (loadG (by rfl) _ _ rfl _ _ rfl (natsV .u64 lv) _ (fun _ hS_ => blk_all (hS_.2.2)) Try.underlying24 rfl (i24 L_lv.out)) ?_
  try simp only [Act.put, zq1, zq2, zq3, zq4, zq5, zq6]
  refine wpAnyG_take (fun _ _ hS_ hb_ => ⟨hS_.1.gr hb_, hS_.2.1.gr hb_, hS_.2.2.gr hb_⟩) (i := 3) rfl (by kernel_rfl) (fun _ _ _ h => h) (callG (by rfl) rfl Try.func30 (by kernel_rfl) (by kernel_rfl) (#[]) (by simp [Act.eval]) (fun w _ => Hc3.out w)) ?_
  try simp only [Act.put, zq1, zq2, zq3, zq4, zq5, zq6]
  refine wpAnyG_take (fun _ _ hS_ hb_ => ⟨hS_.1.gr hb_, hS_.2.1.gr hb_, hS_.2.2.gr hb_⟩) (i := 4) rfl (by kernel_rfl) (fun _ _ _ h => h) (callG (by rfl) rfl Try.func41 (by kernel_rfl) (by kernel_rfl) (#[.agg (natsV .u64 lu).toArray, .agg (pv lx ly ip).toArray, .agg (natsV .u64 lv).toArray, .agg (pv gx gy false).toArray]) (by simp [Act.eval]) (fun w _ => Hc4.out w)) ?_
  try simp only [Act.put, zq1, zq2, zq3, zq4, zq5, zq6]
  refine wpAnyG_take (fun _ _ hS_ hb_ => ⟨hS_.1.gr hb_, hS_.2.1.gr hb_, hS_.2.2.gr hb_⟩) (i := 5) rfl (by kernel_rfl) (fun _ _ _ h => h) (pureG (by rfl) (by intro w; go_simp; first | done | with_reducible rfl)) ?_
  try simp only [Act.put, zq1, zq2, zq3, zq4, zq5, zq6]
  refine wpAnyG_take (fun _ _ hS_ hb_ => ⟨hS_.1.gr hb_, hS_.2.1.gr hb_, hS_.2.2.gr hb_⟩) (i := 6) rfl (by kernel_rfl) (fun _ _ _ h => h) (pureG (by rfl) (by intro w; go_simp; first | done | with_reducible rfl)) ?_
  try simp only [Act.put, zq1, zq2, zq3, zq4, zq5, zq6]
  refine wpAnyG_take (fun _ _ hS_ hb_ => ⟨hS_.1.gr hb_, hS_.2.1.gr hb_, hS_.2.2.gr hb_⟩) (i := 7) rfl (by kernel_rfl) (fun _ _ _ h => h) (pureG (by rfl) (by intro w; go_simp; first | done | with_reducible rfl)) ?_
  try simp only [Act.put, zq1, zq2, zq3, zq4, zq5, zq6]
  refine wpAnyG_alloc (i := 8) (fun _ _ hS_ hb_ => ⟨hS_.1.gr hb_, hS_.2.1.gr hb_, hS_.2.2.gr hb_⟩) (by kernel_rfl) rfl (allocG (by rfl) rfl _ alloc43) ?_
  intro w18 G19 hgw18 hz_ hn_
  try simp only [Act.put, zq1, zq2, zq3, zq4, zq5, zq6]
  have NG20 := Lib.hid (Nat.ne_of_lt (Nat.lt_of_lt_of_le C14.out.drew.lt hz_))
  have NG21 := Lib.hid (Nat.ne_of_lt (Nat.lt_of_lt_of_le C15.out.drew.lt hz_))
  have NG22 := Lib.hid (Nat.ne_of_lt (Nat.lt_of_lt_of_le C16.out.drew.lt hz_))
  have NE23 := Lib.hid (Nat.ne_of_lt (Nat.lt_of_lt_of_le C14.out.drew.lt hz_))
  have NE24 := Lib.hid (Nat.ne_of_lt (Nat.lt_of_lt_of_le C15.out.drew.lt hz_))
  have NE25 := Lib.hid (Nat.ne_of_lt (Nat.lt_of_lt_of_le C16.out.drew.lt hz_))
  have NE26 := Lib.hid (Nat.ne_of_lt (Nat.lt_of_lt_of_le D13.out.drew.lt hz_))
  have GE27 := Lib.hid (Nat.le_trans hbel17.drew.size hz_)
  have E28 := Lib.hid (C14.out.drew.gr hgw18)
  clear C14
  have E29 := Lib.hid (C15.out.drew.gr hgw18)
  clear C15
  have E30 := Lib.hid (C16.out.drew.gr hgw18)
  clear C16
  have E31 := Lib.hid (D13.out.drew.gr hgw18)
  clear D13
  have hbel32 := hbel17.drew.trans (Below.mono hgw18 hbel17.drew.size)
  clear hbel17
  have D33 := Lib.hid hn_
  clear hn_ hz_ hgw18
  refine wpAnyG_store (i := 9) (by kernel_rfl) rfl D33.out (lenEq (show (pv (zeros 4) (zeros 4) false).length = 9 from rfl) (show (pv (zeros 4) (zeros 4) false).length = 9 from rfl)) (StoresG.mk (cs := (pv (zeros 4) (zeros 4) false)) (by rfl) 43 _ _ rfl rfl rfl (i43 rfl rfl) (pv_one _ _ _)) (.inr (fun _ hS_ => ⟨hS_.1.row _ (NG20.out), hS_.2.1.row _ (NG21.out), hS_.2.2.row _ (NG22.out)⟩)) ?_
  intro w34 hgw34 hn_
  try simp only [Act.put, zq1, zq2, zq3, zq4, zq5, zq6]
  have E35 := Lib.hid (E28.out.grown hgw34 (fun e => NE23.out (Option.some.inj e)))
  clear E28
  have E36 := Lib.hid (E29.out.grown hgw34 (fun e => NE24.out (Option.some.inj e)))
  clear E29
  have E37 := Lib.hid (E30.out.grown hgw34 (fun e => NE25.out (Option.some.inj e)))
  clear E30
  have E38 := Lib.hid (E31.out.grown hgw34 (fun e => NE26.out (Option.some.inj e)))
  clear E31
  have D39 := Lib.hid hn_
  clear hn_ D33
  have hbel40 := belStore hbel32 hgw34 (GE27.out)
  clear hgw34
  refine wpAnyG_take (fun _ _ hS_ hb_ => ⟨hS_.1.gr hb_, hS_.2.1.gr hb_, hS_.2.2.gr hb_⟩) (i := 10) rfl (by kernel_rfl) (fun _ _ _ h => h) (pureG (by rfl) (by intro w; go_simp; first | done | with_reducible rfl)) ?_
  try simp only [Act.put, zq1, zq2, zq3, zq4, zq5, zq6]
  refine wpAnyG_done (by kernel_rfl) ?_ _
  intro w41 hgw41
  try simp only [Act.put, zq1, zq2, zq3, zq4, zq5, zq6]
  have C42 := Lib.hid (E35.out.gr hgw41)
  clear E35
  have C43 := Lib.hid (E36.out.gr hgw41)
  clear E36
  have C44 := Lib.hid (E37.out.gr hgw41)
  clear E37
  have C45 := Lib.hid (E38.out.gr hgw41)
  clear E38
  have C46 := Lib.hid (D39.out.gr hgw41)
  clear D39
  have hbel47 := hbel40.trans (Below.mono hgw41 hbel40.size)
  clear hbel40
  clear hgw41
  as_aux_lemma =>
  go_wp2_with (first | (refine wpList_load_mid rfl 43 (.tmp 4) rfl (w.heap.size + 1) 0 rfl (pv lx ly ip) _ (blk_all (C43.out)) Try.underlying43 rfl (i43 L_lx.out L_ly.out) ?_))
  refine (Hc5.out _).mono ?_
  rintro e w48 ⟨rfl, hbw48⟩
  have C49 := Lib.hid (C42.out.gr hbw48)
  clear C42
  have C50 := Lib.hid (C43.out.gr hbw48)
  clear C43
  have C51 := Lib.hid (C44.out.gr hbw48)
  clear C44
  have C52 := Lib.hid (C45.out.gr hbw48)
  clear C45
  have C53 := Lib.hid (C46.out.gr hbw48)
  clear C46
  have hbel54 := hbel47.trans (Below.mono hbw48 hbel47.size)
  clear hbel47
  clear hbw48
  have qz := QZ.out
  go_wp2_with (first | (refine ldwM 43 (.tmp 8) rfl G12 0 rfl (pv (zeros 4) (zeros 4) false) _ (blk_all (C52.out)) Try.underlying43 rfl (i43 rfl rfl) 1 true rfl 35 rfl rfl ?_) | (refine ldwM 43 (.tmp 10) rfl G19 0 rfl (pv (zeros 4) (zeros 4) false) _ (blk_all (C53.out)) Try.underlying43 rfl (i43 rfl rfl) 6 true rfl 40 rfl rfl ?_))
  go_ret
  exact ⟨rfl, hbel54⟩
theorem k_two_no (x1 y1 x2 y2 : Nat) (i1 i2 : Bool) (u v : Nat) (h1 : x1 < 2 ^ 256) (h2 : y1 < 2 ^ 256) (h3 : x2 < 2 ^ 256) (h4 : y2 < 2 ^ 256) (h : (onB x1 y1 i1 && onB x2 y2 i2) = false) :
    Ans 41 #[.agg (natsV .u64 (wds 4 u)).toArray, .agg (pv (wds 4 x1) (wds 4 y1) i1).toArray, .agg (natsV .u64 (wds 4 v)).toArray, .agg (pv (wds 4 x2) (wds 4 y2) i2).toArray] (.tuple #[.agg (pv (zeros 4) (zeros 4) false).toArray, .int .i64 62]) := fun w =>
  two_no (wds_len 4 _) (wds_len 4 _) (wds_len 4 _) (wds_len 4 _) (wds_len 4 _) (wds_len 4 _) (fun g w a b => by rw [← h]; exact k_al_any x1 y1 x2 y2 i1 i2 h1 h2 h3 h4 g w a b) w
theorem k_mul_no (x1 y1 : Nat) (i1 : Bool) (u : Nat) (h1 : x1 < 2 ^ 256) (h2 : y1 < 2 ^ 256) (h : onB x1 y1 i1 = false) :
    Ans 40 #[.agg (natsV .u64 (wds 4 u)).toArray, .agg (pv (wds 4 x1) (wds 4 y1) i1).toArray] (.tuple #[.agg (pv (zeros 4) (zeros 4) false).toArray, .int .i64 62]) := fun w => by
  have k := k_two_no x1 y1 0 0 i1 true u 0 h1 h2 (by decide) (by decide) (by rw [h]; rfl)
  refine mul_w (wds_len 4 u) (wds_len 4 _) (wds_len 4 _) rfl rfl cinf_any (fun w => ?_) w
  have k := k w
  rw [num_zero] at k
  exact k
theorem muls_any (u x1 y1 : Nat) (i1 : Bool) (v : Nat) (w : World) (hu : u < 2 ^ 256) (h1 : x1 < 2 ^ 256) (h2 : y1 < 2 ^ 256) (hv : v < 2 ^ 256) :
    Calls Try.prog 8 #[.agg (natsV .u64 (wds 4 u)).toArray, .agg (pv (wds 4 x1) (wds 4 y1) i1).toArray, .agg (natsV .u64 (wds 4 v)).toArray] w fun e w' => e = .returned (.bool true) ∧ Below w.heap.size w w' := by
  have d1 := d_on x1 y1 i1 h1 h2
  have hb := base_any
  have eG : ptV gP = .agg (pv (nw gX) (nw gY) false).toArray := by
    have h : ptV (.aff gX gY) = .agg (pv (nw gX) (nw gY) false).toArray := by rw [ptV_aff]
    exact h
  cases hp : onB x1 y1 i1 with
  | false =>
    rw [hp] at d1
    refine muls_no (wds_len 4 _) (wds_len 4 _) (wds_len 4 _) (wds_len 4 _) (nw_len gX) (nw_len gY) k_awake (k_mul_no x1 y1 i1 u h1 h2 hp) hb (fun w => ?_) d1 w
    exact k_two_no x1 y1 gX.val gY.val i1 false u v h1 h2 (lt256 gX) (lt256 gY) (by rw [hp]; rfl) w
  | true =>
    rw [hp] at d1
    obtain ⟨P, hP, eP⟩ := onB_pt hp
    rw [eP] at d1 ⊢
    rw [ptV_eq P] at d1 ⊢
    have hG := dbase_any
    have hm := EC.mul.on okP hP u
    have hg := EC.mul.on okP on_gP v
    refine muls_ok (ia := pI (EC.mul u P)) (ic := pI (EC.sum (EC.mul u P) (EC.mul v gP))) (id_ := pI (EC.mul v gP)) (wds_len 4 u) (pX_len P) (pY_len P) (wds_len 4 v) (nw_len gX) (nw_len gY) (pX_len (EC.mul u P)) (pY_len (EC.mul u P)) (pX_len (EC.sum (EC.mul u P) (EC.mul v gP))) (pY_len (EC.sum (EC.mul u P) (EC.mul v gP))) (pX_len (EC.mul v gP)) (pY_len (EC.mul v gP)) k_awake (fun w => ?_) hb (fun w => ?_) d1 (fun w => ?_) hG (fun w => ?_) (fun w => ?_) w
    · rw [← ptV_eq, ← ptV_eq]; exact k_mulP hP u hu w
    · rw [← ptV_eq, ← ptV_eq, ← eG]; exact k_twoP hP on_gP u v hu hv w
    · rw [← ptV_eq, ← ptV_eq]; exact d_mulP hP u hu w
    · rw [← ptV_eq, ← eG]; exact d_mulP on_gP v hv w
    · rw [← ptV_eq, ← ptV_eq, ← ptV_eq]; exact d_addP hm hg w
end Go.Proofs.Ytfffmoolkgheaaa
