/- Parts of proofs of statements, each text behind those that it stands on. No condition of its own. -/
import Derived.Great.Walk
import Derived.Test.YtfffmoolkgheaaaY23
namespace Go.Proofs.Ytfffmoolkgheaaa
open Go.RowKit
set_option linter.unusedVariables false
set_option linter.unusedSimpArgs false
set_option maxRecDepth 100000 in
set_option maxHeartbeats 1600000 in
theorem plus_a {lx ly lz mx my mz : List Nat} (hlx : lx.length = 4) (hly : ly.length = 4) (hlz : lz.length = 4) (hmx : mx.length = 4) (hmy : my.length = 4) (hmz : mz.length = 4)
    (c1 : ∀ w, Calls Try.prog 116 #[.agg (tv lx ly lz).toArray] w fun e w' => e = .returned (.bool true) ∧ Below w.heap.size w w') (w : World) :
    Calls Try.prog 82 #[.agg (tv lx ly lz).toArray, .agg (tv mx my mz).toArray] w fun e w' => e = .returned (.agg (tv mx my mz).toArray) ∧ Below w.heap.size w w' := by
  have L_lx := Lib.hid hlx
  clear hlx
  have L_ly := Lib.hid hly
  clear hly
  have L_lz := Lib.hid hlz
  clear hlz
  have L_mx := Lib.hid hmx
  clear hmx
  have L_my := Lib.hid hmy
  clear hmy
  have L_mz := Lib.hid hmz
  clear hmz
  have Hc1 := Lib.hid c1
  clear c1
  have B0_ := Lib.hid (((Blk.new w  103 (tv lx ly lz)).alloc (.cells (tv mx my mz).toArray 103)).alloc (.cells (natsV .u64 (zeros 12)).toArray 103))
  have B1_ := Lib.hid ((Blk.new2 w (.cells (tv lx ly lz).toArray 103) 103 (tv mx my mz)).alloc (.cells (natsV .u64 (zeros 12)).toArray 103))
  have B2_ := Lib.hid (Blk.new3 w (.cells (tv lx ly lz).toArray 103) (.cells (tv mx my mz).toArray 103) 103 (natsV .u64 (zeros 12)))
  have bel_ := ((((Below.refl w.heap.size w).alloc (Nat.le_refl _) (.cells (tv lx ly lz).toArray 103)).alloc (by simp) (.cells (tv mx my mz).toArray 103)).alloc (by simp; omega) (.cells (natsV .u64 (zeros 12)).toArray 103))
  go_enter Try.func82, Try.ntmps82
  go_wp2_with (first | (refine wpList_load_mid rfl 103 (.tmp 2) rfl w.heap.size 0 rfl (tv lx ly lz) _ (blk_all (B0_.out)) Try.underlying103 rfl (i103 L_lx.out L_ly.out L_lz.out) ?_))
  refine (Hc1.out _).mono ?_
  rintro e w1 ⟨rfl, hbw1⟩
  have C2 := Lib.hid (B0_.out.gr hbw1)
  clear B0_
  have C3 := Lib.hid (B1_.out.gr hbw1)
  clear B1_
  have C4 := Lib.hid (B2_.out.gr hbw1)
  clear B2_
  have hbel5 := bel_.trans (Below.mono hbw1 bel_.size)
  clear bel_
  clear hbw1
  go_wp2_with (first | (refine wpList_load_mid rfl 103 (.tmp 3) rfl (w.heap.size + 1) 0 rfl (tv mx my mz) _ (blk_all (C3.out)) Try.underlying103 rfl (i103 L_mx.out L_my.out L_mz.out) ?_) | (refine stB rfl 103 (.tmp 4) (.tmp 20) rfl (w.heap.size + 1 + 1) rfl (tv mx my mz) rfl 103 (natsV .u64 (zeros 12)) C4.out (i103 L_mx.out L_my.out L_mz.out) (lenEq (show (natsV .u64 (zeros 12)).length = 12 from rfl) (tv_len L_mx.out L_my.out L_mz.out)) (tv_one _ _ _) ?_))
  refine bodyPost_ret (v := .agg (tv mx my mz).toArray) ?_ rfl ⟨rfl, below_setRow' hbel5 (by first | exact Nat.le_refl _ | omega) _⟩
  exact results_cell_row Try.results82 _ _ (w.heap.size + 1 + 1) 103 _ (0, 0) _ rfl (C4.out.setRow _) Try.underlying103 rfl (by simpa using (i103 L_mx.out L_my.out L_mz.out))
set_option maxRecDepth 100000 in
set_option maxHeartbeats 1600000 in
theorem plus_b {lx ly lz mx my mz : List Nat} (hlx : lx.length = 4) (hly : ly.length = 4) (hlz : lz.length = 4) (hmx : mx.length = 4) (hmy : my.length = 4) (hmz : mz.length = 4)
    (c1 : ∀ w, Calls Try.prog 116 #[.agg (tv lx ly lz).toArray] w fun e w' => e = .returned (.bool false) ∧ Below w.heap.size w w')
    (c2 : ∀ w, Calls Try.prog 116 #[.agg (tv mx my mz).toArray] w fun e w' => e = .returned (.bool true) ∧ Below w.heap.size w w') (w : World) :
    Calls Try.prog 82 #[.agg (tv lx ly lz).toArray, .agg (tv mx my mz).toArray] w fun e w' => e = .returned (.agg (tv lx ly lz).toArray) ∧ Below w.heap.size w w' := by
  have L_lx := Lib.hid hlx
  clear hlx
  have L_ly := Lib.hid hly
  clear hly
  have L_lz := Lib.hid hlz
  clear hlz
  have L_mx := Lib.hid hmx
  clear hmx
  have L_my := Lib.hid hmy
  clear hmy
  have L_mz := Lib.hid hmz
  clear hmz
  have Hc1 := Lib.hid c1
  clear c1
  have Hc2 := Lib.hid c2
  clear c2
  have B0_ := Lib.hid (((Blk.new w  103 (tv lx ly lz)).alloc (.cells (tv mx my mz).toArray 103)).alloc (.cells (natsV .u64 (zeros 12)).toArray 103))
  have B1_ := Lib.hid ((Blk.new2 w (.cells (tv lx ly lz).toArray 103) 103 (tv mx my mz)).alloc (.cells (natsV .u64 (zeros 12)).toArray 103))
  have B2_ := Lib.hid (Blk.new3 w (.cells (tv lx ly lz).toArray 103) (.cells (tv mx my mz).toArray 103) 103 (natsV .u64 (zeros 12)))
  have bel_ := ((((Below.refl w.heap.size w).alloc (Nat.le_refl _) (.cells (tv lx ly lz).toArray 103)).alloc (by simp) (.cells (tv mx my mz).toArray 103)).alloc (by simp; omega) (.cells (natsV .u64 (zeros 12)).toArray 103))
  go_enter Try.func82, Try.ntmps82
  go_wp2_with (first | (refine wpList_load_mid rfl 103 (.tmp 2) rfl w.heap.size 0 rfl (tv lx ly lz) _ (blk_all (B0_.out)) Try.underlying103 rfl (i103 L_lx.out L_ly.out L_lz.out) ?_))
  refine (Hc1.out _).mono ?_
  rintro e w1 ⟨rfl, hbw1⟩
  have C2 := Lib.hid (B0_.out.gr hbw1)
  clear B0_
  have C3 := Lib.hid (B1_.out.gr hbw1)
  clear B1_
  have C4 := Lib.hid (B2_.out.gr hbw1)
  clear B2_
  have hbel5 := bel_.trans (Below.mono hbw1 bel_.size)
  clear bel_
  clear hbw1
  go_wp2_with (first | (refine wpList_load_mid rfl 103 (.tmp 3) rfl (w.heap.size + 1) 0 rfl (tv mx my mz) _ (blk_all (C3.out)) Try.underlying103 rfl (i103 L_mx.out L_my.out L_mz.out) ?_))
  refine (Hc2.out _).mono ?_
  rintro e w6 ⟨rfl, hbw6⟩
  have C7 := Lib.hid (C2.out.gr hbw6)
  clear C2
  have C8 := Lib.hid (C3.out.gr hbw6)
  clear C3
  have C9 := Lib.hid (C4.out.gr hbw6)
  clear C4
  have hbel10 := hbel5.trans (Below.mono hbw6 hbel5.size)
  clear hbel5
  clear hbw6
  go_wp2_with (first | (refine wpList_load_mid rfl 103 (.tmp 2) rfl w.heap.size 0 rfl (tv lx ly lz) _ (blk_all (C7.out)) Try.underlying103 rfl (i103 L_lx.out L_ly.out L_lz.out) ?_) | (refine stB rfl 103 (.tmp 4) (.tmp 23) rfl (w.heap.size + 1 + 1) rfl (tv lx ly lz) rfl 103 (natsV .u64 (zeros 12)) C9.out (i103 L_lx.out L_ly.out L_lz.out) (lenEq (show (natsV .u64 (zeros 12)).length = 12 from rfl) (tv_len L_lx.out L_ly.out L_lz.out)) (tv_one _ _ _) ?_))
  refine bodyPost_ret (v := .agg (tv lx ly lz).toArray) ?_ rfl ⟨rfl, below_setRow' hbel10 (by first | exact Nat.le_refl _ | omega) _⟩
  exact results_cell_row Try.results82 _ _ (w.heap.size + 1 + 1) 103 _ (0, 0) _ rfl (C9.out.setRow _) Try.underlying103 rfl (by simpa using (i103 L_lx.out L_ly.out L_lz.out))
set_option maxRecDepth 100000 in
set_option maxHeartbeats 6400000 in
theorem plus_c {lx ly lz mx my mz ss st xs y1 ys y2 ux uy uz : List Nat} (hlx : lx.length = 4) (hly : ly.length = 4) (hlz : lz.length = 4) (hmx : mx.length = 4) (hmy : my.length = 4) (hmz : mz.length = 4) (hss : ss.length = 4) (hst : st.length = 4) (hxs : xs.length = 4) (hy1 : y1.length = 4) (hys : ys.length = 4) (hy2 : y2.length = 4) (hux : ux.length = 4) (huy : uy.length = 4) (huz : uz.length = 4)
    (c1 : ∀ w, Calls Try.prog 116 #[.agg (tv lx ly lz).toArray] w fun e w' => e = .returned (.bool false) ∧ Below w.heap.size w w')
    (c2 : ∀ w, Calls Try.prog 116 #[.agg (tv mx my mz).toArray] w fun e w' => e = .returned (.bool false) ∧ Below w.heap.size w w')
    (c3 : ∀ w, Calls Try.prog 72 #[.agg (natsV .u64 lz).toArray] w fun e w' => e = .returned (.agg (natsV .u64 ss).toArray) ∧ Below w.heap.size w w')
    (c4 : ∀ w, Calls Try.prog 72 #[.agg (natsV .u64 mz).toArray] w fun e w' => e = .returned (.agg (natsV .u64 st).toArray) ∧ Below w.heap.size w w')
    (c5 : ∀ w, Calls Try.prog 108 #[.agg (natsV .u64 lx).toArray, .agg (natsV .u64 st).toArray] w fun e w' => e = .returned (.agg (natsV .u64 xs).toArray) ∧ Below w.heap.size w w')
    (c6 : ∀ w, Calls Try.prog 108 #[.agg (natsV .u64 mx).toArray, .agg (natsV .u64 ss).toArray] w fun e w' => e = .returned (.agg (natsV .u64 xs).toArray) ∧ Below w.heap.size w w')
    (c7 : ∀ w, Calls Try.prog 108 #[.agg (natsV .u64 ly).toArray, .agg (natsV .u64 st).toArray] w fun e w' => e = .returned (.agg (natsV .u64 y1).toArray) ∧ Below w.heap.size w w')
    (c8 : ∀ w, Calls Try.prog 108 #[.agg (natsV .u64 y1).toArray, .agg (natsV .u64 mz).toArray] w fun e w' => e = .returned (.agg (natsV .u64 ys).toArray) ∧ Below w.heap.size w w')
    (c9 : ∀ w, Calls Try.prog 108 #[.agg (natsV .u64 my).toArray, .agg (natsV .u64 ss).toArray] w fun e w' => e = .returned (.agg (natsV .u64 y2).toArray) ∧ Below w.heap.size w w')
    (c10 : ∀ w, Calls Try.prog 108 #[.agg (natsV .u64 y2).toArray, .agg (natsV .u64 lz).toArray] w fun e w' => e = .returned (.agg (natsV .u64 ys).toArray) ∧ Below w.heap.size w w')
    (c11 : ∀ w, Calls Try.prog 117 #[.agg (tv lx ly lz).toArray] w fun e w' => e = .returned (.agg (tv ux uy uz).toArray) ∧ Below w.heap.size w w') (w : World) :
    Calls Try.prog 82 #[.agg (tv lx ly lz).toArray, .agg (tv mx my mz).toArray] w fun e w' => e = .returned (.agg (tv ux uy uz).toArray) ∧ Below w.heap.size w w' := by
  have L_lx := Lib.hid hlx
  clear hlx
  have L_ly := Lib.hid hly
  clear hly
  have L_lz := Lib.hid hlz
  clear hlz
  have L_mx := Lib.hid hmx
  clear hmx
  have L_my := Lib.hid hmy
  clear hmy
  have L_mz := Lib.hid hmz
  clear hmz
  have L_ss := Lib.hid hss
  clear hss
  have L_st := Lib.hid hst
  clear hst
  have L_xs := Lib.hid hxs
  clear hxs
  have L_y1 := Lib.hid hy1
  clear hy1
  have L_ys := Lib.hid hys
  clear hys
  have L_y2 := Lib.hid hy2
  clear hy2
  have L_ux := Lib.hid hux
  clear hux
  have L_uy := Lib.hid huy
  clear huy
  have L_uz := Lib.hid huz
  clear huz
  have Hc1 := Lib.hid c1
  clear c1
  have Hc2 := Lib.hid c2
  clear c2
  have Hc3 := Lib.hid c3
  clear c3
  have Hc4 := Lib.hid c4
  clear c4
  have Hc5 := Lib.hid c5
  clear c5
  have Hc6 := Lib.hid c6
  clear c6
  have Hc7 := Lib.hid c7
  clear c7
  have Hc8 := Lib.hid c8
  clear c8
  have Hc9 := Lib.hid c9
  clear c9
  have Hc10 := Lib.hid c10
  clear c10
  have Hc11 := Lib.hid c11
  clear c11
  have QX := Lib.hid (fun w => (eql94 xs xs L_xs.out L_xs.out w).trans (by rw [decide_eq_true rfl]))
  have QY := Lib.hid (fun w => (eql94 ys ys L_ys.out L_ys.out w).trans (by rw [decide_eq_true rfl]))
  have B0_ := Lib.hid (((Blk.new w  103 (tv lx ly lz)).alloc (.cells (tv mx my mz).toArray 103)).alloc (.cells (natsV .u64 (zeros 12)).toArray 103))
  have B1_ := Lib.hid ((Blk.new2 w (.cells (tv lx ly lz).toArray 103) 103 (tv mx my mz)).alloc (.cells (natsV .u64 (zeros 12)).toArray 103))
  have B2_ := Lib.hid (Blk.new3 w (.cells (tv lx ly lz).toArray 103) (.cells (tv mx my mz).toArray 103) 103 (natsV .u64 (zeros 12)))
  have bel_ := ((((Below.refl w.heap.size w).alloc (Nat.le_refl _) (.cells (tv lx ly lz).toArray 103)).alloc (by simp) (.cells (tv mx my mz).toArray 103)).alloc (by simp; omega) (.cells (natsV .u64 (zeros 12)).toArray 103))
  go_enter Try.func82, Try.ntmps82
  go_wp2_with (first | (refine wpList_load_mid rfl 103 (.tmp 2) rfl w.heap.size 0 rfl (tv lx ly lz) _ (blk_all (B0_.out)) Try.underlying103 rfl (i103 L_lx.out L_ly.out L_lz.out) ?_))
  refine (Hc1.out _).mono ?_
  rintro e w1 ⟨rfl, hbw1⟩
  have C2 := Lib.hid (B0_.out.gr hbw1)
  clear B0_
  have C3 := Lib.hid (B1_.out.gr hbw1)
  clear B1_
  have C4 := Lib.hid (B2_.out.gr hbw1)
  clear B2_
  have hbel5 := bel_.trans (Below.mono hbw1 bel_.size)
  clear bel_
  clear hbw1
  go_wp2_with (first | (refine wpList_load_mid rfl 103 (.tmp 3) rfl (w.heap.size + 1) 0 rfl (tv mx my mz) _ (blk_all (C3.out)) Try.underlying103 rfl (i103 L_mx.out L_my.out L_mz.out) ?_))
  refine (Hc2.out _).mono ?_
  rintro e w6 ⟨rfl, hbw6⟩
  have C7 := Lib.hid (C2.out.gr hbw6)
  clear C2
  have C8 := Lib.hid (C3.out.gr hbw6)
  clear C3
  have C9 := Lib.hid (C4.out.gr hbw6)
  clear C4
  have hbel10 := hbel5.trans (Below.mono hbw6 hbel5.size)
  clear hbel5
  clear hbw6
  go_wp2_with fail
  as_aux_lemma =>
  refine wp_region_G (fun w_ => Blk w_ w.heap.size 103 (tv lx ly lz) ∧ Blk w_ (w.heap.size + 1) 103 (tv mx my mz)) 9 (by kernel_rfl) ⟨C7.out.drew, C8.out.drew⟩ ?_
  refine wpAnyG_take (fun _ _ hS_ hb_ => ⟨hS_.1.gr hb_, hS_.2.gr hb_⟩) (i := 0) rfl (by kernel_rfl) (fun _ _ _ h => h) (pureG (by rfl) (by intro w; go_simp; first | done | with_reducible rfl)) ?_
  try simp only [Act.put, zq1, zq2, zq3, zq4, zq5, zq6]
  refine wpAnyG_take (fun _ _ hS_ hb_ => ⟨hS_.1.gr hb_, hS_.2.gr hb_⟩) (i := 1) rfl (by kernel_rfl) (fun _ _ _ h => h) (loadG (by rfl) _ _ rfl _ _ rfl (natsV .u64 lz) _ (fun _ hS_ => tv_z (hS_.1) L_lx.out L_ly.out) Try.underlying94 rfl (i94 L_lz.out)) ?_
  try simp only [Act.put, zq1, zq2, zq3, zq4, zq5, zq6]
  refine wpAnyG_take (fun _ _ hS_ hb_ => ⟨hS_.1.gr hb_, hS_.2.gr hb_⟩) (i := 2) rfl (by kernel_rfl) (fun _ _ _ h => h) (callG (by rfl) rfl Try.func72 (by kernel_rfl) (by kernel_rfl) (#[.agg (natsV .u64 lz).toArray]) (by simp [Act.eval]) (fun w _ => Hc3.out w)) ?_
  try simp only [Act.put, zq1, zq2, zq3, zq4, zq5, zq6]
  refine wpAnyG_take (fun _ _ hS_ hb_ => ⟨hS_.1.gr hb_, hS_.2.gr hb_⟩) (i := 3) rfl (by kernel_rfl) (fun _ _ _ h => h) (pureG (by rfl) (by intro w; go_simp; first | done | with_reducible rfl)) ?_
  try simp only [Act.put, zq1, zq2, zq3, zq4, zq5, zq6]
  refine wpAnyG_take (fun _ _ hS_ hb_ => ⟨hS_.1.gr hb_, hS_.2.gr hb_⟩) (i := 4) rfl (by kernel_rfl) (fun _ _ _ h => h) (loadG (by rfl) _ _ rfl _ _ rfl (natsV .u64 mz) _ (fun _ hS_ => tv_z (hS_.2) L_mx.out L_my.out) Try.underlying94 rfl (i94 L_mz.out)) ?_
  try simp only [Act.put, zq1, zq2, zq3, zq4, zq5, zq6]
  refine wpAnyG_take (fun _ _ hS_ hb_ => ⟨hS_.1.gr hb_, hS_.2.gr hb_⟩) (i := 5) rfl (by kernel_rfl) (fun _ _ _ h => h) (callG (by rfl) rfl Try.func72 (by kernel_rfl) (by kernel_rfl) (#[.agg (natsV .u64 mz).toArray]) (by simp [Act.eval]) (fun w _ => Hc4.out w)) ?_
  try simp only [Act.put, zq1, zq2, zq3, zq4, zq5, zq6]
  refine wpAnyG_def2 (i := 6) (j := 7) (k := 8) (l := 9) (fun _ _ hS_ hb_ => ⟨hS_.1.gr hb_, hS_.2.gr hb_⟩) (by kernel_rfl) (by kernel_rfl) (by kernel_rfl) (by kernel_rfl) (by kernel_rfl) (by kernel_rfl) (by decide) rfl rfl rfl rfl rfl (allocG (by rfl) rfl _ alloc94) (allocG (by rfl) rfl _ alloc94) (fun _ => allocG (by rfl) rfl _ alloc94) (fun _ => allocG (by rfl) rfl _ alloc94) (fun _ _ => rfl) (lenEq (show (natsV .u64 (zeros 4)).length = 4 from rfl) (by rw [natsV_length, L_ss.out])) (lenEq (show (natsV .u64 (zeros 4)).length = 4 from rfl) (by rw [natsV_length, L_st.out])) (fun _ _ => StoresG.mk (cs := (natsV .u64 ss)) (by rfl) 94 _ _ rfl rfl rfl (i94 L_ss.out) (natsV_one _ _)) (fun _ _ => StoresG.mk (cs := (natsV .u64 st)) (by rfl) 94 _ _ rfl rfl rfl (i94 L_st.out) (natsV_one _ _)) (fun g_ w_ hS_ hz_ hb_ => ⟨(hS_.1.gr hb_).row _ (Nat.ne_of_lt (Nat.lt_of_lt_of_le hS_.1.lt hz_)), (hS_.2.gr hb_).row _ (Nat.ne_of_lt (Nat.lt_of_lt_of_le hS_.2.lt hz_))⟩) (⟨C7.out.drew, C8.out.drew⟩) ?_
  intro w11 G12 G13 hgw11 hz_ hz2_ hne_ hn_ hn2_
  try simp only [Act.put, zq1, zq2, zq3, zq4, zq5, zq6]
  have E14 := Lib.hid (C7.out.drew.gr hgw11)
  clear C7
  have E15 := Lib.hid (C8.out.drew.gr hgw11)
  clear C8
  have E16 := Lib.hid (C9.out.drew.gr hgw11)
  clear C9
  have hbel17 := hbel10.drew.trans (Below.mono hgw11 hbel10.drew.size)
  clear hbel10
  have D18 := Lib.hid hn_
  have D19 := Lib.hid hn2_
  clear hn_ hn2_ hz_ hz2_ hne_ hgw11
  as_aux_lemma =>
  go_wp2_with fail
  as_aux_lemma =>
  refine wp_region_G (fun w_ => Blk w_ w.heap.size 103 (tv lx ly lz) ∧ Blk w_ G13 94 (natsV .u64 st) ∧ Blk w_ (w.heap.size + 1) 103 (tv mx my mz) ∧ Blk w_ G12 94 (natsV .u64 ss)) 11 (by kernel_rfl) ⟨E14.out.drew, D19.out.drew, E15.out.drew, D18.out.drew⟩ ?_
  refine wpAnyG_take (fun _ _ hS_ hb_ => ⟨hS_.1.gr hb_, hS_.2.1.gr hb_, hS_.2.2.1.gr hb_, hS_.2.2.2.gr hb_⟩) (i := 0) rfl (by kernel_rfl) (fun _ _ _ h => h) (pureG (by rfl) (by intro w; go_simp; first | done | with_reducible rfl)) ?_
  try simp only [Act.put, zq1, zq2, zq3, zq4, zq5, zq6]
  refine wpAnyG_take (fun _ _ hS_ hb_ => ⟨hS_.1.gr hb_, hS_.2.1.gr hb_, hS_.2.2.1.gr hb_, hS_.2.2.2.gr hb_⟩) (i := 1) rfl (by kernel_rfl) (fun _ _ _ h => h) (loadG (by rfl) _ _ rfl _ _ rfl (natsV .u64 lx) _ (fun _ hS_ => tv_x (hS_.1)) Try.underlying94 rfl (i94 L_lx.out)) ?_
  try simp only [Act.put, zq1, zq2, zq3, zq4, zq5, zq6]
  refine wpAnyG_take (fun _ _ hS_ hb_ => ⟨hS_.1.gr hb_, hS_.2.1.gr hb_, hS_.2.2.1.gr hb_, hS_.2.2.2.gr hb_⟩) (i := 2) rfl (by kernel_rfl) (fun _ _ _ h => h) (loadG (by rfl) _ _ rfl _ _ rfl (natsV .u64 st) _ (fun _ hS_ => blk_all (hS_.2.1)) Try.underlying94 rfl (i94 L_st.out)) ?_
  try simp only [Act.put, zq1, zq2, zq3, zq4, zq5, zq6]
  refine wpAnyG_take (fun _ _ hS_ hb_ => ⟨hS_.1.gr hb_, hS_.2.1.gr hb_, hS_.2.2.1.gr hb_, hS_.2.2.2.gr hb_⟩) (i := 3) rfl (by kernel_rfl) (fun _ _ _ h => h) (callG (by rfl) rfl Try.func108 (by kernel_rfl) (by kernel_rfl) (#[.agg (natsV .u64 lx).toArray, .agg (natsV .u64 st).toArray]) (by simp [Act.eval]) (fun w _ => Hc5.out w)) ?_
  try simp only [Act.put, zq1, zq2, zq3, zq4, zq5, zq6]
  refine wpAnyG_take (fun _ _ hS_ hb_ => ⟨hS_.1.gr hb_, hS_.2.1.gr hb_, hS_.2.2.1.gr hb_, hS_.2.2.2.gr hb_⟩) (i := 4) rfl (by kernel_rfl) (fun _ _ _ h => h) (pureG (by rfl) (by intro w; go_simp; first | done | with_reducible rfl)) ?_
  try simp only [Act.put, zq1, zq2, zq3, zq4, zq5, zq6]
  refine wpAnyG_take (fun _ _ hS_ hb_ => ⟨hS_.1.gr hb_, hS_.2.1.gr hb_, hS_.2.2.1.gr hb_, hS_.2.2.2.gr hb_⟩) (i := 5) rfl (by kernel_rfl) (fun _ _ _ h => h) (loadG (by rfl) _ _ rfl _ _ rfl (natsV .u64 mx) _ (fun _ hS_ => tv_x (hS_.2.2.1)) Try.underlying94 rfl (i94 L_mx.out)) ?_
  try simp only [Act.put, zq1, zq2, zq3, zq4, zq5, zq6]
  refine wpAnyG_take (fun _ _ hS_ hb_ => ⟨hS_.1.gr hb_, hS_.2.1.gr hb_, hS_.2.2.1.gr hb_, hS_.2.2.2.gr hb_⟩) (i := 6) rfl (by kernel_rfl) (fun _ _ _ h => h) (loadG (by rfl) _ _ rfl _ _ rfl (natsV .u64 ss) _ (fun _ hS_ => blk_all (hS_.2.2.2)) Try.underlying94 rfl (i94 L_ss.out)) ?_
  try simp only [Act.put, zq1, zq2, zq3, zq4, zq5, zq6]
  refine wpAnyG_take (fun _ _ hS_ hb_ => ⟨hS_.1.gr hb_, hS_.2.1.gr hb_, hS_.2.2.1.gr hb_, hS_.2.2.2.gr hb_⟩) (i := 7) rfl (by kernel_rfl) (fun _ _ _ h => h) (callG (by rfl) rfl Try.func108 (by kernel_rfl) (by kernel_rfl) (#[.agg (natsV .u64 mx).toArray, .agg (natsV .u64 ss).toArray]) (by simp [Act.eval]) (fun w _ => Hc6.out w)) ?_
  try simp only [Act.put, zq1, zq2, zq3, zq4, zq5, zq6]
  refine wpAnyG_def2 (i := 8) (j := 9) (k := 10) (l := 11) (fun _ _ hS_ hb_ => ⟨hS_.1.gr hb_, hS_.2.1.gr hb_, hS_.2.2.1.gr hb_, hS_.2.2.2.gr hb_⟩) (by kernel_rfl) (by kernel_rfl) (by kernel_rfl) (by kernel_rfl) (by kernel_rfl) (by kernel_rfl) (by decide) rfl rfl rfl rfl rfl (allocG (by rfl) rfl _ alloc94) (allocG (by rfl) rfl _ alloc94) (fun _ => allocG (by rfl) rfl _ alloc94) (fun _ => allocG (by rfl) rfl _ alloc94) (fun _ _ => rfl) (lenEq (show (natsV .u64 (zeros 4)).length = 4 from rfl) (by rw [natsV_length, L_xs.out])) (lenEq (show (natsV .u64 (zeros 4)).length = 4 from rfl) (by rw [natsV_length, L_xs.out])) (fun _ _ => StoresG.mk (cs := (natsV .u64 xs)) (by rfl) 94 _ _ rfl rfl rfl (i94 L_xs.out) (natsV_one _ _)) (fun _ _ => StoresG.mk (cs := (natsV .u64 xs)) (by rfl) 94 _ _ rfl rfl rfl (i94 L_xs.out) (natsV_one _ _)) (fun g_ w_ hS_ hz_ hb_ => ⟨(hS_.1.gr hb_).row _ (Nat.ne_of_lt (Nat.lt_of_lt_of_le hS_.1.lt hz_)), (hS_.2.1.gr hb_).row _ (Nat.ne_of_lt (Nat.lt_of_lt_of_le hS_.2.1.lt hz_)), (hS_.2.2.1.gr hb_).row _ (Nat.ne_of_lt (Nat.lt_of_lt_of_le hS_.2.2.1.lt hz_)), (hS_.2.2.2.gr hb_).row _ (Nat.ne_of_lt (Nat.lt_of_lt_of_le hS_.2.2.2.lt hz_))⟩) (⟨E14.out.drew, D19.out.drew, E15.out.drew, D18.out.drew⟩) ?_
  intro w20 G21 G22 hgw20 hz_ hz2_ hne_ hn_ hn2_
  try simp only [Act.put, zq1, zq2, zq3, zq4, zq5, zq6]
  have E23 := Lib.hid (E14.out.drew.gr hgw20)
  clear E14
  have E24 := Lib.hid (E15.out.drew.gr hgw20)
  clear E15
  have E25 := Lib.hid (E16.out.drew.gr hgw20)
  clear E16
  have E26 := Lib.hid (D18.out.drew.gr hgw20)
  clear D18
  have E27 := Lib.hid (D19.out.drew.gr hgw20)
  clear D19
  have hbel28 := hbel17.drew.trans (Below.mono hgw20 hbel17.drew.size)
  clear hbel17
  have D29 := Lib.hid hn_
  have D30 := Lib.hid hn2_
  clear hn_ hn2_ hz_ hz2_ hne_ hgw20
  as_aux_lemma =>
  go_wp2_with fail
  as_aux_lemma =>
  refine wp_region_G (fun w_ => Blk w_ w.heap.size 103 (tv lx ly lz) ∧ Blk w_ G13 94 (natsV .u64 st) ∧ Blk w_ (w.heap.size + 1) 103 (tv mx my mz) ∧ Blk w_ G12 94 (natsV .u64 ss)) 17 (by kernel_rfl) ⟨E23.out.drew, E27.out.drew, E24.out.drew, E26.out.drew⟩ ?_
  refine wpAnyG_take (fun _ _ hS_ hb_ => ⟨hS_.1.gr hb_, hS_.2.1.gr hb_, hS_.2.2.1.gr hb_, hS_.2.2.2.gr hb_⟩) (i := 0) rfl (by kernel_rfl) (fun _ _ _ h => h) (pureG (by rfl) (by intro w; go_simp; first | done | with_reducible rfl)) ?_
  try simp only [Act.put, zq1, zq2, zq3, zq4, zq5, zq6]
  refine wpAnyG_take (fun _ _ hS_ hb_ => ⟨hS_.1.gr hb_, hS_.2.1.gr hb_, hS_.2.2.1.gr hb_, hS_.2.2.2.gr hb_⟩) (i := 1) rfl (by kernel_rfl) (fun _ _ _ h => h) (loadG (by rfl) _ _ rfl _ _ rfl (natsV .u64 ly) _ (fun _ hS_ => tv_y (hS_.1) L_lx.out) Try.underlying94 rfl (i94 L_ly.out)) ?_
  try simp only [Act.put, zq1, zq2, zq3, zq4, zq5, zq6]
  refine wpAnyG_take (fun _ _ hS_ hb_ => ⟨hS_.1.gr hb_, hS_.2.1.gr hb_, hS_.2.2.1.gr hb_, hS_.2.2.2.gr hb_⟩) (i := 2) rfl (by kernel_rfl) (fun _ _ _ h => h) (loadG (by rfl) _ _ rfl _ _ rfl (natsV .u64 st) _ (fun _ hS_ => blk_all (hS_.2.1)) Try.underlying94 rfl (i94 L_st.out)) ?_
  try simp only [Act.put, zq1, zq2, zq3, zq4, zq5, zq6]
  refine wpAnyG_take (fun _ _ hS_ hb_ => ⟨hS_.1.gr hb_, hS_.2.1.gr hb_, hS_.2.2.1.gr hb_, hS_.2.2.2.gr hb_⟩) (i := 3) rfl (by kernel_rfl) (fun _ _ _ h => h) (callG (by rfl) rfl Try.func108 (by kernel_rfl) (by kernel_rfl) (#[.agg (natsV .u64 ly).toArray, .agg (natsV .u64 st).toArray]) (by simp [Act.eval]) (fun w _ => Hc7.out w)) ?_
  try simp only [Act.put, zq1, zq2, zq3, zq4, zq5, zq6]
  refine wpAnyG_take (fun _ _ hS_ hb_ => ⟨hS_.1.gr hb_, hS_.2.1.gr hb_, hS_.2.2.1.gr hb_, hS_.2.2.2.gr hb_⟩) (i := 4) rfl (by kernel_rfl) (fun _ _ _ h => h) (pureG (by rfl) (by intro w; go_simp; first | done | with_reducible rfl)) ?_
  try simp only [Act.put, zq1, zq2, zq3, zq4, zq5, zq6]
  refine wpAnyG_take (fun _ _ hS_ hb_ => ⟨hS_.1.gr hb_, hS_.2.1.gr hb_, hS_.2.2.1.gr hb_, hS_.2.2.2.gr hb_⟩) (i := 5) rfl (by kernel_rfl) (fun _ _ _ h => h) (loadG (by rfl) _ _ rfl _ _ rfl (natsV .u64 mz) _ (fun _ hS_ => tv_z (hS_.2.2.1) L_mx.out L_my.out) Try.underlying94 rfl (i94 L_mz.out)) ?_
  try simp only [Act.put, zq1, zq2, zq3, zq4, zq5, zq6]
  refine wpAnyG_take (fun _ _ hS_ hb_ => ⟨hS_.1.gr hb_, hS_.2.1.gr hb_, hS_.2.2.1.gr hb_, hS_.2.2.2.gr hb_⟩) (i := 6) rfl (by kernel_rfl) (fun _ _ _ h => h) (callG (by rfl) rfl Try.func108 (by kernel_rfl) (by kernel_rfl) (#[.agg (natsV .u64 y1).toArray, .agg (natsV .u64 mz).toArray]) (by simp [Act.eval]) (fun w _ => Hc8.out w)) ?_
  try simp only [Act.put, zq1, zq2, zq3, zq4, zq5, zq6]
  refine wpAnyG_take (fun _ _ hS_ hb_ => ⟨hS_.1.gr hb_, hS_.2.1.gr hb_, hS_.2.2.1.gr hb_, hS_.2.2.2.gr hb_⟩) (i := 7) rfl (by kernel_rfl) (fun _ _ _ h => h) (pureG (by rfl) (by intro w; go_simp; first | done | with_reducible rfl)) ?_
  try simp only [Act.put, zq1, zq2, zq3, zq4, zq5, zq6]
  refine wpAnyG_take (fun _ _ hS_ hb_ => ⟨hS_.1.gr hb_, hS_.2.1.gr hb_, hS_.2.2.1.gr hb_, hS_.2.2.2.gr hb_⟩) (i := 8) rfl (by kernel_rfl) (fun _ _ _ h => h) (loadG (by rfl) _ _ rfl _ _ rfl (natsV .u64 my) _ (fun _ hS_ => tv_y (hS_.2.2.1) L_mx.out) Try.underlying94 rfl (i94 L_my.out)) ?_
  try simp only [Act.put, zq1, zq2, zq3, zq4, zq5, zq6]
  refine wpAnyG_take (fun _ _ hS_ hb_ => ⟨hS_.1.gr hb_, hS_.2.1.gr hb_, hS_.2.2.1.gr hb_, hS_.2.2.2.gr hb_⟩) (i := 9) rfl (by kernel_rfl) (fun _ _ _ h => h) (loadG (by rfl) _ _ rfl _ _ rfl (natsV .u64 ss) _ (fun _ hS_ => blk_all (hS_.2.2.2)) Try.underlying94 rfl (i94 L_ss.out)) ?_
  try simp only [Act.put, zq1, zq2, zq3, zq4, zq5, zq6]
  refine wpAnyG_take (fun _ _ hS_ hb_ => ⟨hS_.1.gr hb_, hS_.2.1.gr hb_, hS_.2.2.1.gr hb_, hS_.2.2.2.gr hb_⟩) (i := 10) rfl (by kernel_rfl) (fun _ _ _ h => h) (callG (by rfl) rfl Try.func108 (by kernel_rfl) (by kernel_rfl) (#[.agg (natsV .u64 my).toArray, .agg (natsV .u64 ss).toArray]) (by simp [Act.eval]) (fun w _ => Hc9.out w)) ?_
  try simp only [Act.put, zq1, zq2, zq3, zq4, zq5, zq6]
  refine wpAnyG_take (fun _ _ hS_ hb_ => ⟨hS_.1.gr hb_, hS_.2.1.gr hb_, hS_.2.2.1.gr hb_, hS_.2.2.2.gr hb_⟩) (i := 11) rfl (by kernel_rfl) (fun _ _ _ h => h) (pureG (by rfl) (by intro w; go_simp; first | done | with_reducible rfl)) ?_
  try simp only [Act.put, zq1, zq2, zq3, zq4, zq5, zq6]
  refine wpAnyG_take (fun _ _ hS_ hb_ => ⟨hS_.1.gr hb_, hS_.2.1.gr hb_, hS_.2.2.1.gr hb_, hS_.2.2.2.gr hb_⟩) (i := 12) rfl (by kernel_rfl) (fun _ _ _ h => h) (loadG (by rfl) _ _ rfl _ _ rfl (natsV .u64 lz) _ (fun _ hS_ => tv_z (hS_.1) L_lx.out L_ly.out) Try.underlying94 rfl (i94 L_lz.out)) ?_
  try simp only [Act.put, zq1, zq2, zq3, zq4, zq5, zq6]
  refine wpAnyG_take (fun _ _ hS_ hb_ => ⟨hS_.1.gr hb_, hS_.2.1.gr hb_, hS_.2.2.1.gr hb_, hS_.2.2.2.gr hb_⟩) (i := 13) rfl (by kernel_rfl) (fun _ _ _ h => h) (callG (by rfl) rfl Try.func108 (by kernel_rfl) (by kernel_rfl) (#[.agg (natsV .u64 y2).toArray, .agg (natsV .u64 lz).toArray]) (by simp [Act.eval]) (fun w _ => Hc10.out w)) ?_
  try simp only [Act.put, zq1, zq2, zq3, zq4, zq5, zq6]
  refine wpAnyG_def2 (i := 14) (j := 15) (k := 16) (l := 17) (fun _ _ hS_ hb_ => ⟨hS_.1.gr hb_, hS_.2.1.gr hb_, hS_.2.2.1.gr hb_, hS_.2.2.2.gr hb_⟩) (by kernel_rfl) (by kernel_rfl) (by kernel_rfl) (by kernel_rfl) (by kernel_rfl) (by kernel_rfl) (by decide) rfl rfl rfl rfl rfl (allocG (by rfl) rfl _ alloc94) (allocG (by rfl) rfl _ alloc94) (fun _ => allocG (by rfl) rfl _ alloc94) (fun _ => allocG (by rfl) rfl _ alloc94) (fun _ _ => rfl) (lenEq (show (natsV .u64 (zeros 4)).length = 4 from rfl) (by rw [natsV_length, L_ys.out])) (lenEq (show (natsV .u64 (zeros 4)).length = 4 from rfl) (by rw [natsV_length, L_ys.out])) (fun _ _ => StoresG.mk (cs := (natsV .u64 ys)) (by rfl) 94 _ _ rfl rfl rfl (i94 L_ys.out) (natsV_one _ _)) (fun _ _ => StoresG.mk (cs := (natsV .u64 ys)) (by rfl) 94 _ _ rfl rfl rfl (i94 L_ys.out) (natsV_one _ _)) (fun g_ w_ hS_ hz_ hb_ => ⟨(hS_.1.gr hb_).row _ (Nat.ne_of_lt (Nat.lt_of_lt_of_le hS_.1.lt hz_)), (hS_.2.1.gr hb_).row _ (Nat.ne_of_lt (Nat.lt_of_lt_of_le hS_.2.1.lt hz_)), (hS_.2.2.1.gr hb_).row _ (Nat.ne_of_lt (Nat.lt_of_lt_of_le hS_.2.2.1.lt hz_)), (hS_.2.2.2.gr hb_).row _ (Nat.ne_of_lt (Nat.lt_of_lt_of_le hS_.2.2.2.lt hz_))⟩) (⟨E23.out.drew, E27.out.drew, E24.out.drew, E26.out.drew⟩) ?_
  intro w31 G32 G33 hgw31 hz_ hz2_ hne_ hn_ hn2_
  try simp only [Act.put, zq1, zq2, zq3, zq4, zq5, zq6]
  have E34 := Lib.hid (E23.out.drew.gr hgw31)
  clear E23
  have E35 := Lib.hid (E24.out.drew.gr hgw31)
  clear E24
  have E36 := Lib.hid (E25.out.drew.gr hgw31)
  clear E25
  have E37 := Lib.hid (E26.out.drew.gr hgw31)
  clear E26
  have E38 := Lib.hid (E27.out.drew.gr hgw31)
  clear E27
  have E39 := Lib.hid (D29.out.drew.gr hgw31)
  clear D29
  have E40 := Lib.hid (D30.out.drew.gr hgw31)
  clear D30
  have hbel41 := hbel28.drew.trans (Below.mono hgw31 hbel28.drew.size)
  clear hbel28
  have D42 := Lib.hid hn_
  have D43 := Lib.hid hn2_
  clear hn_ hn2_ hz_ hz2_ hne_ hgw31
  as_aux_lemma =>
  have qx := QX.out
  have qy := QY.out
  go_wp2_with (first | (refine wpList_load_mid rfl 94 (.tmp 7) rfl G21 0 rfl (natsV .u64 xs) _ (blk_all (E39.out)) Try.underlying94 rfl (i94 L_xs.out) ?_) | (refine wpList_load_mid rfl 94 (.tmp 8) rfl G22 0 rfl (natsV .u64 xs) _ (blk_all (E40.out)) Try.underlying94 rfl (i94 L_xs.out) ?_) | (refine ldw 94 (.tmp 9) rfl G32 rfl .u64 ys D42.out _ _ Try.underlying94 (by rw [info94, L_ys.out]) 3 rfl 55 rfl rfl ?_) | (refine ldw 94 (.tmp 10) rfl G33 rfl .u64 ys D43.out _ _ Try.underlying94 (by rw [info94, L_ys.out]) 3 rfl 55 rfl rfl ?_) | (refine wpList_load_mid rfl 103 (.tmp 2) rfl w.heap.size 0 rfl (tv lx ly lz) _ (blk_all (E34.out)) Try.underlying103 rfl (i103 L_lx.out L_ly.out L_lz.out) ?_))
  refine (Hc11.out _).mono ?_
  rintro e w44 ⟨rfl, hbw44⟩
  have C45 := Lib.hid (E34.out.gr hbw44)
  clear E34
  have C46 := Lib.hid (E35.out.gr hbw44)
  clear E35
  have C47 := Lib.hid (E36.out.gr hbw44)
  clear E36
  have C48 := Lib.hid (E37.out.gr hbw44)
  clear E37
  have C49 := Lib.hid (E38.out.gr hbw44)
  clear E38
  have C50 := Lib.hid (E39.out.gr hbw44)
  clear E39
  have C51 := Lib.hid (E40.out.gr hbw44)
  clear E40
  have C52 := Lib.hid (D42.out.gr hbw44)
  clear D42
  have C53 := Lib.hid (D43.out.gr hbw44)
  clear D43
  have hbel54 := hbel41.trans (Below.mono hbw44 hbel41.size)
  clear hbel41
  clear hbw44
  go_wp2_with (first | (refine stB rfl 103 (.tmp 4) (.tmp 61) rfl (w.heap.size + 1 + 1) rfl (tv ux uy uz) rfl 103 (natsV .u64 (zeros 12)) C47.out (i103 L_ux.out L_uy.out L_uz.out) (lenEq (show (natsV .u64 (zeros 12)).length = 12 from rfl) (tv_len L_ux.out L_uy.out L_uz.out)) (tv_one _ _ _) ?_))
  refine bodyPost_ret (v := .agg (tv ux uy uz).toArray) ?_ rfl ⟨rfl, below_setRow' hbel54 (by first | exact Nat.le_refl _ | omega) _⟩
  exact results_cell_row Try.results82 _ _ (w.heap.size + 1 + 1) 103 _ (0, 0) _ rfl (C47.out.setRow _) Try.underlying103 rfl (by simpa using (i103 L_ux.out L_uy.out L_uz.out))
end Go.Proofs.Ytfffmoolkgheaaa
