/- Parts of proofs of statements, each text behind those that it stands on. No condition of its own. -/
import Derived.Test.YtfffmoolkgheaaaY30
import Derived.Test.YtfffmoolkgheaaaY31
import Derived.Test.YtfffmoolkgheaaaY32
import Derived.Test.YtfffmoolkgheaaaY33
import Derived.Test.YtfffmoolkgheaaaY34
namespace Go.Proofs.Ytfffmoolkgheaaa
open Go.RowKit
set_option linter.unusedVariables false
set_option linter.unusedSimpArgs false
set_option maxRecDepth 100000 in
set_option maxHeartbeats 1600000 in
theorem tof_inf 
    (c1 : ∀ w, Calls Try.prog 67 #[] w fun e w' => e = .returned (.agg (pv (zeros 4) (zeros 4) true).toArray) ∧ Below w.heap.size w w') (w : World) :
    Calls Try.prog 81 #[.agg (pv (zeros 4) (zeros 4) true).toArray] w fun e w' => e = .returned (.agg (tv (zeros 4) (zeros 4) (zeros 4)).toArray) ∧ Below w.heap.size w w' := by
  have Hc1 := Lib.hid c1
  clear c1
  have QE := Lib.hid (fun w => (eql43 (zeros 4) (zeros 4) (zeros 4) (zeros 4) true true rfl rfl rfl rfl w).trans (by rw [decide_eq_true ⟨rfl, rfl, rfl⟩]))
  have B0_ := Lib.hid ((Blk.new w  43 (pv (zeros 4) (zeros 4) true)).alloc (.cells (natsV .u64 (zeros 12)).toArray 103))
  have B1_ := Lib.hid (Blk.new2 w (.cells (pv (zeros 4) (zeros 4) true).toArray 43) 103 (natsV .u64 (zeros 12)))
  have bel_ := (((Below.refl w.heap.size w).alloc (Nat.le_refl _) (.cells (pv (zeros 4) (zeros 4) true).toArray 43)).alloc (by simp) (.cells (natsV .u64 (zeros 12)).toArray 103))
  go_enter Try.func81, Try.ntmps81
  go_wp2_with fail
  as_aux_lemma =>
  refine wp_region_G (fun w_ => Blk w_ w.heap.size 43 (pv (zeros 4) (zeros 4) true)) 3 (by kernel_rfl) B0_.out.drew ?_
  refine wpAnyG_take (fun _ _ hS_ hb_ => hS_.gr hb_) (i := 0) rfl (by kernel_rfl) (fun _ _ _ h => h) (loadG (by rfl) _ _ rfl _ _ rfl (pv (zeros 4) (zeros 4) true) _ (fun _ hS_ => blk_all (hS_)) Try.underlying43 rfl (i43 rfl rfl)) ?_
  try simp only [Act.put, zq1, zq2, zq3, zq4, zq5, zq6]
  refine wpAnyG_take (fun _ _ hS_ hb_ => hS_.gr hb_) (i := 1) rfl (by kernel_rfl) (fun _ _ _ h => h) (callG (by rfl) rfl Try.func67 (by kernel_rfl) (by kernel_rfl) (#[]) (by simp [Act.eval]) (fun w _ => Hc1.out w)) ?_
  try simp only [Act.put, zq1, zq2, zq3, zq4, zq5, zq6]
  refine wpAnyG_take (fun _ _ hS_ hb_ => hS_.gr hb_) (i := 2) rfl (by kernel_rfl) (fun _ _ _ h => h) (pureG (by rfl) (by intro w; have q := QE.out; go_simp; first | done | with_reducible rfl)) ?_
  try simp only [Act.put, zq1, zq2, zq3, zq4, zq5, zq6]
  refine wpAnyG_done (by kernel_rfl) ?_ _
  intro w1 hgw1
  try simp only [Act.put, zq1, zq2, zq3, zq4, zq5, zq6]
  have E2 := Lib.hid (B0_.out.drew.gr hgw1)
  clear B0_
  have E3 := Lib.hid (B1_.out.drew.gr hgw1)
  clear B1_
  have hbel4 := bel_.drew.trans (Below.mono hgw1 bel_.drew.size)
  clear bel_
  clear hgw1
  as_aux_lemma =>
  go_wp2_with (first | (refine stB rfl 103 (.tmp 2) (.tmp 6) rfl (w.heap.size + 1) rfl (tv (zeros 4) (zeros 4) (zeros 4)) rfl 103 (natsV .u64 (zeros 12)) E3.out (i103 (show (zeros 4).length = 4 from rfl) (show (zeros 4).length = 4 from rfl) (show (zeros 4).length = 4 from rfl)) (lenEq (show (natsV .u64 (zeros 12)).length = 12 from rfl) (tv_len (show (zeros 4).length = 4 from rfl) (show (zeros 4).length = 4 from rfl) (show (zeros 4).length = 4 from rfl))) (tv_one _ _ _) ?_))
  refine bodyPost_ret (v := .agg (tv (zeros 4) (zeros 4) (zeros 4)).toArray) ?_ rfl ⟨rfl, below_setRow' hbel4 (by first | exact Nat.le_refl _ | omega) _⟩
  exact results_cell_row Try.results81 _ _ (w.heap.size + 1) 103 _ (0, 0) _ rfl (E3.out.setRow _) Try.underlying103 rfl (by simpa using (i103 (show (zeros 4).length = 4 from rfl) (show (zeros 4).length = 4 from rfl) (show (zeros 4).length = 4 from rfl)))
set_option maxRecDepth 100000 in
set_option maxHeartbeats 1600000 in
theorem tof_aff {lx ly ax ay az : List Nat} (hlx : lx.length = 4) (hly : ly.length = 4) (hax : ax.length = 4) (hay : ay.length = 4) (haz : az.length = 4)
    (c1 : ∀ w, Calls Try.prog 67 #[] w fun e w' => e = .returned (.agg (pv (zeros 4) (zeros 4) true).toArray) ∧ Below w.heap.size w w')
    (c2 : ∀ w, Calls Try.prog 71 #[.agg (natsV .u64 lx).toArray] w fun e w' => e = .returned (.agg (natsV .u64 ax).toArray) ∧ Below w.heap.size w w')
    (c3 : ∀ w, Calls Try.prog 71 #[.agg (natsV .u64 ly).toArray] w fun e w' => e = .returned (.agg (natsV .u64 ay).toArray) ∧ Below w.heap.size w w')
    (c4 : ∀ w, Calls Try.prog 71 #[.agg #[.int .u64 1, .int .u64 0, .int .u64 0, .int .u64 0]] w fun e w' => e = .returned (.agg (natsV .u64 az).toArray) ∧ Below w.heap.size w w') (w : World) :
    Calls Try.prog 81 #[.agg (pv lx ly false).toArray] w fun e w' => e = .returned (.agg (tv ax ay az).toArray) ∧ Below w.heap.size w w' := by
  have L_lx := Lib.hid hlx
  clear hlx
  have L_ly := Lib.hid hly
  clear hly
  have L_ax := Lib.hid hax
  clear hax
  have L_ay := Lib.hid hay
  clear hay
  have L_az := Lib.hid haz
  clear haz
  have Hc1 := Lib.hid c1
  clear c1
  have Hc2 := Lib.hid c2
  clear c2
  have Hc3 := Lib.hid c3
  clear c3
  have Hc4 := Lib.hid c4
  clear c4
  have QE := Lib.hid (fun w => (eql43 lx ly (zeros 4) (zeros 4) false true L_lx.out L_ly.out rfl rfl w).trans (by rw [decide_eq_false (fun h => by cases h.2.2)]))
  have B0_ := Lib.hid ((Blk.new w  43 (pv lx ly false)).alloc (.cells (natsV .u64 (zeros 12)).toArray 103))
  have B1_ := Lib.hid (Blk.new2 w (.cells (pv lx ly false).toArray 43) 103 (natsV .u64 (zeros 12)))
  have bel_ := (((Below.refl w.heap.size w).alloc (Nat.le_refl _) (.cells (pv lx ly false).toArray 43)).alloc (by simp) (.cells (natsV .u64 (zeros 12)).toArray 103))
  go_enter Try.func81, Try.ntmps81
  go_wp2_with fail
  as_aux_lemma =>
  refine wp_region_G (fun w_ => Blk w_ w.heap.size 43 (pv lx ly false)) 3 (by kernel_rfl) B0_.out.drew ?_
  refine wpAnyG_take (fun _ _ hS_ hb_ => hS_.gr hb_) (i := 0) rfl (by kernel_rfl) (fun _ _ _ h => h) (loadG (by rfl) _ _ rfl _ _ rfl (pv lx ly false) _ (fun _ hS_ => blk_all (hS_)) Try.underlying43 rfl (i43 L_lx.out L_ly.out)) ?_
  try simp only [Act.put, zq1, zq2, zq3, zq4, zq5, zq6]
  refine wpAnyG_take (fun _ _ hS_ hb_ => hS_.gr hb_) (i := 1) rfl (by kernel_rfl) (fun _ _ _ h => h) (callG (by rfl) rfl Try.func67 (by kernel_rfl) (by kernel_rfl) (#[]) (by simp [Act.eval]) (fun w _ => Hc1.out w)) ?_
  try simp only [Act.put, zq1, zq2, zq3, zq4, zq5, zq6]
  refine wpAnyG_take (fun _ _ hS_ hb_ => hS_.gr hb_) (i := 2) rfl (by kernel_rfl) (fun _ _ _ h => h) (pureG (by rfl) (by intro w; have q := QE.out; go_simp; first | done | with_reducible rfl)) ?_
  try simp only [Act.put, zq1, zq2, zq3, zq4, zq5, zq6]
  refine wpAnyG_done (by kernel_rfl) ?_ _
  intro w1 hgw1
  try simp only [Act.put, zq1, zq2, zq3, zq4, zq5, zq6]
  have E2 := Lib.hid (B0_.out.drew.gr hgw1)
  clear B0_
  have E3 := Lib.hid (B1_.out.drew.gr hgw1)
  clear B1_
  have hbel4 := bel_.drew.trans (Below.mono hgw1 bel_.drew.size)
  clear bel_
  clear hgw1
  as_aux_lemma =>
  go_wp2_with fail
  as_aux_lemma =>
  refine wp_region_G (fun w_ => Blk w_ w.heap.size 43 (pv lx ly false)) 9 (by kernel_rfl) E2.out.drew ?_
  refine wpAnyG_take (fun _ _ hS_ hb_ => hS_.gr hb_) (i := 0) rfl (by kernel_rfl) (fun _ _ _ h => h) (pureG (by rfl) (by intro w; go_simp; first | done | with_reducible rfl)) ?_
  try simp only [Act.put, zq1, zq2, zq3, zq4, zq5, zq6]
  refine wpAnyG_take (fun _ _ hS_ hb_ => hS_.gr hb_) (i := 1) rfl (by kernel_rfl) (fun _ _ _ h => h) (loadG (by rfl) _ _ rfl _ _ rfl (natsV .u64 lx) _ (fun _ hS_ => pv_x (hS_)) Try.underlying24 rfl (i24 L_lx.out)) ?_
  try simp only [Act.put, zq1, zq2, zq3, zq4, zq5, zq6]
  refine wpAnyG_take (fun _ _ hS_ hb_ => hS_.gr hb_) (i := 2) rfl (by kernel_rfl) (fun _ _ _ h => h) (callG (by rfl) rfl Try.func71 (by kernel_rfl) (by kernel_rfl) (#[.agg (natsV .u64 lx).toArray]) (by simp [Act.eval]) (fun w _ => Hc2.out w)) ?_
  try simp only [Act.put, zq1, zq2, zq3, zq4, zq5, zq6]
  refine wpAnyG_take (fun _ _ hS_ hb_ => hS_.gr hb_) (i := 3) rfl (by kernel_rfl) (fun _ _ _ h => h) (pureG (by rfl) (by intro w; go_simp; first | done | with_reducible rfl)) ?_
  try simp only [Act.put, zq1, zq2, zq3, zq4, zq5, zq6]
  refine wpAnyG_take (fun _ _ hS_ hb_ => hS_.gr hb_) (i := 4) rfl (by kernel_rfl) (fun _ _ _ h => h) (loadG (by rfl) _ _ rfl _ _ rfl (natsV .u64 ly) _ (fun _ hS_ => pv_y (hS_) L_lx.out) Try.underlying24 rfl (i24 L_ly.out)) ?_
  try simp only [Act.put, zq1, zq2, zq3, zq4, zq5, zq6]
  refine wpAnyG_take (fun _ _ hS_ hb_ => hS_.gr hb_) (i := 5) rfl (by kernel_rfl) (fun _ _ _ h => h) (callG (by rfl) rfl Try.func71 (by kernel_rfl) (by kernel_rfl) (#[.agg (natsV .u64 ly).toArray]) (by simp [Act.eval]) (fun w _ => Hc3.out w)) ?_
  try simp only [Act.put, zq1, zq2, zq3, zq4, zq5, zq6]
  refine wpAnyG_take (fun _ _ hS_ hb_ => hS_.gr hb_) (i := 6) rfl (by kernel_rfl) (fun _ _ _ h => h) (pureG (by rfl) (by intro w; go_simp; first | done | with_reducible rfl)) ?_
  try simp only [Act.put, zq1, zq2, zq3, zq4, zq5, zq6]
  refine wpAnyG_take (fun _ _ hS_ hb_ => hS_.gr hb_) (i := 7) rfl (by kernel_rfl) (fun _ _ _ h => h) (callG (by rfl) rfl Try.func71 (by kernel_rfl) (by kernel_rfl) (#[.agg #[.int .u64 1, .int .u64 0, .int .u64 0, .int .u64 0]]) (by simp [Act.eval]) (fun w _ => Hc4.out w)) ?_
  try simp only [Act.put, zq1, zq2, zq3, zq4, zq5, zq6]
  refine wpAnyG_take (fun _ _ hS_ hb_ => hS_.gr hb_) (i := 8) rfl (by kernel_rfl) (fun _ _ _ h => h) (buildG (by rfl) _ _ rfl _ (built103 L_ax.out L_ay.out L_az.out) (by simp [Act.eval])) ?_
  try simp only [Act.put, zq1, zq2, zq3, zq4, zq5, zq6]
  refine wpAnyG_set (i := 9) (by kernel_rfl) (by kernel_rfl) rfl rfl E3.out.drew (lenEq (show (natsV .u64 (zeros 12)).length = 12 from rfl) (tv_len L_ax.out L_ay.out L_az.out)) (StoresG.mk (cs := (tv ax ay az)) (by rfl) 103 _ _ rfl rfl rfl (i103 L_ax.out L_ay.out L_az.out) (tv_one _ _ _)) ?_
  intro w5 hgw5 hn_
  try simp only [Act.put, zq1, zq2, zq3, zq4, zq5, zq6]
  have hbel6 := belStore hbel4.drew hgw5 (show w.heap.size ≤ (w.heap.size + 1) by omega)
  have D7 := Lib.hid hn_
  go_wp2_with fail
  refine bodyPost_ret (v := .agg (tv ax ay az).toArray) ?_ rfl ⟨rfl, hbel6⟩
  exact results_cell_row Try.results81 _ _ (w.heap.size + 1) 103 _ (0, 0) _ rfl D7.out Try.underlying103 rfl (by simpa using (i103 L_ax.out L_ay.out L_az.out))
set_option maxRecDepth 100000 in
set_option maxHeartbeats 1600000 in
theorem pt_inf {lx ly lz : List Nat} (hlx : lx.length = 4) (hly : ly.length = 4) (hlz : lz.length = 4)
    (c1 : ∀ w, Calls Try.prog 116 #[.agg (tv lx ly lz).toArray] w fun e w' => e = .returned (.bool true) ∧ Below w.heap.size w w')
    (c2 : ∀ w, Calls Try.prog 67 #[] w fun e w' => e = .returned (.agg (pv (zeros 4) (zeros 4) true).toArray) ∧ Below w.heap.size w w') (w : World) :
    Calls Try.prog 83 #[.agg (tv lx ly lz).toArray] w fun e w' => e = .returned (.agg (pv (zeros 4) (zeros 4) true).toArray) ∧ Below w.heap.size w w' := by
  have L_lx := Lib.hid hlx
  clear hlx
  have L_ly := Lib.hid hly
  clear hly
  have L_lz := Lib.hid hlz
  clear hlz
  have Hc1 := Lib.hid c1
  clear c1
  have Hc2 := Lib.hid c2
  clear c2
  have B0_ := Lib.hid ((Blk.new w  103 (tv lx ly lz)).alloc (.cells (pv (zeros 4) (zeros 4) false).toArray 43))
  have B1_ := Lib.hid (Blk.new2 w (.cells (tv lx ly lz).toArray 103) 43 (pv (zeros 4) (zeros 4) false))
  have bel_ := (((Below.refl w.heap.size w).alloc (Nat.le_refl _) (.cells (tv lx ly lz).toArray 103)).alloc (by simp) (.cells (pv (zeros 4) (zeros 4) false).toArray 43))
  go_enter Try.func83, Try.ntmps83
  go_wp2_with (first | (refine wpList_load_mid rfl 103 (.tmp 1) rfl w.heap.size 0 rfl (tv lx ly lz) _ (blk_all (B0_.out)) Try.underlying103 rfl (i103 L_lx.out L_ly.out L_lz.out) ?_))
  refine (Hc1.out _).mono ?_
  rintro e w1 ⟨rfl, hbw1⟩
  have C2 := Lib.hid (B0_.out.gr hbw1)
  clear B0_
  have C3 := Lib.hid (B1_.out.gr hbw1)
  clear B1_
  have hbel4 := bel_.trans (Below.mono hbw1 bel_.size)
  clear bel_
  clear hbw1
  go_wp2_with fail
  refine (Hc2.out _).mono ?_
  rintro e w5 ⟨rfl, hbw5⟩
  have C6 := Lib.hid (C2.out.gr hbw5)
  clear C2
  have C7 := Lib.hid (C3.out.gr hbw5)
  clear C3
  have hbel8 := hbel4.trans (Below.mono hbw5 hbel4.size)
  clear hbel4
  clear hbw5
  go_wp2_with (first | (refine stB rfl 43 (.tmp 2) (.tmp 7) rfl (w.heap.size + 1) rfl (pv (zeros 4) (zeros 4) true) rfl 43 (pv (zeros 4) (zeros 4) false) C7.out (i43 rfl rfl) (lenEq (show (pv (zeros 4) (zeros 4) false).length = 9 from rfl) (show (pv (zeros 4) (zeros 4) true).length = 9 from rfl)) (pv_one _ _ _) ?_))
  refine bodyPost_ret (v := .agg (pv (zeros 4) (zeros 4) true).toArray) ?_ rfl ⟨rfl, below_setRow' hbel8 (by first | exact Nat.le_refl _ | omega) _⟩
  exact results_cell_row Try.results83 _ _ (w.heap.size + 1) 43 _ (0, 0) _ rfl (C7.out.setRow _) Try.underlying43 rfl (by simpa using (i43 rfl rfl))
set_option maxRecDepth 100000 in
set_option maxHeartbeats 1600000 in
theorem pt_aff {lx ly lz wi sq x1 nx y1 y2 ny : List Nat} (hlx : lx.length = 4) (hly : ly.length = 4) (hlz : lz.length = 4) (hwi : wi.length = 4) (hsq : sq.length = 4) (hx1 : x1.length = 4) (hnx : nx.length = 4) (hy1 : y1.length = 4) (hy2 : y2.length = 4) (hny : ny.length = 4)
    (c1 : ∀ w, Calls Try.prog 116 #[.agg (tv lx ly lz).toArray] w fun e w' => e = .returned (.bool false) ∧ Below w.heap.size w w')
    (c2 : ∀ w, Calls Try.prog 118 #[.agg (natsV .u64 lz).toArray] w fun e w' => e = .returned (.agg (natsV .u64 wi).toArray) ∧ Below w.heap.size w w')
    (c3 : ∀ w, Calls Try.prog 72 #[.agg (natsV .u64 wi).toArray] w fun e w' => e = .returned (.agg (natsV .u64 sq).toArray) ∧ Below w.heap.size w w')
    (c4 : ∀ w, Calls Try.prog 108 #[.agg (natsV .u64 lx).toArray, .agg (natsV .u64 sq).toArray] w fun e w' => e = .returned (.agg (natsV .u64 x1).toArray) ∧ Below w.heap.size w w')
    (c5 : ∀ w, Calls Try.prog 114 #[.agg (natsV .u64 x1).toArray] w fun e w' => e = .returned (.agg (natsV .u64 nx).toArray) ∧ Below w.heap.size w w')
    (c6 : ∀ w, Calls Try.prog 108 #[.agg (natsV .u64 ly).toArray, .agg (natsV .u64 sq).toArray] w fun e w' => e = .returned (.agg (natsV .u64 y1).toArray) ∧ Below w.heap.size w w')
    (c7 : ∀ w, Calls Try.prog 108 #[.agg (natsV .u64 y1).toArray, .agg (natsV .u64 wi).toArray] w fun e w' => e = .returned (.agg (natsV .u64 y2).toArray) ∧ Below w.heap.size w w')
    (c8 : ∀ w, Calls Try.prog 114 #[.agg (natsV .u64 y2).toArray] w fun e w' => e = .returned (.agg (natsV .u64 ny).toArray) ∧ Below w.heap.size w w') (w : World) :
    Calls Try.prog 83 #[.agg (tv lx ly lz).toArray] w fun e w' => e = .returned (.agg (pv nx ny false).toArray) ∧ Below w.heap.size w w' := by
  have L_lx := Lib.hid hlx
  clear hlx
  have L_ly := Lib.hid hly
  clear hly
  have L_lz := Lib.hid hlz
  clear hlz
  have L_wi := Lib.hid hwi
  clear hwi
  have L_sq := Lib.hid hsq
  clear hsq
  have L_x1 := Lib.hid hx1
  clear hx1
  have L_nx := Lib.hid hnx
  clear hnx
  have L_y1 := Lib.hid hy1
  clear hy1
  have L_y2 := Lib.hid hy2
  clear hy2
  have L_ny := Lib.hid hny
  clear hny
  have Hc1 := Lib.hid c1
  clear c1
  have Hc2 := Lib.hid c2
  clear c2
  have Hc3 := Lib.hid c3
  clear c3
  have Hc4 := Lib.hid c4
  clear c4
  have Hc5 := Lib.hid c5
  clear c5
  have Hc6 := Lib.hid c6
  clear c6
  have Hc7 := Lib.hid c7
  clear c7
  have Hc8 := Lib.hid c8
  clear c8
  have B0_ := Lib.hid ((Blk.new w  103 (tv lx ly lz)).alloc (.cells (pv (zeros 4) (zeros 4) false).toArray 43))
  have B1_ := Lib.hid (Blk.new2 w (.cells (tv lx ly lz).toArray 103) 43 (pv (zeros 4) (zeros 4) false))
  have bel_ := (((Below.refl w.heap.size w).alloc (Nat.le_refl _) (.cells (tv lx ly lz).toArray 103)).alloc (by simp) (.cells (pv (zeros 4) (zeros 4) false).toArray 43))
  go_enter Try.func83, Try.ntmps83
  go_wp2_with (first | (refine wpList_load_mid rfl 103 (.tmp 1) rfl w.heap.size 0 rfl (tv lx ly lz) _ (blk_all (B0_.out)) Try.underlying103 rfl (i103 L_lx.out L_ly.out L_lz.out) ?_))
  refine (Hc1.out _).mono ?_
  rintro e w1 ⟨rfl, hbw1⟩
  have C2 := Lib.hid (B0_.out.gr hbw1)
  clear B0_
  have C3 := Lib.hid (B1_.out.gr hbw1)
  clear B1_
  have hbel4 := bel_.trans (Below.mono hbw1 bel_.size)
  clear bel_
  clear hbw1
  go_wp2_with (first | (refine wpList_load_mid rfl 94 (.tmp 8) rfl w.heap.size 8 rfl (natsV .u64 lz) _ (tv_z (C2.out) L_lx.out L_ly.out) Try.underlying94 rfl (i94 L_lz.out) ?_))
  refine (Hc2.out _).mono ?_
  rintro e w5 ⟨rfl, hbw5⟩
  have C6 := Lib.hid (C2.out.gr hbw5)
  clear C2
  have C7 := Lib.hid (C3.out.gr hbw5)
  clear C3
  have hbel8 := hbel4.trans (Below.mono hbw5 hbel4.size)
  clear hbel4
  clear hbw5
  go_wp2_with (first | (refine stB rfl 94 (.tmp 3) (.tmp 10) rfl w5.heap.size rfl (natsV .u64 wi) rfl 94 (natsV .u64 (zeros 4)) (Blk.new w5 94 (natsV .u64 (zeros 4))) (i94 L_wi.out) (lenEq (show (natsV .u64 (zeros 4)).length = 4 from rfl) (by rw [natsV_length, L_wi.out])) (natsV_one _ _) ?_; generalize hW : World.setRow _ _ _ = w9; obtain ⟨hgw9, hnw9⟩ := newfacts hW; clear hW; have C12 := Lib.hid (C6.out.gr hgw9); clear C6; have C13 := Lib.hid (C7.out.gr hgw9); clear C7; have hbel14 := hbel8.trans (Below.mono hgw9 hbel8.size); clear hbel8; have D11 := Lib.hid hnw9; have szw9 := hgw9.size; clear hnw9 hgw9 szw9; generalize w5.heap.size = G10 at *) | (refine wpList_load_mid rfl 94 (.tmp 3) rfl G10 0 rfl (natsV .u64 wi) _ (blk_all (D11.out)) Try.underlying94 rfl (i94 L_wi.out) ?_))
  refine (Hc3.out _).mono ?_
  rintro e w15 ⟨rfl, hbw15⟩
  have C16 := Lib.hid (C12.out.gr hbw15)
  clear C12
  have C17 := Lib.hid (C13.out.gr hbw15)
  clear C13
  have C18 := Lib.hid (D11.out.gr hbw15)
  clear D11
  have hbel19 := hbel14.trans (Below.mono hbw15 hbel14.size)
  clear hbel14
  clear hbw15
  go_wp2_with (first | (refine stB rfl 94 (.tmp 4) (.tmp 12) rfl w15.heap.size rfl (natsV .u64 sq) rfl 94 (natsV .u64 (zeros 4)) (Blk.new w15 94 (natsV .u64 (zeros 4))) (i94 L_sq.out) (lenEq (show (natsV .u64 (zeros 4)).length = 4 from rfl) (by rw [natsV_length, L_sq.out])) (natsV_one _ _) ?_; generalize hW : World.setRow _ _ _ = w20; obtain ⟨hgw20, hnw20⟩ := newfacts hW; clear hW; have C23 := Lib.hid (C16.out.gr hgw20); clear C16; have C24 := Lib.hid (C17.out.gr hgw20); clear C17; have C25 := Lib.hid (C18.out.gr hgw20); clear C18; have hbel26 := hbel19.trans (Below.mono hgw20 hbel19.size); clear hbel19; have D22 := Lib.hid hnw20; have szw20 := hgw20.size; clear hnw20 hgw20 szw20; generalize w15.heap.size = G21 at *))
  as_aux_lemma =>
  refine wp_region_G (fun w_ => Blk w_ w.heap.size 103 (tv lx ly lz) ∧ Blk w_ G21 94 (natsV .u64 sq) ∧ Blk w_ G10 94 (natsV .u64 wi)) 13 (by kernel_rfl) ⟨C23.out.drew, D22.out.drew, C25.out.drew⟩ ?_
  refine wpAnyG_take (fun _ _ hS_ hb_ => ⟨hS_.1.gr hb_, hS_.2.1.gr hb_, hS_.2.2.gr hb_⟩) (i := 0) rfl (by kernel_rfl) (fun _ _ _ h => h) (pureG (by rfl) (by intro w; go_simp; first | done | with_reducible rfl)) ?_
  try simp only [Act.put, zq1, zq2, zq3, zq4, zq5, zq6]
  refine wpAnyG_take (fun _ _ hS_ hb_ => ⟨hS_.1.gr hb_, hS_.2.1.gr hb_, hS_.2.2.gr hb_⟩) (i := 1) rfl (by kernel_rfl) (fun _ _ _ h => h) (loadG (by rfl) _ _ rfl _ _ rfl (natsV .u64 lx) _ (fun _ hS_ => tv_x (hS_.1)) Try.underlying94 rfl (i94 L_lx.out)) ?_
  try simp only [Act.put, zq1, zq2, zq3, zq4, zq5, zq6]
  refine wpAnyG_take (fun _ _ hS_ hb_ => ⟨hS_.1.gr hb_, hS_.2.1.gr hb_, hS_.2.2.gr hb_⟩) (i := 2) rfl (by kernel_rfl) (fun _ _ _ h => h) (loadG (by rfl) _ _ rfl _ _ rfl (natsV .u64 sq) _ (fun _ hS_ => blk_all (hS_.2.1)) Try.underlying94 rfl (i94 L_sq.out)) ?_
  try simp only [Act.put, zq1, zq2, zq3, zq4, zq5, zq6]
  refine wpAnyG_take (fun _ _ hS_ hb_ => ⟨hS_.1.gr hb_, hS_.2.1.gr hb_, hS_.2.2.gr hb_⟩) (i := 3) rfl (by kernel_rfl) (fun _ _ _ h => h) (callG (by rfl) rfl Try.func108 (by kernel_rfl) (by kernel_rfl) (#[.agg (natsV .u64 lx).toArray, .agg (natsV .u64 sq).toArray]) (by simp [Act.eval]) (fun w _ => Hc4.out w)) ?_
  try simp only [Act.put, zq1, zq2, zq3, zq4, zq5, zq6]
  refine wpAnyG_take (fun _ _ hS_ hb_ => ⟨hS_.1.gr hb_, hS_.2.1.gr hb_, hS_.2.2.gr hb_⟩) (i := 4) rfl (by kernel_rfl) (fun _ _ _ h => h) (callG (by rfl) rfl Try.func114 (by kernel_rfl) (by kernel_rfl) (#[.agg (natsV .u64 x1).toArray]) (by simp [Act.eval]) (fun w _ => Hc5.out w)) ?_
  try simp only [Act.put, zq1, zq2, zq3, zq4, zq5, zq6]
  refine wpAnyG_take (fun _ _ hS_ hb_ => ⟨hS_.1.gr hb_, hS_.2.1.gr hb_, hS_.2.2.gr hb_⟩) (i := 5) rfl (by kernel_rfl) (fun _ _ _ h => h) (pureG (by rfl) (by intro w; go_simp; first | done | with_reducible rfl)) ?_
  try simp only [Act.put, zq1, zq2, zq3, zq4, zq5, zq6]
  refine wpAnyG_take (fun _ _ hS_ hb_ => ⟨hS_.1.gr hb_, hS_.2.1.gr hb_, hS_.2.2.gr hb_⟩) (i := 6) rfl (by kernel_rfl) (fun _ _ _ h => h) (loadG (by rfl) _ _ rfl _ _ rfl (natsV .u64 ly) _ (fun _ hS_ => tv_y (hS_.1) L_lx.out) Try.underlying94 rfl (i94 L_ly.out)) ?_
  try simp only [Act.put, zq1, zq2, zq3, zq4, zq5, zq6]
  refine wpAnyG_take (fun _ _ hS_ hb_ => ⟨hS_.1.gr hb_, hS_.2.1.gr hb_, hS_.2.2.gr hb_⟩) (i := 7) rfl (by kernel_rfl) (fun _ _ _ h => h) (loadG (by rfl) _ _ rfl _ _ rfl (natsV .u64 sq) _ (fun _ hS_ => blk_all (hS_.2.1)) Try.underlying94 rfl (i94 L_sq.out)) ?_
  try simp only [Act.put, zq1, zq2, zq3, zq4, zq5, zq6]
  refine wpAnyG_take (fun _ _ hS_ hb_ => ⟨hS_.1.gr hb_, hS_.2.1.gr hb_, hS_.2.2.gr hb_⟩) (i := 8) rfl (by kernel_rfl) (fun _ _ _ h => h) (callG (by rfl) rfl Try.func108 (by kernel_rfl) (by kernel_rfl) (#[.agg (natsV .u64 ly).toArray, .agg (natsV .u64 sq).toArray]) (by simp [Act.eval]) (fun w _ => Hc6.out w)) ?_
  try simp only [Act.put, zq1, zq2, zq3, zq4, zq5, zq6]
  refine wpAnyG_take (fun _ _ hS_ hb_ => ⟨hS_.1.gr hb_, hS_.2.1.gr hb_, hS_.2.2.gr hb_⟩) (i := 9) rfl (by kernel_rfl) (fun _ _ _ h => h) (loadG (by rfl) _ _ rfl _ _ rfl (natsV .u64 wi) _ (fun _ hS_ => blk_all (hS_.2.2)) Try.underlying94 rfl (i94 L_wi.out)) ?_
  try simp only [Act.put, zq1, zq2, zq3, zq4, zq5, zq6]
  refine wpAnyG_take (fun _ _ hS_ hb_ => ⟨hS_.1.gr hb_, hS_.2.1.gr hb_, hS_.2.2.gr hb_⟩) (i := 10) rfl (by kernel_rfl) (fun _ _ _ h => h) (callG (by rfl) rfl Try.func108 (by kernel_rfl) (by kernel_rfl) (#[.agg (natsV .u64 y1).toArray, .agg (natsV .u64 wi).toArray]) (by simp [Act.eval]) (fun w _ => Hc7.out w)) ?_
  try simp only [Act.put, zq1, zq2, zq3, zq4, zq5, zq6]
  refine wpAnyG_take (fun _ _ hS_ hb_ => ⟨hS_.1.gr hb_, hS_.2.1.gr hb_, hS_.2.2.gr hb_⟩) (i := 11) rfl (by kernel_rfl) (fun _ _ _ h => h) (callG (by rfl) rfl Try.func114 (by kernel_rfl) (by kernel_rfl) (#[.agg (natsV .u64 y2).toArray]) (by simp [Act.eval]) (fun w _ => Hc8.out w)) ?_
  try simp only [Act.put, zq1, zq2, zq3, zq4, zq5, zq6]
  refine wpAnyG_take (fun _ _ hS_ hb_ => ⟨hS_.1.gr hb_, hS_.2.1.gr hb_, hS_.2.2.gr hb_⟩) (i := 12) rfl (by kernel_rfl) (fun _ _ _ h => h) (buildG (by rfl) _ _ rfl _ (built43 L_nx.out L_ny.out) (by simp [Act.eval])) ?_
  try simp only [Act.put, zq1, zq2, zq3, zq4, zq5, zq6]
  refine wpAnyG_set (i := 13) (by kernel_rfl) (by kernel_rfl) rfl rfl C24.out.drew (lenEq (show (pv (zeros 4) (zeros 4) false).length = 9 from rfl) (pv_len L_nx.out L_ny.out)) (StoresG.mk (cs := (pv nx ny false)) (by rfl) 43 _ _ rfl rfl rfl (i43 L_nx.out L_ny.out) (pv_one _ _ _)) ?_
  intro w27 hgw27 hn_
  try simp only [Act.put, zq1, zq2, zq3, zq4, zq5, zq6]
  have hbel28 := belStore hbel26.drew hgw27 (show w.heap.size ≤ (w.heap.size + 1) by omega)
  have D29 := Lib.hid hn_
  go_wp2_with fail
  refine bodyPost_ret (v := .agg (pv nx ny false).toArray) ?_ rfl ⟨rfl, hbel28⟩
  exact results_cell_row Try.results83 _ _ (w.heap.size + 1) 43 _ (0, 0) _ rfl D29.out Try.underlying43 rfl (by simpa using (i43 L_nx.out L_ny.out))
set_option maxRecDepth 100000 in
set_option maxHeartbeats 1600000 in
theorem on_inf {lx ly : List Nat} (hlx : lx.length = 4) (hly : ly.length = 4)
    (c1 : ∀ w, Calls Try.prog 67 #[] w fun e w' => e = .returned (.agg (pv (zeros 4) (zeros 4) true).toArray) ∧ Below w.heap.size w w') (w : World) :
    Calls Try.prog 29 #[.agg (pv lx ly true).toArray] w fun e w' => e = .returned (.bool (decide (lx = zeros 4 ∧ ly = zeros 4))) ∧ Below w.heap.size w w' := by
  have L_lx := Lib.hid hlx
  clear hlx
  have L_ly := Lib.hid hly
  clear hly
  have Hc1 := Lib.hid c1
  clear c1
  obtain ⟨bb, hbb⟩ : ∃ bb, bb = decide (lx = zeros 4 ∧ ly = zeros 4) := ⟨_, rfl⟩
  have QE := Lib.hid (fun w => (eql43 lx ly (zeros 4) (zeros 4) true true L_lx.out L_ly.out rfl rfl w).trans (by rw [show decide (lx = zeros 4 ∧ ly = zeros 4 ∧ true = true) = bb by rw [hbb]; simp]))
  rw [← hbb]
  clear hbb
  have B0_ := Lib.hid (Blk.new w  43 (pv lx ly true))
  have bel_ := ((Below.refl w.heap.size w).alloc (Nat.le_refl _) (.cells (pv lx ly true).toArray 43))
  go_enter Try.func29, Try.ntmps29
  have ci := pv_i B0_.out L_lx.out L_ly.out
  go_wp2_with fail
  as_aux_lemma =>
  refine wp_region_G (fun w_ => Blk w_ w.heap.size 43 (pv lx ly true)) 4 (by kernel_rfl) B0_.out.drew ?_
  refine wpAnyG_take (fun _ _ hS_ hb_ => hS_.gr hb_) (i := 0) rfl (by kernel_rfl) (fun _ _ _ h => h) (loadG (by rfl) _ _ rfl _ _ rfl (pv lx ly true) _ (fun _ hS_ => blk_all (hS_)) Try.underlying43 rfl (i43 L_lx.out L_ly.out)) ?_
  try simp only [Act.put, zq1, zq2, zq3, zq4, zq5, zq6]
  refine wpAnyG_take (fun _ _ hS_ hb_ => hS_.gr hb_) (i := 1) rfl (by kernel_rfl) (fun _ _ _ h => h) (callG (by rfl) rfl Try.func67 (by kernel_rfl) (by kernel_rfl) (#[]) (by simp [Act.eval]) (fun w _ => Hc1.out w)) ?_
  try simp only [Act.put, zq1, zq2, zq3, zq4, zq5, zq6]
  refine wpAnyG_take (fun _ _ hS_ hb_ => hS_.gr hb_) (i := 2) rfl (by kernel_rfl) (fun _ _ _ h => h) (pureG (by rfl) (by intro w; have q := QE.out; go_simp; first | done | with_reducible rfl)) ?_
  try simp only [Act.put, zq1, zq2, zq3, zq4, zq5, zq6]
  refine wpAnyG_take (fun _ _ hS_ hb_ => hS_.gr hb_) (i := 3) rfl (by kernel_rfl) (fun _ _ _ h => h) (pureG (by rfl) (by intro w; go_simp; first | done | with_reducible rfl)) ?_
  try simp only [Act.put, zq1, zq2, zq3, zq4, zq5, zq6]
  refine wpAnyG_done (by kernel_rfl) ?_ _
  intro w1 hgw1
  try simp only [Act.put, zq1, zq2, zq3, zq4, zq5, zq6]
  have E2 := Lib.hid (B0_.out.drew.gr hgw1)
  clear B0_
  have hbel3 := bel_.drew.trans (Below.mono hgw1 bel_.drew.size)
  clear bel_
  clear hgw1
  as_aux_lemma =>
  go_wp2_with fail
  go_ret
  exact ⟨rfl, hbel3⟩
set_option maxRecDepth 100000 in
set_option maxHeartbeats 1600000 in
theorem on_a {lx ly : List Nat} (hlx : lx.length = 4) (hly : ly.length = 4)
    (c1 : ∀ w, Calls Try.prog 70 #[.agg (natsV .u64 lx).toArray] w fun e w' => e = .returned (.bool false) ∧ Below w.heap.size w w') (w : World) :
    Calls Try.prog 29 #[.agg (pv lx ly false).toArray] w fun e w' => e = .returned (.bool false) ∧ Below w.heap.size w w' := by
  have L_lx := Lib.hid hlx
  clear hlx
  have L_ly := Lib.hid hly
  clear hly
  have Hc1 := Lib.hid c1
  clear c1
  have B0_ := Lib.hid (Blk.new w  43 (pv lx ly false))
  have bel_ := ((Below.refl w.heap.size w).alloc (Nat.le_refl _) (.cells (pv lx ly false).toArray 43))
  go_enter Try.func29, Try.ntmps29
  have ci := pv_i B0_.out L_lx.out L_ly.out
  go_wp2_with (first | (refine wpList_load_mid rfl 24 (.tmp 8) rfl w.heap.size 0 rfl (natsV .u64 lx) _ (pv_x (B0_.out)) Try.underlying24 rfl (i24 L_lx.out) ?_))
  refine (Hc1.out _).mono ?_
  rintro e w1 ⟨rfl, hbw1⟩
  have C2 := Lib.hid (B0_.out.gr hbw1)
  clear B0_
  have hbel3 := bel_.trans (Below.mono hbw1 bel_.size)
  clear bel_
  clear hbw1
  go_wp2_with fail
  go_ret
  exact ⟨rfl, hbel3⟩
set_option maxRecDepth 100000 in
set_option maxHeartbeats 1600000 in
theorem on_b {lx ly : List Nat} (hlx : lx.length = 4) (hly : ly.length = 4)
    (c1 : ∀ w, Calls Try.prog 70 #[.agg (natsV .u64 lx).toArray] w fun e w' => e = .returned (.bool true) ∧ Below w.heap.size w w')
    (c2 : ∀ w, Calls Try.prog 70 #[.agg (natsV .u64 ly).toArray] w fun e w' => e = .returned (.bool false) ∧ Below w.heap.size w w') (w : World) :
    Calls Try.prog 29 #[.agg (pv lx ly false).toArray] w fun e w' => e = .returned (.bool false) ∧ Below w.heap.size w w' := by
  have L_lx := Lib.hid hlx
  clear hlx
  have L_ly := Lib.hid hly
  clear hly
  have Hc1 := Lib.hid c1
  clear c1
  have Hc2 := Lib.hid c2
  clear c2
  have B0_ := Lib.hid (Blk.new w  43 (pv lx ly false))
  have bel_ := ((Below.refl w.heap.size w).alloc (Nat.le_refl _) (.cells (pv lx ly false).toArray 43))
  go_enter Try.func29, Try.ntmps29
  have ci := pv_i B0_.out L_lx.out L_ly.out
  go_wp2_with (first | (refine wpList_load_mid rfl 24 (.tmp 8) rfl w.heap.size 0 rfl (natsV .u64 lx) _ (pv_x (B0_.out)) Try.underlying24 rfl (i24 L_lx.out) ?_))
  refine (Hc1.out _).mono ?_
  rintro e w1 ⟨rfl, hbw1⟩
  have C2 := Lib.hid (B0_.out.gr hbw1)
  clear B0_
  have hbel3 := bel_.trans (Below.mono hbw1 bel_.size)
  clear bel_
  clear hbw1
  go_wp2_with (first | (refine ldwM 24 (.tmp 13) rfl w.heap.size 4 rfl (natsV .u64 ly) _ (pv_y (C2.out) L_lx.out) Try.underlying24 rfl (i24 L_ly.out) 4 false rfl 12 rfl rfl ?_))
  refine (Hc2.out _).mono ?_
  rintro e w4 ⟨rfl, hbw4⟩
  have C5 := Lib.hid (C2.out.gr hbw4)
  clear C2
  have hbel6 := hbel3.trans (Below.mono hbw4 hbel3.size)
  clear hbel3
  clear hbw4
  go_wp2_with fail
  go_ret
  exact ⟨rfl, hbel6⟩
set_option maxRecDepth 100000 in
set_option maxHeartbeats 1600000 in
theorem on_c {lx ly fy sy fx rs : List Nat} (hlx : lx.length = 4) (hly : ly.length = 4) (hfy : fy.length = 4) (hsy : sy.length = 4) (hfx : fx.length = 4) (hrs : rs.length = 4)
    (c1 : ∀ w, Calls Try.prog 70 #[.agg (natsV .u64 lx).toArray] w fun e w' => e = .returned (.bool true) ∧ Below w.heap.size w w')
    (c2 : ∀ w, Calls Try.prog 70 #[.agg (natsV .u64 ly).toArray] w fun e w' => e = .returned (.bool true) ∧ Below w.heap.size w w')
    (c3 : ∀ w, Calls Try.prog 71 #[.agg (natsV .u64 ly).toArray] w fun e w' => e = .returned (.agg (natsV .u64 fy).toArray) ∧ Below w.heap.size w w')
    (c4 : ∀ w, Calls Try.prog 72 #[.agg (natsV .u64 fy).toArray] w fun e w' => e = .returned (.agg (natsV .u64 sy).toArray) ∧ Below w.heap.size w w')
    (c5 : ∀ w, Calls Try.prog 71 #[.agg (natsV .u64 lx).toArray] w fun e w' => e = .returned (.agg (natsV .u64 fx).toArray) ∧ Below w.heap.size w w')
    (c6 : ∀ w, Calls Try.prog 73 #[.agg (natsV .u64 fx).toArray] w fun e w' => e = .returned (.agg (natsV .u64 rs).toArray) ∧ Below w.heap.size w w') (w : World) :
    Calls Try.prog 29 #[.agg (pv lx ly false).toArray] w fun e w' => e = .returned (.bool (decide (sy = rs))) ∧ Below w.heap.size w w' := by
  have L_lx := Lib.hid hlx
  clear hlx
  have L_ly := Lib.hid hly
  clear hly
  have L_fy := Lib.hid hfy
  clear hfy
  have L_sy := Lib.hid hsy
  clear hsy
  have L_fx := Lib.hid hfx
  clear hfx
  have L_rs := Lib.hid hrs
  clear hrs
  have Hc1 := Lib.hid c1
  clear c1
  have Hc2 := Lib.hid c2
  clear c2
  have Hc3 := Lib.hid c3
  clear c3
  have Hc4 := Lib.hid c4
  clear c4
  have Hc5 := Lib.hid c5
  clear c5
  have Hc6 := Lib.hid c6
  clear c6
  have QE := Lib.hid (fun w => eql94 sy rs L_sy.out L_rs.out w)
  have B0_ := Lib.hid (Blk.new w  43 (pv lx ly false))
  have bel_ := ((Below.refl w.heap.size w).alloc (Nat.le_refl _) (.cells (pv lx ly false).toArray 43))
  go_enter Try.func29, Try.ntmps29
  have ci := pv_i B0_.out L_lx.out L_ly.out
  go_wp2_with (first | (refine wpList_load_mid rfl 24 (.tmp 8) rfl w.heap.size 0 rfl (natsV .u64 lx) _ (pv_x (B0_.out)) Try.underlying24 rfl (i24 L_lx.out) ?_))
  refine (Hc1.out _).mono ?_
  rintro e w1 ⟨rfl, hbw1⟩
  have C2 := Lib.hid (B0_.out.gr hbw1)
  clear B0_
  have hbel3 := bel_.trans (Below.mono hbw1 bel_.size)
  clear bel_
  clear hbw1
  go_wp2_with (first | (refine ldwM 24 (.tmp 13) rfl w.heap.size 4 rfl (natsV .u64 ly) _ (pv_y (C2.out) L_lx.out) Try.underlying24 rfl (i24 L_ly.out) 4 false rfl 12 rfl rfl ?_))
  refine (Hc2.out _).mono ?_
  rintro e w4 ⟨rfl, hbw4⟩
  have C5 := Lib.hid (C2.out.gr hbw4)
  clear C2
  have hbel6 := hbel3.trans (Below.mono hbw4 hbel3.size)
  clear hbel3
  clear hbw4
  go_wp2_with fail
  as_aux_lemma =>
  refine wp_region_G (fun w_ => Blk w_ w.heap.size 43 (pv lx ly false)) 10 (by kernel_rfl) C5.out.drew ?_
  refine wpAnyG_take (fun _ _ hS_ hb_ => hS_.gr hb_) (i := 0) rfl (by kernel_rfl) (fun _ _ _ h => h) (pureG (by rfl) (by intro w; go_simp; first | done | with_reducible rfl)) ?_
  try simp only [Act.put, zq1, zq2, zq3, zq4, zq5, zq6]
  refine wpAnyG_take (fun _ _ hS_ hb_ => hS_.gr hb_) (i := 1) rfl (by kernel_rfl) (fun _ _ _ h => h) (loadG (by rfl) _ _ rfl _ _ rfl (natsV .u64 ly) _ (fun _ hS_ => pv_y (hS_) L_lx.out) Try.underlying24 rfl (i24 L_ly.out)) ?_
  try simp only [Act.put, zq1, zq2, zq3, zq4, zq5, zq6]
  refine wpAnyG_take (fun _ _ hS_ hb_ => hS_.gr hb_) (i := 2) rfl (by kernel_rfl) (fun _ _ _ h => h) (callG (by rfl) rfl Try.func71 (by kernel_rfl) (by kernel_rfl) (#[.agg (natsV .u64 ly).toArray]) (by simp [Act.eval]) (fun w _ => Hc3.out w)) ?_
  try simp only [Act.put, zq1, zq2, zq3, zq4, zq5, zq6]
  refine wpAnyG_take (fun _ _ hS_ hb_ => hS_.gr hb_) (i := 3) rfl (by kernel_rfl) (fun _ _ _ h => h) (callG (by rfl) rfl Try.func72 (by kernel_rfl) (by kernel_rfl) (#[.agg (natsV .u64 fy).toArray]) (by simp [Act.eval]) (fun w _ => Hc4.out w)) ?_
  try simp only [Act.put, zq1, zq2, zq3, zq4, zq5, zq6]
  refine wpAnyG_take (fun _ _ hS_ hb_ => hS_.gr hb_) (i := 4) rfl (by kernel_rfl) (fun _ _ _ h => h) (pureG (by rfl) (by intro w; go_simp; first | done | with_reducible rfl)) ?_
  try simp only [Act.put, zq1, zq2, zq3, zq4, zq5, zq6]
  refine wpAnyG_take (fun _ _ hS_ hb_ => hS_.gr hb_) (i := 5) rfl (by kernel_rfl) (fun _ _ _ h => h) (loadG (by rfl) _ _ rfl _ _ rfl (natsV .u64 lx) _ (fun _ hS_ => pv_x (hS_)) Try.underlying24 rfl (i24 L_lx.out)) ?_
  try simp only [Act.put, zq1, zq2, zq3, zq4, zq5, zq6]
  refine wpAnyG_take (fun _ _ hS_ hb_ => hS_.gr hb_) (i := 6) rfl (by kernel_rfl) (fun _ _ _ h => h) (callG (by rfl) rfl Try.func71 (by kernel_rfl) (by kernel_rfl) (#[.agg (natsV .u64 lx).toArray]) (by simp [Act.eval]) (fun w _ => Hc5.out w)) ?_
  try simp only [Act.put, zq1, zq2, zq3, zq4, zq5, zq6]
  refine wpAnyG_take (fun _ _ hS_ hb_ => hS_.gr hb_) (i := 7) rfl (by kernel_rfl) (fun _ _ _ h => h) (callG (by rfl) rfl Try.func73 (by kernel_rfl) (by kernel_rfl) (#[.agg (natsV .u64 fx).toArray]) (by simp [Act.eval]) (fun w _ => Hc6.out w)) ?_
  try simp only [Act.put, zq1, zq2, zq3, zq4, zq5, zq6]
  refine wpAnyG_take (fun _ _ hS_ hb_ => hS_.gr hb_) (i := 8) rfl (by kernel_rfl) (fun _ _ _ h => h) (pureG (by rfl) (by intro w; have q := QE.out; go_simp; first | done | with_reducible rfl)) ?_
  try simp only [Act.put, zq1, zq2, zq3, zq4, zq5, zq6]
  refine wpAnyG_take (fun _ _ hS_ hb_ => hS_.gr hb_) (i := 9) rfl (by kernel_rfl) (fun _ _ _ h => h) (pureG (by rfl) (by intro w; go_simp; first | done | with_reducible rfl)) ?_
  try simp only [Act.put, zq1, zq2, zq3, zq4, zq5, zq6]
  refine wpAnyG_done (by kernel_rfl) ?_ _
  intro w7 hgw7
  try simp only [Act.put, zq1, zq2, zq3, zq4, zq5, zq6]
  have E8 := Lib.hid (C5.out.drew.gr hgw7)
  clear C5
  have hbel9 := hbel6.drew.trans (Below.mono hgw7 hbel6.drew.size)
  clear hbel6
  clear hgw7
  as_aux_lemma =>
  go_wp2_with fail
  go_ret
  exact ⟨rfl, hbel9⟩
end Go.Proofs.Ytfffmoolkgheaaa
namespace Go.Proofs.Ytfffmoolkgheaaa
open Go.RowKit
set_option linter.unusedVariables false
def tj (s : EC.Tr mP) : Value := .agg (tv (cw s.x) (cw s.y) (cw s.z)).toArray
def ptV : EC.Pt mP → Value
  | .inf => .agg (pv (zeros 4) (zeros 4) true).toArray
  | .aff x y => .agg (pv (nw x) (nw y) false).toArray
def Ans (f : FuncId) (args : Array Value) (v : Value) : Prop := ∀ w : World, Calls Try.prog f args w fun e w' => e = .returned v ∧ Below w.heap.size w w'
theorem k_isinf (s : EC.Tr mP) : Ans 116 #[tj s] (.bool (decide (s.z = 0))) := fun w => by
  have h := isinf (cw_len s.x) (cw_len s.y) (cw_len s.z) w
  rw [show decide (cw s.z = zeros 4) = decide (s.z = 0) from decide_eq_decide.2 cw_0] at h
  exact h
theorem k_isinf_t {s : EC.Tr mP} (h : s.z = 0) : Ans 116 #[tj s] (.bool true) := by have k := k_isinf s; rw [decide_eq_true h] at k; exact k
theorem k_isinf_f {s : EC.Tr mP} (h : s.z ≠ 0) : Ans 116 #[tj s] (.bool false) := by have k := k_isinf s; rw [decide_eq_false h] at k; exact k
theorem k_twice (s : EC.Tr mP) : Ans 117 #[tj s] (tj (EC.twiceF s)) := fun w =>
  twice_w (cw_len _) (cw_len _) (cw_len _) (cw_len _) (cw_len _) (cw_len _) (cw_len _) (cw_len _) (cw_len _) (cw_len _) (cw_len _) (cw_len _) (cw_len _) (cw_len _) (cw_len _) (cw_len _) (cw_len _) (cw_len _) (cw_len _) (cw_len _) (cw_len _) (cw_len _) (cw_len _) (cw_len _)
    (k_sq s.y) (k_sq s.z) (k_add s.x _) (k_sub s.x _) (k_mul _ _) (k_dbl _) (k_add _ _) (k_mul s.x _) (k_dbl _) (k_dbl _) (k_sq _) (k_dbl _) (k_sub _ _) (k_sub _ _) (k_mul _ _) (k_dbl _) (k_sq _) (k_dbl _) (k_sub _ _) (k_mul s.y s.z) (k_dbl _) w
theorem k_plus (s t : EC.Tr mP) : Ans 82 #[tj s, tj t] (tj (EC.plusF s t)) := fun w => by
  unfold EC.plusF
  by_cases h1 : s.z = 0
  · rw [if_pos h1]
    exact plus_a (cw_len _) (cw_len _) (cw_len _) (cw_len _) (cw_len _) (cw_len _) (k_isinf_t h1) w
  · rw [if_neg h1]
    by_cases h2 : t.z = 0
    · rw [if_pos h2]
      exact plus_b (cw_len _) (cw_len _) (cw_len _) (cw_len _) (cw_len _) (cw_len _) (k_isinf_f h1) (k_isinf_t h2) w
    · rw [if_neg h2]
      by_cases hx : s.x * (t.z * t.z) = t.x * (s.z * s.z)
      · by_cases hy : s.y * (t.z * t.z) * t.z = t.y * (s.z * s.z) * s.z
        · rw [if_pos ⟨hx, hy⟩]
          exact plus_c (cw_len _) (cw_len _) (cw_len _) (cw_len _) (cw_len _) (cw_len _) (cw_len _) (cw_len _) (cw_len _) (cw_len _) (cw_len _) (cw_len _) (cw_len _) (cw_len _) (cw_len _)
            (k_isinf_f h1) (k_isinf_f h2) (k_sq s.z) (k_sq t.z) (k_mul s.x _) (fun w => by rw [hx]; exact k_mul t.x _ w) (k_mul s.y _) (k_mul _ t.z) (k_mul t.y _) (fun w => by rw [hy]; exact k_mul _ s.z w) (k_twice s) w
        · rw [if_neg (fun h => hy h.2)]
          exact plus_e (cw_len _) (cw_len _) (cw_len _) (cw_len _) (cw_len _) (cw_len _) (cw_len _) (cw_len _) (cw_len _) (cw_len _) (cw_len _) (cw_len _) (cw_len _) (cw_len _) (cw_len _) (cw_len _) (cw_len _) (cw_len _) (cw_len _) (cw_len _) (cw_len _) (cw_len _) (cw_len _) (cw_len _) (cw_len _) (cw_len _) (cw_len _) (cw_len _)
            (k_isinf_f h1) (k_isinf_f h2) (k_sq s.z) (k_sq t.z) (k_mul s.x _) (fun w => by rw [hx]; exact k_mul t.x _ w) (k_mul s.y _) (k_mul _ t.z) (k_mul t.y _) (k_mul _ s.z)
            (fun w => by have k := k_sub (t.x * (s.z * s.z)) (s.x * (t.z * t.z)) w; rw [show cw (t.x * (s.z * s.z)) = cw (s.x * (t.z * t.z)) from congrArg cw hx.symm] at k; exact k) (k_sub _ _) (k_sq _) (k_mul _ _) (k_mul _ _) (k_sq _) (k_sub _ _) (k_dbl _) (k_sub _ _) (k_sub _ _) (k_mul _ _) (k_mul _ _) (k_sub _ _) (k_mul s.z t.z) (k_mul _ _) (fun h => hy (cw_inj h)) w
      · rw [if_neg (fun h => hx h.1)]
        exact plus_d (cw_len _) (cw_len _) (cw_len _) (cw_len _) (cw_len _) (cw_len _) (cw_len _) (cw_len _) (cw_len _) (cw_len _) (cw_len _) (cw_len _) (cw_len _) (cw_len _) (cw_len _) (cw_len _) (cw_len _) (cw_len _) (cw_len _) (cw_len _) (cw_len _) (cw_len _) (cw_len _) (cw_len _) (cw_len _) (cw_len _) (cw_len _) (cw_len _) (cw_len _)
          (k_isinf_f h1) (k_isinf_f h2) (k_sq s.z) (k_sq t.z) (k_mul s.x _) (k_mul t.x _) (k_mul s.y _) (k_mul _ t.z) (k_mul t.y _) (k_mul _ s.z)
          (k_sub _ _) (k_sub _ _) (k_sq _) (k_mul _ _) (k_mul _ _) (k_sq _) (k_sub _ _) (k_dbl _) (k_sub _ _) (k_sub _ _) (k_mul _ _) (k_mul _ _) (k_sub _ _) (k_mul s.z t.z) (k_mul _ _) (fun h => hx (cw_inj h)) w
def trOf : EC.Pt mP → EC.Tr mP
  | .inf => ⟨0, 0, 0⟩
  | .aff x y => ⟨x, y, 1⟩
theorem trOf_jac (P : EC.Pt mP) : EC.Jac (trOf P) P := by
  cases P with
  | inf => exact (rfl : (0 : FP) = 0)
  | aff x y => exact ⟨by show (1 : FP) ≠ 0; decide, g_1 x, g_2 y⟩
theorem k_tof (P : EC.Pt mP) : Ans 81 #[ptV P] (tj (trOf P)) := fun w => by
  cases P with
  | inf =>
    have h := tof_inf cinf_any w
    have e : tj (trOf .inf) = .agg (tv (zeros 4) (zeros 4) (zeros 4)).toArray := by unfold tj trOf; rw [cw_zero]
    rw [e]; exact h
  | aff x y =>
    have h := tof_aff (nw_len x) (nw_len y) (cw_len (fv x.val)) (cw_len (fv y.val)) (cw_len (fv 1)) cinf_any (k_of x.val (lt256 x)) (k_of y.val (lt256 y)) (fun w => by rw [num_lit1]; exact k_of 1 (by decide) w) w
    rw [fv_of, fv_of] at h
    exact h
theorem k_point {s : EC.Tr mP} {P : EC.Pt mP} (hJ : EC.Jac s P) : Ans 83 #[tj s] (ptV P) := fun w => by
  cases P with
  | inf => exact pt_inf (cw_len _) (cw_len _) (cw_len _) (k_isinf_t hJ) cinf_any w
  | aff X Y =>
    obtain ⟨hz, hx, hy⟩ := hJ
    have hi := inv_fp s.z hz
    rw [← iv_fp s.z hz] at hi
    have e1 : s.x * (EC.iv s.z * EC.iv s.z) = X := by rw [hx]; exact EC.pt1 hi
    have e2 : s.y * (EC.iv s.z * EC.iv s.z) * EC.iv s.z = Y := by rw [hy]; exact EC.pt2 hi
    exact pt_aff (cw_len _) (cw_len _) (cw_len _) (cw_len _) (cw_len _) (cw_len X) (nw_len X) (cw_len _) (cw_len Y) (nw_len Y) (k_isinf_f hz) (k_inv s.z hz) (k_sq _) (fun w => by rw [← e1]; exact k_mul s.x _ w) (k_num X) (k_mul s.y _) (fun w => by rw [← e2]; exact k_mul _ _ w) (k_num Y) w
end Go.Proofs.Ytfffmoolkgheaaa
