/- Parts of proofs of statements, each text behind those that it stands on. No condition of its own. -/
import Derived.Test.YtfffmoolkgheaaaY15
import Derived.Test.YtfffmoolkgheaaaY23
namespace Go.Proofs.Ytfffmoolkgheaaa
open Go.RowKit
set_option linter.unusedVariables false
set_option linter.unusedSimpArgs false
set_option maxRecDepth 100000 in
set_option maxHeartbeats 1600000 in
theorem neg_ok {lx ly lm : List Nat} {ip : Bool} (hlx : lx.length = 4) (hly : ly.length = 4) (hlm : lm.length = 4)
    (c1 : ∀ w, Calls Try.prog 29 #[.agg (pv lx ly ip).toArray] w fun e w' => e = .returned (.bool true) ∧ Below w.heap.size w w')
    (c2 : ∀ w, Calls Try.prog 20 #[.int .i64 1, .agg (natsV .u64 (zeros 4)).toArray, .agg (natsV .u64 ly).toArray] w fun e w' => e = .returned (.tuple #[.agg (natsV .u64 lm).toArray, .int .i64 0]) ∧ Below w.heap.size w w') (w : World) :
    Calls Try.prog 28 #[.agg (pv lx ly ip).toArray] w fun e w' => e = .returned (.tuple #[.agg (pv lx lm ip).toArray, .int .i64 0]) ∧ Below w.heap.size w w' := by
  have L_lx := Lib.hid hlx
  clear hlx
  have L_ly := Lib.hid hly
  clear hly
  have L_lm := Lib.hid hlm
  clear hlm
  have Hc1 := Lib.hid c1
  clear c1
  have Hc2 := Lib.hid c2
  clear c2
  have B0_ := Lib.hid ((Blk.new w  43 (pv lx ly ip)).alloc (.cells (pv (zeros 4) (zeros 4) false).toArray 43))
  have B1_ := Lib.hid (Blk.new2 w (.cells (pv lx ly ip).toArray 43) 43 (pv (zeros 4) (zeros 4) false))
  have bel_ := (((Below.refl w.heap.size w).alloc (Nat.le_refl _) (.cells (pv lx ly ip).toArray 43)).alloc (by simp) (.cells (pv (zeros 4) (zeros 4) false).toArray 43))
  go_enter Try.func28, Try.ntmps28
  go_wp2_with (first | (refine wpList_load_mid rfl 43 (.tmp 1) rfl w.heap.size 0 rfl (pv lx ly ip) _ (blk_all (B0_.out)) Try.underlying43 rfl (i43 L_lx.out L_ly.out) ?_))
  refine (Hc1.out _).mono ?_
  rintro e w1 ⟨rfl, hbw1⟩
  have C2 := Lib.hid (B0_.out.gr hbw1)
  clear B0_
  have C3 := Lib.hid (B1_.out.gr hbw1)
  clear B1_
  have hbel4 := bel_.trans (Below.mono hbw1 bel_.size)
  clear bel_
  clear hbw1
  go_wp2_with (first | (refine wpList_load_mid rfl 24 (.tmp 10) rfl w.heap.size 4 rfl (natsV .u64 ly) _ (pv_y (C2.out) L_lx.out) Try.underlying24 rfl (i24 L_ly.out) ?_))
  refine (Hc2.out _).mono ?_
  rintro e w5 ⟨rfl, hbw5⟩
  have C6 := Lib.hid (C2.out.gr hbw5)
  clear C2
  have C7 := Lib.hid (C3.out.gr hbw5)
  clear C3
  have hbel8 := hbel4.trans (Below.mono hbw5 hbel4.size)
  clear hbel4
  clear hbw5
  go_wp2_with (first | (refine stM rfl 24 (.tmp 15) (.tmp 13) rfl w.heap.size 4 rfl (natsV .u64 lm) rfl 43 (pv lx ly ip) (pv lx lm ip) C6.out (pv_setY L_lx.out L_ly.out L_lm.out) (pv_fitY L_lx.out L_ly.out L_lm.out) (i24 L_lm.out) (natsV_one _ _) ?_; intro w9 hgw9 hnw9; have E10 := Lib.hid (C7.out.grown hgw9 (fun e => (show (w.heap.size + 1) ≠ w.heap.size by omega) (Option.some.inj e))); clear C7; have D11 := Lib.hid hnw9; clear hnw9 C6; have hbel12 := belStore hbel8 hgw9 (show w.heap.size ≤ w.heap.size by omega); clear hgw9; clear hbel8) | (refine wpList_load_mid rfl 43 (.tmp 1) rfl w.heap.size 0 rfl (pv lx lm ip) _ (blk_all (D11.out)) Try.underlying43 rfl (i43 L_lx.out L_lm.out) ?_) | (refine stB rfl 43 (.tmp 2) (.tmp 16) rfl (w.heap.size + 1) rfl (pv lx lm ip) rfl 43 (pv (zeros 4) (zeros 4) false) E10.out (i43 L_lx.out L_lm.out) (lenEq (show (pv (zeros 4) (zeros 4) false).length = 9 from rfl) (pv_len L_lx.out L_lm.out)) (pv_one _ _ _) ?_))
  refine bodyPost_ret (v := .tuple #[.agg (pv lx lm ip).toArray, .int .i64 0]) ?_ rfl ⟨rfl, below_setRow' hbel12 (by first | exact Nat.le_refl _ | omega) _⟩
  exact results_two Try.results28 _ _ (w.heap.size + 1) 43 _ (0, 0) _ _ rfl rfl (E10.out.setRow _) Try.underlying43 rfl (by simpa using (i43 L_lx.out L_lm.out))
set_option maxRecDepth 100000 in
set_option maxHeartbeats 1600000 in
theorem neg_no {lx ly : List Nat} {ip : Bool} (hlx : lx.length = 4) (hly : ly.length = 4)
    (c1 : ∀ w, Calls Try.prog 29 #[.agg (pv lx ly ip).toArray] w fun e w' => e = .returned (.bool false) ∧ Below w.heap.size w w') (w : World) :
    Calls Try.prog 28 #[.agg (pv lx ly ip).toArray] w fun e w' => e = .returned (.tuple #[.agg (pv (zeros 4) (zeros 4) false).toArray, .int .i64 62]) ∧ Below w.heap.size w w' := by
  have L_lx := Lib.hid hlx
  clear hlx
  have L_ly := Lib.hid hly
  clear hly
  have Hc1 := Lib.hid c1
  clear c1
  have B0_ := Lib.hid ((Blk.new w  43 (pv lx ly ip)).alloc (.cells (pv (zeros 4) (zeros 4) false).toArray 43))
  have B1_ := Lib.hid (Blk.new2 w (.cells (pv lx ly ip).toArray 43) 43 (pv (zeros 4) (zeros 4) false))
  have bel_ := (((Below.refl w.heap.size w).alloc (Nat.le_refl _) (.cells (pv lx ly ip).toArray 43)).alloc (by simp) (.cells (pv (zeros 4) (zeros 4) false).toArray 43))
  go_enter Try.func28, Try.ntmps28
  go_wp2_with (first | (refine wpList_load_mid rfl 43 (.tmp 1) rfl w.heap.size 0 rfl (pv lx ly ip) _ (blk_all (B0_.out)) Try.underlying43 rfl (i43 L_lx.out L_ly.out) ?_))
  refine (Hc1.out _).mono ?_
  rintro e w1 ⟨rfl, hbw1⟩
  have C2 := Lib.hid (B0_.out.gr hbw1)
  clear B0_
  have C3 := Lib.hid (B1_.out.gr hbw1)
  clear B1_
  have hbel4 := bel_.trans (Below.mono hbw1 bel_.size)
  clear bel_
  clear hbw1
  go_wp2_with (first | (refine stB rfl 43 (.tmp 2) (.tmp 7) rfl (w.heap.size + 1) rfl (pv (zeros 4) (zeros 4) false) rfl 43 (pv (zeros 4) (zeros 4) false) C3.out (i43 rfl rfl) (lenEq (show (pv (zeros 4) (zeros 4) false).length = 9 from rfl) (show (pv (zeros 4) (zeros 4) false).length = 9 from rfl)) (pv_one _ _ _) ?_))
  refine bodyPost_ret (v := .tuple #[.agg (pv (zeros 4) (zeros 4) false).toArray, .int .i64 62]) ?_ rfl ⟨rfl, below_setRow' hbel4 (by first | exact Nat.le_refl _ | omega) _⟩
  exact results_two Try.results28 _ _ (w.heap.size + 1) 43 _ (0, 0) _ _ rfl rfl (C3.out.setRow _) Try.underlying43 rfl (by simpa using (i43 rfl rfl))
set_option maxRecDepth 100000 in
set_option maxHeartbeats 1600000 in
theorem dneg_inf {lx ly : List Nat} (hlx : lx.length = 4) (hly : ly.length = 4) (w : World) :
    Calls Try.prog 32 #[.agg (pv lx ly true).toArray] w fun e w' => e = .returned (.agg (pv lx ly true).toArray) ∧ Below w.heap.size w w' := by
  have L_lx := Lib.hid hlx
  clear hlx
  have L_ly := Lib.hid hly
  clear hly
  have B0_ := Lib.hid ((Blk.new w  43 (pv lx ly true)).alloc (.cells (pv (zeros 4) (zeros 4) false).toArray 43))
  have B1_ := Lib.hid (Blk.new2 w (.cells (pv lx ly true).toArray 43) 43 (pv (zeros 4) (zeros 4) false))
  have bel_ := (((Below.refl w.heap.size w).alloc (Nat.le_refl _) (.cells (pv lx ly true).toArray 43)).alloc (by simp) (.cells (pv (zeros 4) (zeros 4) false).toArray 43))
  go_enter Try.func32, Try.ntmps32
  have ci : ((w.alloc (.cells (pv lx ly true).toArray 43)).alloc (.cells #[.int .u64 0, .int .u64 0, .int .u64 0, .int .u64 0, .int .u64 0, .int .u64 0, .int .u64 0, .int .u64 0, .bool false] 43)).cell? ⟨w.heap.size, 8, none⟩ = some (.bool true) := pv_i B0_.out L_lx.out L_ly.out
  go_wp2_with (first | (refine wpList_load_mid rfl 43 (.tmp 1) rfl w.heap.size 0 rfl (pv lx ly true) _ (blk_all (B0_.out)) Try.underlying43 rfl (i43 L_lx.out L_ly.out) ?_) | (refine stB rfl 43 (.tmp 2) (.tmp 5) rfl (w.heap.size + 1) rfl (pv lx ly true) rfl 43 (pv (zeros 4) (zeros 4) false) B1_.out (i43 L_lx.out L_ly.out) (lenEq (show (pv (zeros 4) (zeros 4) false).length = 9 from rfl) (pv_len L_lx.out L_ly.out)) (pv_one _ _ _) ?_))
  refine bodyPost_ret (v := .agg (pv lx ly true).toArray) ?_ rfl ⟨rfl, below_setRow' bel_ (by first | exact Nat.le_refl _ | omega) _⟩
  exact results_cell_row Try.results32 _ _ (w.heap.size + 1) 43 _ (0, 0) _ rfl (B1_.out.setRow _) Try.underlying43 rfl (by simpa using (i43 L_lx.out L_ly.out))
set_option maxRecDepth 100000 in
set_option maxHeartbeats 1600000 in
theorem dneg_aff {lx ly lp lm : List Nat} (hlx : lx.length = 4) (hly : ly.length = 4) (hlp : lp.length = 4) (hlm : lm.length = 4)
    (c1 : ∀ w, Calls Try.prog 56 #[] w fun e w' => e = .returned (.agg (natsV .u64 lp).toArray) ∧ Below w.heap.size w w')
    (c2 : ∀ w, Calls Try.prog 74 #[.agg #[.int .u64 0, .int .u64 0, .int .u64 0, .int .u64 0], .agg (natsV .u64 ly).toArray, .agg (natsV .u64 lp).toArray] w fun e w' => e = .returned (.agg (natsV .u64 lm).toArray) ∧ Below w.heap.size w w') (w : World) :
    Calls Try.prog 32 #[.agg (pv lx ly false).toArray] w fun e w' => e = .returned (.agg (pv lx lm false).toArray) ∧ Below w.heap.size w w' := by
  have L_lx := Lib.hid hlx
  clear hlx
  have L_ly := Lib.hid hly
  clear hly
  have L_lp := Lib.hid hlp
  clear hlp
  have L_lm := Lib.hid hlm
  clear hlm
  have Hc1 := Lib.hid c1
  clear c1
  have Hc2 := Lib.hid c2
  clear c2
  have B0_ := Lib.hid ((Blk.new w  43 (pv lx ly false)).alloc (.cells (pv (zeros 4) (zeros 4) false).toArray 43))
  have B1_ := Lib.hid (Blk.new2 w (.cells (pv lx ly false).toArray 43) 43 (pv (zeros 4) (zeros 4) false))
  have bel_ := (((Below.refl w.heap.size w).alloc (Nat.le_refl _) (.cells (pv lx ly false).toArray 43)).alloc (by simp) (.cells (pv (zeros 4) (zeros 4) false).toArray 43))
  go_enter Try.func32, Try.ntmps32
  have ci : ((w.alloc (.cells (pv lx ly false).toArray 43)).alloc (.cells #[.int .u64 0, .int .u64 0, .int .u64 0, .int .u64 0, .int .u64 0, .int .u64 0, .int .u64 0, .int .u64 0, .bool false] 43)).cell? ⟨w.heap.size, 8, none⟩ = some (.bool false) := pv_i B0_.out L_lx.out L_ly.out
  go_wp2_with fail
  as_aux_lemma =>
  refine wp_region_G (fun w_ => Blk w_ w.heap.size 43 (pv lx ly false)) 8 (by kernel_rfl) B0_.out.drew ?_
  refine wpAnyG_take (fun _ _ hS_ hb_ => hS_.gr hb_) (i := 0) rfl (by kernel_rfl) (fun _ _ _ h => h) (pureG (by rfl) (by intro w; go_simp; first | done | with_reducible rfl)) ?_
  try simp only [Act.put, zq1, zq2, zq3, zq4, zq5, zq6]
  refine wpAnyG_take (fun _ _ hS_ hb_ => hS_.gr hb_) (i := 1) rfl (by kernel_rfl) (fun _ _ _ h => h) (loadG (by rfl) _ _ rfl _ _ rfl (natsV .u64 lx) _ (fun _ hS_ => pv_x (hS_)) Try.underlying24 rfl (i24 L_lx.out)) ?_
  try simp only [Act.put, zq1, zq2, zq3, zq4, zq5, zq6]
  refine wpAnyG_take (fun _ _ hS_ hb_ => hS_.gr hb_) (i := 2) rfl (by kernel_rfl) (fun _ _ _ h => h) (pureG (by rfl) (by intro w; go_simp; first | done | with_reducible rfl)) ?_
  try simp only [Act.put, zq1, zq2, zq3, zq4, zq5, zq6]
  refine wpAnyG_take (fun _ _ hS_ hb_ => hS_.gr hb_) (i := 3) rfl (by kernel_rfl) (fun _ _ _ h => h) (pureG (by rfl) (by intro w; go_simp; first | done | with_reducible rfl)) ?_
  try simp only [Act.put, zq1, zq2, zq3, zq4, zq5, zq6]
  refine wpAnyG_take (fun _ _ hS_ hb_ => hS_.gr hb_) (i := 4) rfl (by kernel_rfl) (fun _ _ _ h => h) (loadG (by rfl) _ _ rfl _ _ rfl (natsV .u64 ly) _ (fun _ hS_ => pv_y (hS_) L_lx.out) Try.underlying24 rfl (i24 L_ly.out)) ?_
  try simp only [Act.put, zq1, zq2, zq3, zq4, zq5, zq6]
  refine wpAnyG_take (fun _ _ hS_ hb_ => hS_.gr hb_) (i := 5) rfl (by kernel_rfl) (fun _ _ _ h => h) (callG (by rfl) rfl Try.func56 (by kernel_rfl) (by kernel_rfl) (#[]) (by simp [Act.eval]) (fun w _ => Hc1.out w)) ?_
  try simp only [Act.put, zq1, zq2, zq3, zq4, zq5, zq6]
  refine wpAnyG_take (fun _ _ hS_ hb_ => hS_.gr hb_) (i := 6) rfl (by kernel_rfl) (fun _ _ _ h => h) (callG (by rfl) rfl Try.func74 (by kernel_rfl) (by kernel_rfl) (#[.agg #[.int .u64 0, .int .u64 0, .int .u64 0, .int .u64 0], .agg (natsV .u64 ly).toArray, .agg (natsV .u64 lp).toArray]) (by simp [Act.eval]) (fun w _ => Hc2.out w)) ?_
  try simp only [Act.put, zq1, zq2, zq3, zq4, zq5, zq6]
  refine wpAnyG_take (fun _ _ hS_ hb_ => hS_.gr hb_) (i := 7) rfl (by kernel_rfl) (fun _ _ _ h => h) (buildG (by rfl) _ _ rfl _ (built43 L_lx.out L_lm.out) (by simp [Act.eval])) ?_
  try simp only [Act.put, zq1, zq2, zq3, zq4, zq5, zq6]
  refine wpAnyG_set (i := 8) (by kernel_rfl) (by kernel_rfl) rfl rfl B1_.out.drew (lenEq (show (pv (zeros 4) (zeros 4) false).length = 9 from rfl) (pv_len L_lx.out L_lm.out)) (StoresG.mk (cs := (pv lx lm false)) (by rfl) 43 _ _ rfl rfl rfl (i43 L_lx.out L_lm.out) (pv_one _ _ _)) ?_
  intro w1 hgw1 hn_
  try simp only [Act.put, zq1, zq2, zq3, zq4, zq5, zq6]
  have hbel2 := belStore bel_.drew hgw1 (show w.heap.size ≤ (w.heap.size + 1) by omega)
  have D3 := Lib.hid hn_
  go_wp2_with fail
  refine bodyPost_ret (v := .agg (pv lx lm false).toArray) ?_ rfl ⟨rfl, hbel2⟩
  exact results_cell_row Try.results32 _ _ (w.heap.size + 1) 43 _ (0, 0) _ rfl D3.out Try.underlying43 rfl (by simpa using (i43 L_lx.out L_lm.out))
end Go.Proofs.Ytfffmoolkgheaaa
