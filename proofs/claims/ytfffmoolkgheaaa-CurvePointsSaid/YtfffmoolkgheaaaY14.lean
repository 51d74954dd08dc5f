/- Parts of proofs of statements, each text behind those that it stands on. No condition of its own. -/
import Derived.Test.YtfffmoolkgheaaaY13
namespace Go.Proofs.Ytfffmoolkgheaaa
open Go.RowKit
set_option linter.unusedVariables false
set_option linter.unusedSimpArgs false
set_option maxRecDepth 100000 in
set_option maxHeartbeats 800000 in
theorem wrap_108 {la lb lc : List Nat} (hla : la.length = 4) (hlb : lb.length = 4) (hlc : lc.length = 4) (hc : ∀ w, Calls Try.prog 21 #[.int .i64 1, .agg (natsV .u64 la).toArray, .agg (natsV .u64 lb).toArray] w fun e w' => e = .returned (.tuple #[.agg (natsV .u64 lc).toArray, .int .i64 0]) ∧ Below w.heap.size w w') (w : World) :
    Calls Try.prog 108 #[.agg (natsV .u64 la).toArray, .agg (natsV .u64 lb).toArray] w fun e w' => e = .returned (.agg (natsV .u64 lc).toArray) ∧ Below w.heap.size w w' := by
  have L_la := Lib.hid hla
  clear hla
  have L_lb := Lib.hid hlb
  clear hlb
  have L_lc := Lib.hid hlc
  clear hlc
  have HC := Lib.hid hc
  clear hc
  have B0_ := Lib.hid (((Blk.new w  94 (natsV .u64 la)).alloc (.cells (natsV .u64 lb).toArray 94)).alloc (.cells (natsV .u64 (zeros 4)).toArray 94))
  have B1_ := Lib.hid ((Blk.new2 w (.cells (natsV .u64 la).toArray 94) 94 (natsV .u64 lb)).alloc (.cells (natsV .u64 (zeros 4)).toArray 94))
  have B2_ := Lib.hid (Blk.new3 w (.cells (natsV .u64 la).toArray 94) (.cells (natsV .u64 lb).toArray 94) 94 (natsV .u64 (zeros 4)))
  have bel_ := ((((Below.refl w.heap.size w).alloc (Nat.le_refl _) (.cells (natsV .u64 la).toArray 94)).alloc (by simp) (.cells (natsV .u64 lb).toArray 94)).alloc (by simp; omega) (.cells (natsV .u64 (zeros 4)).toArray 94))
  go_enter Try.func108, Try.ntmps108
  go_wp2_with (first | (refine wpList_load_mid rfl 94 (.tmp 2) rfl w.heap.size 0 rfl (natsV .u64 la) _ (blk_all (B0_.out)) Try.underlying94 rfl (i94 L_la.out) ?_) | (refine wpList_load_mid rfl 94 (.tmp 3) rfl (w.heap.size + 1) 0 rfl (natsV .u64 lb) _ (blk_all (B1_.out)) Try.underlying94 rfl (i94 L_lb.out) ?_))
  refine (HC.out _).mono ?_
  rintro e w1 ⟨rfl, hbw1⟩
  have C2 := Lib.hid (B0_.out.gr hbw1)
  clear B0_
  have C3 := Lib.hid (B1_.out.gr hbw1)
  clear B1_
  have C4 := Lib.hid (B2_.out.gr hbw1)
  clear B2_
  have hbel5 := bel_.trans (Below.mono hbw1 bel_.size)
  clear bel_
  clear hbw1
  go_wp2_with (first | (refine stB rfl 24 (.tmp 5) (.tmp 11) rfl w1.heap.size rfl (natsV .u64 lc) rfl 24 (natsV .u64 (zeros 4)) (Blk.new w1 24 (natsV .u64 (zeros 4))) (i24 L_lc.out) (lenEq (show (natsV .u64 (zeros 4)).length = 4 from rfl) (by rw [natsV_length, L_lc.out])) (natsV_one _ _) ?_; generalize hW : World.setRow _ _ _ = w6; obtain ⟨hgw6, hnw6⟩ := newfacts hW; clear hW; have C8 := Lib.hid (C2.out.gr hgw6); clear C2; have C9 := Lib.hid (C3.out.gr hgw6); clear C3; have C10 := Lib.hid (C4.out.gr hgw6); clear C4; have hbel11 := hbel5.trans (Below.mono hgw6 hbel5.size); clear hbel5; have D12 := Lib.hid hnw6; have szw6 := hgw6.size; clear hnw6 hgw6 szw6; generalize w1.heap.size = G7 at *) | (refine wpList_load_mid rfl 24 (.tmp 5) rfl G7 0 rfl (natsV .u64 lc) _ (blk_all (D12.out)) Try.underlying24 rfl (i24 L_lc.out) ?_) | (refine stB rfl 94 (.tmp 4) (.tmp 13) rfl (w.heap.size + 1 + 1) rfl (natsV .u64 lc) rfl 94 (natsV .u64 (zeros 4)) C10.out (i94 L_lc.out) (lenEq (show (natsV .u64 (zeros 4)).length = 4 from rfl) (by rw [natsV_length, L_lc.out])) (natsV_one _ _) ?_))
  refine bodyPost_ret (v := .agg (natsV .u64 lc).toArray) ?_ rfl ⟨rfl, below_setRow' hbel11 (by first | exact Nat.le_refl _ | omega) _⟩
  exact results_cell_row Try.results108 _ _ (w.heap.size + 1 + 1) 94 _ (0, 0) _ rfl (C10.out.setRow _) Try.underlying94 rfl (by simpa using (i94 L_lc.out))
set_option maxRecDepth 100000 in
set_option maxHeartbeats 800000 in
theorem wrap_110 {la lb lc : List Nat} (hla : la.length = 4) (hlb : lb.length = 4) (hlc : lc.length = 4) (hc : ∀ w, Calls Try.prog 19 #[.int .i64 1, .agg (natsV .u64 la).toArray, .agg (natsV .u64 lb).toArray] w fun e w' => e = .returned (.tuple #[.agg (natsV .u64 lc).toArray, .int .i64 0]) ∧ Below w.heap.size w w') (w : World) :
    Calls Try.prog 110 #[.agg (natsV .u64 la).toArray, .agg (natsV .u64 lb).toArray] w fun e w' => e = .returned (.agg (natsV .u64 lc).toArray) ∧ Below w.heap.size w w' := by
  have L_la := Lib.hid hla
  clear hla
  have L_lb := Lib.hid hlb
  clear hlb
  have L_lc := Lib.hid hlc
  clear hlc
  have HC := Lib.hid hc
  clear hc
  have B0_ := Lib.hid (((Blk.new w  94 (natsV .u64 la)).alloc (.cells (natsV .u64 lb).toArray 94)).alloc (.cells (natsV .u64 (zeros 4)).toArray 94))
  have B1_ := Lib.hid ((Blk.new2 w (.cells (natsV .u64 la).toArray 94) 94 (natsV .u64 lb)).alloc (.cells (natsV .u64 (zeros 4)).toArray 94))
  have B2_ := Lib.hid (Blk.new3 w (.cells (natsV .u64 la).toArray 94) (.cells (natsV .u64 lb).toArray 94) 94 (natsV .u64 (zeros 4)))
  have bel_ := ((((Below.refl w.heap.size w).alloc (Nat.le_refl _) (.cells (natsV .u64 la).toArray 94)).alloc (by simp) (.cells (natsV .u64 lb).toArray 94)).alloc (by simp; omega) (.cells (natsV .u64 (zeros 4)).toArray 94))
  go_enter Try.func110, Try.ntmps110
  go_wp2_with (first | (refine wpList_load_mid rfl 94 (.tmp 2) rfl w.heap.size 0 rfl (natsV .u64 la) _ (blk_all (B0_.out)) Try.underlying94 rfl (i94 L_la.out) ?_) | (refine wpList_load_mid rfl 94 (.tmp 3) rfl (w.heap.size + 1) 0 rfl (natsV .u64 lb) _ (blk_all (B1_.out)) Try.underlying94 rfl (i94 L_lb.out) ?_))
  refine (HC.out _).mono ?_
  rintro e w1 ⟨rfl, hbw1⟩
  have C2 := Lib.hid (B0_.out.gr hbw1)
  clear B0_
  have C3 := Lib.hid (B1_.out.gr hbw1)
  clear B1_
  have C4 := Lib.hid (B2_.out.gr hbw1)
  clear B2_
  have hbel5 := bel_.trans (Below.mono hbw1 bel_.size)
  clear bel_
  clear hbw1
  go_wp2_with (first | (refine stB rfl 24 (.tmp 5) (.tmp 11) rfl w1.heap.size rfl (natsV .u64 lc) rfl 24 (natsV .u64 (zeros 4)) (Blk.new w1 24 (natsV .u64 (zeros 4))) (i24 L_lc.out) (lenEq (show (natsV .u64 (zeros 4)).length = 4 from rfl) (by rw [natsV_length, L_lc.out])) (natsV_one _ _) ?_; generalize hW : World.setRow _ _ _ = w6; obtain ⟨hgw6, hnw6⟩ := newfacts hW; clear hW; have C8 := Lib.hid (C2.out.gr hgw6); clear C2; have C9 := Lib.hid (C3.out.gr hgw6); clear C3; have C10 := Lib.hid (C4.out.gr hgw6); clear C4; have hbel11 := hbel5.trans (Below.mono hgw6 hbel5.size); clear hbel5; have D12 := Lib.hid hnw6; have szw6 := hgw6.size; clear hnw6 hgw6 szw6; generalize w1.heap.size = G7 at *) | (refine wpList_load_mid rfl 24 (.tmp 5) rfl G7 0 rfl (natsV .u64 lc) _ (blk_all (D12.out)) Try.underlying24 rfl (i24 L_lc.out) ?_) | (refine stB rfl 94 (.tmp 4) (.tmp 13) rfl (w.heap.size + 1 + 1) rfl (natsV .u64 lc) rfl 94 (natsV .u64 (zeros 4)) C10.out (i94 L_lc.out) (lenEq (show (natsV .u64 (zeros 4)).length = 4 from rfl) (by rw [natsV_length, L_lc.out])) (natsV_one _ _) ?_))
  refine bodyPost_ret (v := .agg (natsV .u64 lc).toArray) ?_ rfl ⟨rfl, below_setRow' hbel11 (by first | exact Nat.le_refl _ | omega) _⟩
  exact results_cell_row Try.results110 _ _ (w.heap.size + 1 + 1) 94 _ (0, 0) _ rfl (C10.out.setRow _) Try.underlying94 rfl (by simpa using (i94 L_lc.out))
set_option maxRecDepth 100000 in
set_option maxHeartbeats 800000 in
theorem wrap_111 {la lb lc : List Nat} (hla : la.length = 4) (hlb : lb.length = 4) (hlc : lc.length = 4) (hc : ∀ w, Calls Try.prog 20 #[.int .i64 1, .agg (natsV .u64 la).toArray, .agg (natsV .u64 lb).toArray] w fun e w' => e = .returned (.tuple #[.agg (natsV .u64 lc).toArray, .int .i64 0]) ∧ Below w.heap.size w w') (w : World) :
    Calls Try.prog 111 #[.agg (natsV .u64 la).toArray, .agg (natsV .u64 lb).toArray] w fun e w' => e = .returned (.agg (natsV .u64 lc).toArray) ∧ Below w.heap.size w w' := by
  have L_la := Lib.hid hla
  clear hla
  have L_lb := Lib.hid hlb
  clear hlb
  have L_lc := Lib.hid hlc
  clear hlc
  have HC := Lib.hid hc
  clear hc
  have B0_ := Lib.hid (((Blk.new w  94 (natsV .u64 la)).alloc (.cells (natsV .u64 lb).toArray 94)).alloc (.cells (natsV .u64 (zeros 4)).toArray 94))
  have B1_ := Lib.hid ((Blk.new2 w (.cells (natsV .u64 la).toArray 94) 94 (natsV .u64 lb)).alloc (.cells (natsV .u64 (zeros 4)).toArray 94))
  have B2_ := Lib.hid (Blk.new3 w (.cells (natsV .u64 la).toArray 94) (.cells (natsV .u64 lb).toArray 94) 94 (natsV .u64 (zeros 4)))
  have bel_ := ((((Below.refl w.heap.size w).alloc (Nat.le_refl _) (.cells (natsV .u64 la).toArray 94)).alloc (by simp) (.cells (natsV .u64 lb).toArray 94)).alloc (by simp; omega) (.cells (natsV .u64 (zeros 4)).toArray 94))
  go_enter Try.func111, Try.ntmps111
  go_wp2_with (first | (refine wpList_load_mid rfl 94 (.tmp 2) rfl w.heap.size 0 rfl (natsV .u64 la) _ (blk_all (B0_.out)) Try.underlying94 rfl (i94 L_la.out) ?_) | (refine wpList_load_mid rfl 94 (.tmp 3) rfl (w.heap.size + 1) 0 rfl (natsV .u64 lb) _ (blk_all (B1_.out)) Try.underlying94 rfl (i94 L_lb.out) ?_))
  refine (HC.out _).mono ?_
  rintro e w1 ⟨rfl, hbw1⟩
  have C2 := Lib.hid (B0_.out.gr hbw1)
  clear B0_
  have C3 := Lib.hid (B1_.out.gr hbw1)
  clear B1_
  have C4 := Lib.hid (B2_.out.gr hbw1)
  clear B2_
  have hbel5 := bel_.trans (Below.mono hbw1 bel_.size)
  clear bel_
  clear hbw1
  go_wp2_with (first | (refine stB rfl 24 (.tmp 5) (.tmp 11) rfl w1.heap.size rfl (natsV .u64 lc) rfl 24 (natsV .u64 (zeros 4)) (Blk.new w1 24 (natsV .u64 (zeros 4))) (i24 L_lc.out) (lenEq (show (natsV .u64 (zeros 4)).length = 4 from rfl) (by rw [natsV_length, L_lc.out])) (natsV_one _ _) ?_; generalize hW : World.setRow _ _ _ = w6; obtain ⟨hgw6, hnw6⟩ := newfacts hW; clear hW; have C8 := Lib.hid (C2.out.gr hgw6); clear C2; have C9 := Lib.hid (C3.out.gr hgw6); clear C3; have C10 := Lib.hid (C4.out.gr hgw6); clear C4; have hbel11 := hbel5.trans (Below.mono hgw6 hbel5.size); clear hbel5; have D12 := Lib.hid hnw6; have szw6 := hgw6.size; clear hnw6 hgw6 szw6; generalize w1.heap.size = G7 at *) | (refine wpList_load_mid rfl 24 (.tmp 5) rfl G7 0 rfl (natsV .u64 lc) _ (blk_all (D12.out)) Try.underlying24 rfl (i24 L_lc.out) ?_) | (refine stB rfl 94 (.tmp 4) (.tmp 13) rfl (w.heap.size + 1 + 1) rfl (natsV .u64 lc) rfl 94 (natsV .u64 (zeros 4)) C10.out (i94 L_lc.out) (lenEq (show (natsV .u64 (zeros 4)).length = 4 from rfl) (by rw [natsV_length, L_lc.out])) (natsV_one _ _) ?_))
  refine bodyPost_ret (v := .agg (natsV .u64 lc).toArray) ?_ rfl ⟨rfl, below_setRow' hbel11 (by first | exact Nat.le_refl _ | omega) _⟩
  exact results_cell_row Try.results111 _ _ (w.heap.size + 1 + 1) 94 _ (0, 0) _ rfl (C10.out.setRow _) Try.underlying94 rfl (by simpa using (i94 L_lc.out))
set_option maxRecDepth 100000 in
set_option maxHeartbeats 800000 in
theorem wrap_109 {la lc : List Nat} (hla : la.length = 4) (hlc : lc.length = 4) (hc : ∀ w, Calls Try.prog 110 #[.agg (natsV .u64 la).toArray, .agg (natsV .u64 la).toArray] w fun e w' => e = .returned (.agg (natsV .u64 lc).toArray) ∧ Below w.heap.size w w') (w : World) :
    Calls Try.prog 109 #[.agg (natsV .u64 la).toArray] w fun e w' => e = .returned (.agg (natsV .u64 lc).toArray) ∧ Below w.heap.size w w' := by
  have L_la := Lib.hid hla
  clear hla
  have L_lc := Lib.hid hlc
  clear hlc
  have HC := Lib.hid hc
  clear hc
  have B0_ := Lib.hid ((Blk.new w  94 (natsV .u64 la)).alloc (.cells (natsV .u64 (zeros 4)).toArray 94))
  have B1_ := Lib.hid (Blk.new2 w (.cells (natsV .u64 la).toArray 94) 94 (natsV .u64 (zeros 4)))
  have bel_ := (((Below.refl w.heap.size w).alloc (Nat.le_refl _) (.cells (natsV .u64 la).toArray 94)).alloc (by simp) (.cells (natsV .u64 (zeros 4)).toArray 94))
  go_enter Try.func109, Try.ntmps109
  go_wp2_with (first | (refine wpList_load_mid rfl 94 (.tmp 1) rfl w.heap.size 0 rfl (natsV .u64 la) _ (blk_all (B0_.out)) Try.underlying94 rfl (i94 L_la.out) ?_) | (refine wpList_load_mid rfl 94 (.tmp 1) rfl w.heap.size 0 rfl (natsV .u64 la) _ (blk_all (B0_.out)) Try.underlying94 rfl (i94 L_la.out) ?_))
  refine (HC.out _).mono ?_
  rintro e w1 ⟨rfl, hbw1⟩
  have C2 := Lib.hid (B0_.out.gr hbw1)
  clear B0_
  have C3 := Lib.hid (B1_.out.gr hbw1)
  clear B1_
  have hbel4 := bel_.trans (Below.mono hbw1 bel_.size)
  clear bel_
  clear hbw1
  go_wp2_with (first | (refine stB rfl 94 (.tmp 2) (.tmp 5) rfl (w.heap.size + 1) rfl (natsV .u64 lc) rfl 94 (natsV .u64 (zeros 4)) C3.out (i94 L_lc.out) (lenEq (show (natsV .u64 (zeros 4)).length = 4 from rfl) (by rw [natsV_length, L_lc.out])) (natsV_one _ _) ?_))
  refine bodyPost_ret (v := .agg (natsV .u64 lc).toArray) ?_ rfl ⟨rfl, below_setRow' hbel4 (by first | exact Nat.le_refl _ | omega) _⟩
  exact results_cell_row Try.results109 _ _ (w.heap.size + 1) 94 _ (0, 0) _ rfl (C3.out.setRow _) Try.underlying94 rfl (by simpa using (i94 L_lc.out))
set_option maxRecDepth 100000 in
set_option maxHeartbeats 800000 in
theorem wrap_72 {la lc : List Nat} (hla : la.length = 4) (hlc : lc.length = 4) (hc : ∀ w, Calls Try.prog 108 #[.agg (natsV .u64 la).toArray, .agg (natsV .u64 la).toArray] w fun e w' => e = .returned (.agg (natsV .u64 lc).toArray) ∧ Below w.heap.size w w') (w : World) :
    Calls Try.prog 72 #[.agg (natsV .u64 la).toArray] w fun e w' => e = .returned (.agg (natsV .u64 lc).toArray) ∧ Below w.heap.size w w' := by
  have L_la := Lib.hid hla
  clear hla
  have L_lc := Lib.hid hlc
  clear hlc
  have HC := Lib.hid hc
  clear hc
  have B0_ := Lib.hid ((Blk.new w  94 (natsV .u64 la)).alloc (.cells (natsV .u64 (zeros 4)).toArray 94))
  have B1_ := Lib.hid (Blk.new2 w (.cells (natsV .u64 la).toArray 94) 94 (natsV .u64 (zeros 4)))
  have bel_ := (((Below.refl w.heap.size w).alloc (Nat.le_refl _) (.cells (natsV .u64 la).toArray 94)).alloc (by simp) (.cells (natsV .u64 (zeros 4)).toArray 94))
  go_enter Try.func72, Try.ntmps72
  go_wp2_with (first | (refine wpList_load_mid rfl 94 (.tmp 1) rfl w.heap.size 0 rfl (natsV .u64 la) _ (blk_all (B0_.out)) Try.underlying94 rfl (i94 L_la.out) ?_) | (refine wpList_load_mid rfl 94 (.tmp 1) rfl w.heap.size 0 rfl (natsV .u64 la) _ (blk_all (B0_.out)) Try.underlying94 rfl (i94 L_la.out) ?_))
  refine (HC.out _).mono ?_
  rintro e w1 ⟨rfl, hbw1⟩
  have C2 := Lib.hid (B0_.out.gr hbw1)
  clear B0_
  have C3 := Lib.hid (B1_.out.gr hbw1)
  clear B1_
  have hbel4 := bel_.trans (Below.mono hbw1 bel_.size)
  clear bel_
  clear hbw1
  go_wp2_with (first | (refine stB rfl 94 (.tmp 2) (.tmp 5) rfl (w.heap.size + 1) rfl (natsV .u64 lc) rfl 94 (natsV .u64 (zeros 4)) C3.out (i94 L_lc.out) (lenEq (show (natsV .u64 (zeros 4)).length = 4 from rfl) (by rw [natsV_length, L_lc.out])) (natsV_one _ _) ?_))
  refine bodyPost_ret (v := .agg (natsV .u64 lc).toArray) ?_ rfl ⟨rfl, below_setRow' hbel4 (by first | exact Nat.le_refl _ | omega) _⟩
  exact results_cell_row Try.results72 _ _ (w.heap.size + 1) 94 _ (0, 0) _ rfl (C3.out.setRow _) Try.underlying94 rfl (by simpa using (i94 L_lc.out))
set_option maxRecDepth 100000 in
set_option maxHeartbeats 800000 in
theorem wrap_71 {la lc : List Nat} {E : Int} (hla : la.length = 4) (hlc : lc.length = 4) (hc : ∀ w, Calls Try.prog 17 #[.int .i64 1, .agg (natsV .u64 la).toArray] w fun e w' => e = .returned (.tuple #[.agg (natsV .u64 lc).toArray, .int .i64 E]) ∧ Below w.heap.size w w') (w : World) :
    Calls Try.prog 71 #[.agg (natsV .u64 la).toArray] w fun e w' => e = .returned (.agg (natsV .u64 lc).toArray) ∧ Below w.heap.size w w' := by
  have L_la := Lib.hid hla
  clear hla
  have L_lc := Lib.hid hlc
  clear hlc
  have HC := Lib.hid hc
  clear hc
  have B0_ := Lib.hid ((Blk.new w  24 (natsV .u64 la)).alloc (.cells (natsV .u64 (zeros 4)).toArray 94))
  have B1_ := Lib.hid (Blk.new2 w (.cells (natsV .u64 la).toArray 24) 94 (natsV .u64 (zeros 4)))
  have bel_ := (((Below.refl w.heap.size w).alloc (Nat.le_refl _) (.cells (natsV .u64 la).toArray 24)).alloc (by simp) (.cells (natsV .u64 (zeros 4)).toArray 94))
  go_enter Try.func71, Try.ntmps71
  go_wp2_with (first | (refine wpList_load_mid rfl 24 (.tmp 1) rfl w.heap.size 0 rfl (natsV .u64 la) _ (blk_all (B0_.out)) Try.underlying24 rfl (i24 L_la.out) ?_))
  refine (HC.out _).mono ?_
  rintro e w1 ⟨rfl, hbw1⟩
  have C2 := Lib.hid (B0_.out.gr hbw1)
  clear B0_
  have C3 := Lib.hid (B1_.out.gr hbw1)
  clear B1_
  have hbel4 := bel_.trans (Below.mono hbw1 bel_.size)
  clear bel_
  clear hbw1
  go_wp2_with (first | (refine stB rfl 24 (.tmp 3) (.tmp 8) rfl w1.heap.size rfl (natsV .u64 lc) rfl 24 (natsV .u64 (zeros 4)) (Blk.new w1 24 (natsV .u64 (zeros 4))) (i24 L_lc.out) (lenEq (show (natsV .u64 (zeros 4)).length = 4 from rfl) (by rw [natsV_length, L_lc.out])) (natsV_one _ _) ?_; generalize hW : World.setRow _ _ _ = w5; obtain ⟨hgw5, hnw5⟩ := newfacts hW; clear hW; have C7 := Lib.hid (C2.out.gr hgw5); clear C2; have C8 := Lib.hid (C3.out.gr hgw5); clear C3; have hbel9 := hbel4.trans (Below.mono hgw5 hbel4.size); clear hbel4; have D10 := Lib.hid hnw5; have szw5 := hgw5.size; clear hnw5 hgw5 szw5; generalize w1.heap.size = G6 at *) | (refine wpList_load_mid rfl 24 (.tmp 3) rfl G6 0 rfl (natsV .u64 lc) _ (blk_all (D10.out)) Try.underlying24 rfl (i24 L_lc.out) ?_) | (refine stB rfl 94 (.tmp 2) (.tmp 10) rfl (w.heap.size + 1) rfl (natsV .u64 lc) rfl 94 (natsV .u64 (zeros 4)) C8.out (i94 L_lc.out) (lenEq (show (natsV .u64 (zeros 4)).length = 4 from rfl) (by rw [natsV_length, L_lc.out])) (natsV_one _ _) ?_))
  refine bodyPost_ret (v := .agg (natsV .u64 lc).toArray) ?_ rfl ⟨rfl, below_setRow' hbel9 (by first | exact Nat.le_refl _ | omega) _⟩
  exact results_cell_row Try.results71 _ _ (w.heap.size + 1) 94 _ (0, 0) _ rfl (C8.out.setRow _) Try.underlying94 rfl (by simpa using (i94 L_lc.out))
set_option maxRecDepth 100000 in
set_option maxHeartbeats 800000 in
theorem wrap_114 {la lc : List Nat} {E : Int} (hla : la.length = 4) (hlc : lc.length = 4) (hc : ∀ w, Calls Try.prog 59 #[.int .i64 1, .agg (natsV .u64 la).toArray] w fun e w' => e = .returned (.tuple #[.agg (natsV .u64 lc).toArray, .int .i64 E]) ∧ Below w.heap.size w w') (w : World) :
    Calls Try.prog 114 #[.agg (natsV .u64 la).toArray] w fun e w' => e = .returned (.agg (natsV .u64 lc).toArray) ∧ Below w.heap.size w w' := by
  have L_la := Lib.hid hla
  clear hla
  have L_lc := Lib.hid hlc
  clear hlc
  have HC := Lib.hid hc
  clear hc
  have B0_ := Lib.hid ((Blk.new w  94 (natsV .u64 la)).alloc (.cells (natsV .u64 (zeros 4)).toArray 24))
  have B1_ := Lib.hid (Blk.new2 w (.cells (natsV .u64 la).toArray 94) 24 (natsV .u64 (zeros 4)))
  have bel_ := (((Below.refl w.heap.size w).alloc (Nat.le_refl _) (.cells (natsV .u64 la).toArray 94)).alloc (by simp) (.cells (natsV .u64 (zeros 4)).toArray 24))
  go_enter Try.func114, Try.ntmps114
  go_wp2_with (first | (refine wpList_load_mid rfl 94 (.tmp 1) rfl w.heap.size 0 rfl (natsV .u64 la) _ (blk_all (B0_.out)) Try.underlying94 rfl (i94 L_la.out) ?_))
  refine (HC.out _).mono ?_
  rintro e w1 ⟨rfl, hbw1⟩
  have C2 := Lib.hid (B0_.out.gr hbw1)
  clear B0_
  have C3 := Lib.hid (B1_.out.gr hbw1)
  clear B1_
  have hbel4 := bel_.trans (Below.mono hbw1 bel_.size)
  clear bel_
  clear hbw1
  go_wp2_with (first | (refine stB rfl 24 (.tmp 3) (.tmp 8) rfl w1.heap.size rfl (natsV .u64 lc) rfl 24 (natsV .u64 (zeros 4)) (Blk.new w1 24 (natsV .u64 (zeros 4))) (i24 L_lc.out) (lenEq (show (natsV .u64 (zeros 4)).length = 4 from rfl) (by rw [natsV_length, L_lc.out])) (natsV_one _ _) ?_; generalize hW : World.setRow _ _ _ = w5; obtain ⟨hgw5, hnw5⟩ := newfacts hW; clear hW; have C7 := Lib.hid (C2.out.gr hgw5); clear C2; have C8 := Lib.hid (C3.out.gr hgw5); clear C3; have hbel9 := hbel4.trans (Below.mono hgw5 hbel4.size); clear hbel4; have D10 := Lib.hid hnw5; have szw5 := hgw5.size; clear hnw5 hgw5 szw5; generalize w1.heap.size = G6 at *) | (refine wpList_load_mid rfl 24 (.tmp 3) rfl G6 0 rfl (natsV .u64 lc) _ (blk_all (D10.out)) Try.underlying24 rfl (i24 L_lc.out) ?_) | (refine stB rfl 24 (.tmp 2) (.tmp 10) rfl (w.heap.size + 1) rfl (natsV .u64 lc) rfl 24 (natsV .u64 (zeros 4)) C8.out (i24 L_lc.out) (lenEq (show (natsV .u64 (zeros 4)).length = 4 from rfl) (by rw [natsV_length, L_lc.out])) (natsV_one _ _) ?_))
  refine bodyPost_ret (v := .agg (natsV .u64 lc).toArray) ?_ rfl ⟨rfl, below_setRow' hbel9 (by first | exact Nat.le_refl _ | omega) _⟩
  exact results_cell_row Try.results114 _ _ (w.heap.size + 1) 24 _ (0, 0) _ rfl (C8.out.setRow _) Try.underlying24 rfl (by simpa using (i24 L_lc.out))
set_option maxRecDepth 100000 in
set_option maxHeartbeats 800000 in
theorem wrap_118 {la lc : List Nat} {E : Int} (hla : la.length = 4) (hlc : lc.length = 4) (hc : ∀ w, Calls Try.prog 22 #[.int .i64 1, .agg (natsV .u64 la).toArray] w fun e w' => e = .returned (.tuple #[.agg (natsV .u64 lc).toArray, .int .i64 E]) ∧ Below w.heap.size w w') (w : World) :
    Calls Try.prog 118 #[.agg (natsV .u64 la).toArray] w fun e w' => e = .returned (.agg (natsV .u64 lc).toArray) ∧ Below w.heap.size w w' := by
  have L_la := Lib.hid hla
  clear hla
  have L_lc := Lib.hid hlc
  clear hlc
  have HC := Lib.hid hc
  clear hc
  have B0_ := Lib.hid ((Blk.new w  94 (natsV .u64 la)).alloc (.cells (natsV .u64 (zeros 4)).toArray 94))
  have B1_ := Lib.hid (Blk.new2 w (.cells (natsV .u64 la).toArray 94) 94 (natsV .u64 (zeros 4)))
  have bel_ := (((Below.refl w.heap.size w).alloc (Nat.le_refl _) (.cells (natsV .u64 la).toArray 94)).alloc (by simp) (.cells (natsV .u64 (zeros 4)).toArray 94))
  go_enter Try.func118, Try.ntmps118
  go_wp2_with (first | (refine wpList_load_mid rfl 94 (.tmp 1) rfl w.heap.size 0 rfl (natsV .u64 la) _ (blk_all (B0_.out)) Try.underlying94 rfl (i94 L_la.out) ?_))
  refine (HC.out _).mono ?_
  rintro e w1 ⟨rfl, hbw1⟩
  have C2 := Lib.hid (B0_.out.gr hbw1)
  clear B0_
  have C3 := Lib.hid (B1_.out.gr hbw1)
  clear B1_
  have hbel4 := bel_.trans (Below.mono hbw1 bel_.size)
  clear bel_
  clear hbw1
  go_wp2_with (first | (refine stB rfl 24 (.tmp 3) (.tmp 8) rfl w1.heap.size rfl (natsV .u64 lc) rfl 24 (natsV .u64 (zeros 4)) (Blk.new w1 24 (natsV .u64 (zeros 4))) (i24 L_lc.out) (lenEq (show (natsV .u64 (zeros 4)).length = 4 from rfl) (by rw [natsV_length, L_lc.out])) (natsV_one _ _) ?_; generalize hW : World.setRow _ _ _ = w5; obtain ⟨hgw5, hnw5⟩ := newfacts hW; clear hW; have C7 := Lib.hid (C2.out.gr hgw5); clear C2; have C8 := Lib.hid (C3.out.gr hgw5); clear C3; have hbel9 := hbel4.trans (Below.mono hgw5 hbel4.size); clear hbel4; have D10 := Lib.hid hnw5; have szw5 := hgw5.size; clear hnw5 hgw5 szw5; generalize w1.heap.size = G6 at *) | (refine wpList_load_mid rfl 24 (.tmp 3) rfl G6 0 rfl (natsV .u64 lc) _ (blk_all (D10.out)) Try.underlying24 rfl (i24 L_lc.out) ?_) | (refine stB rfl 94 (.tmp 2) (.tmp 10) rfl (w.heap.size + 1) rfl (natsV .u64 lc) rfl 94 (natsV .u64 (zeros 4)) C8.out (i94 L_lc.out) (lenEq (show (natsV .u64 (zeros 4)).length = 4 from rfl) (by rw [natsV_length, L_lc.out])) (natsV_one _ _) ?_))
  refine bodyPost_ret (v := .agg (natsV .u64 lc).toArray) ?_ rfl ⟨rfl, below_setRow' hbel9 (by first | exact Nat.le_refl _ | omega) _⟩
  exact results_cell_row Try.results118 _ _ (w.heap.size + 1) 94 _ (0, 0) _ rfl (C8.out.setRow _) Try.underlying94 rfl (by simpa using (i94 L_lc.out))
set_option maxRecDepth 100000 in
set_option maxHeartbeats 800000 in
theorem cbelow_any (x : Nat) (hx : x < 2 ^ 256) (w : World) :
    Calls Try.prog 70 #[.agg (natsV .u64 (wds 4 x)).toArray] w fun e w' => e = .returned (.bool (decide (x < mP))) ∧ Below w.heap.size w w' := by
  have HM := Lib.hid (fun w => Modulus_ok 1 mP 1 vP w .p)
  have HC := Lib.hid (fun w => Cmp_any x mP w hx fld_P.lt)
  have L_la := Lib.hid (wds_len 4 x)
  have L_lm := Lib.hid (wds_len 4 mP)
  obtain ⟨c, hc⟩ : ∃ c, c = cmpZ x mP := ⟨_, rfl⟩
  rw [← hc] at HC
  have hb : decide (x < mP) = decide (c < 0) := by
    rw [hc]; unfold cmpZ
    by_cases h1 : x < mP
    · rw [if_pos h1, decide_eq_true h1]; rfl
    · rw [if_neg h1, decide_eq_false h1]; split <;> rfl
  rw [hb]
  clear hb hc hx
  generalize wds 4 x = la at *
  generalize wds 4 mP = lm at *
  have B0_ := Lib.hid (Blk.new w  24 (natsV .u64 la))
  have bel_ := ((Below.refl w.heap.size w).alloc (Nat.le_refl _) (.cells (natsV .u64 la).toArray 24))
  go_enter Try.func70, Try.ntmps70
  go_wp2_with fail
  refine (HM.out _).mono ?_
  rintro e w1 ⟨rfl, hbw1⟩
  have C2 := Lib.hid (B0_.out.gr hbw1)
  clear B0_
  have hbel3 := bel_.trans (Below.mono hbw1 bel_.size)
  clear bel_
  clear hbw1
  go_wp2_with (first | (refine stB rfl 24 (.tmp 3) (.tmp 7) rfl w1.heap.size rfl (natsV .u64 lm) rfl 24 (natsV .u64 (zeros 4)) (Blk.new w1 24 (natsV .u64 (zeros 4))) (i24 L_lm.out) (lenEq (show (natsV .u64 (zeros 4)).length = 4 from rfl) (by rw [natsV_length, L_lm.out])) (natsV_one _ _) ?_; generalize hW : World.setRow _ _ _ = w4; obtain ⟨hgw4, hnw4⟩ := newfacts hW; clear hW; have C6 := Lib.hid (C2.out.gr hgw4); clear C2; have hbel7 := hbel3.trans (Below.mono hgw4 hbel3.size); clear hbel3; have D8 := Lib.hid hnw4; have szw4 := hgw4.size; clear hnw4 hgw4 szw4; generalize w1.heap.size = G5 at *) | (refine wpList_load_mid rfl 24 (.tmp 1) rfl w.heap.size 0 rfl (natsV .u64 la) _ (blk_all (C6.out)) Try.underlying24 rfl (i24 L_la.out) ?_) | (refine wpList_load_mid rfl 24 (.tmp 3) rfl G5 0 rfl (natsV .u64 lm) _ (blk_all (D8.out)) Try.underlying24 rfl (i24 L_lm.out) ?_))
  refine (HC.out _).mono ?_
  rintro e w9 ⟨rfl, hbw9⟩
  have C10 := Lib.hid (C6.out.gr hbw9)
  clear C6
  have C11 := Lib.hid (D8.out.gr hbw9)
  clear D8
  have hbel12 := hbel7.trans (Below.mono hbw9 hbel7.size)
  clear hbel7
  clear hbw9
  go_wp2_with fail
  go_ret
  exact ⟨rfl, hbel12⟩
set_option maxRecDepth 100000 in
set_option maxHeartbeats 800000 in
theorem cinf_any (w : World) :
    Calls Try.prog 67 #[] w fun e w' => e = .returned (.agg (pv (zeros 4) (zeros 4) true).toArray) ∧ Below w.heap.size w w' := by
  have B0_ := Lib.hid (Blk.new w  43 (pv (zeros 4) (zeros 4) false))
  have bel_ := ((Below.refl w.heap.size w).alloc (Nat.le_refl _) (.cells (pv (zeros 4) (zeros 4) false).toArray 43))
  go_enter Try.func67, Try.ntmps67
  go_wp2_with (first | (refine stB rfl 43 (.tmp 0) (.tmp 1) rfl w.heap.size rfl (pv (zeros 4) (zeros 4) true) rfl 43 (pv (zeros 4) (zeros 4) false) B0_.out (i43 rfl rfl) (lenEq (show (pv (zeros 4) (zeros 4) false).length = 9 from rfl) (show (pv (zeros 4) (zeros 4) true).length = 9 from rfl)) (pv_one _ _ _) ?_))
  refine bodyPost_ret (v := .agg (pv (zeros 4) (zeros 4) true).toArray) ?_ rfl ⟨rfl, below_setRow' bel_ (by first | exact Nat.le_refl _ | omega) _⟩
  exact results_cell_row Try.results67 _ _ w.heap.size 43 _ (0, 0) _ rfl (B0_.out.setRow _) Try.underlying43 rfl (by simpa using (i43 rfl rfl))
end Go.Proofs.Ytfffmoolkgheaaa
namespace Go.Proofs.Ytfffmoolkgheaaa
open Go.RowKit
set_option linter.unusedVariables false
set_option linter.unusedSimpArgs false
set_option maxRecDepth 100000 in
set_option maxHeartbeats 400000 in
theorem isinf {lx ly lz : List Nat} (hlx : lx.length = 4) (hly : ly.length = 4) (hlz : lz.length = 4) (w : World) :
    Calls Try.prog 116 #[.agg (tv lx ly lz).toArray] w fun e w' => e = .returned (.bool (decide (lz = zeros 4))) ∧ Below w.heap.size w w' := by
  have L_lx := Lib.hid hlx
  clear hlx
  have L_ly := Lib.hid hly
  clear hly
  have L_lz := Lib.hid hlz
  clear hlz
  have q := fun w => eqZ94 lz L_lz.out w
  have B0_ := Lib.hid (Blk.new w  103 (tv lx ly lz))
  have bel_ := ((Below.refl w.heap.size w).alloc (Nat.le_refl _) (.cells (tv lx ly lz).toArray 103))
  go_enter Try.func116, Try.ntmps116
  go_wp2_with (first | (refine wpList_load_mid rfl 94 (.tmp 3) rfl w.heap.size 8 rfl (natsV .u64 lz) _ (tv_z (B0_.out) L_lx.out L_ly.out) Try.underlying94 rfl (i94 L_lz.out) ?_))
  go_ret
  exact ⟨rfl, bel_⟩
set_option maxRecDepth 100000 in
set_option maxHeartbeats 1600000 in
theorem rside {la lbc ld l3 ls lc lm lr : List Nat} (hla : la.length = 4) (hlbc : lbc.length = 4) (hld : ld.length = 4) (hl3 : l3.length = 4) (hls : ls.length = 4) (hlc : lc.length = 4) (hlm : lm.length = 4) (hlr : lr.length = 4)
    (c1 : ∀ w, Calls Try.prog 71 #[.agg #[.int .u64 4309448131093880907, .int .u64 7285987128567378166, .int .u64 12964664127075681980, .int .u64 6540974713487397863]] w fun e w' => e = .returned (.agg (natsV .u64 lbc).toArray) ∧ Below w.heap.size w w')
    (c2 : ∀ w, Calls Try.prog 109 #[.agg (natsV .u64 la).toArray] w fun e w' => e = .returned (.agg (natsV .u64 ld).toArray) ∧ Below w.heap.size w w')
    (c3 : ∀ w, Calls Try.prog 110 #[.agg (natsV .u64 ld).toArray, .agg (natsV .u64 la).toArray] w fun e w' => e = .returned (.agg (natsV .u64 l3).toArray) ∧ Below w.heap.size w w')
    (c4 : ∀ w, Calls Try.prog 72 #[.agg (natsV .u64 la).toArray] w fun e w' => e = .returned (.agg (natsV .u64 ls).toArray) ∧ Below w.heap.size w w')
    (c5 : ∀ w, Calls Try.prog 108 #[.agg (natsV .u64 ls).toArray, .agg (natsV .u64 la).toArray] w fun e w' => e = .returned (.agg (natsV .u64 lc).toArray) ∧ Below w.heap.size w w')
    (c6 : ∀ w, Calls Try.prog 111 #[.agg (natsV .u64 lc).toArray, .agg (natsV .u64 l3).toArray] w fun e w' => e = .returned (.agg (natsV .u64 lm).toArray) ∧ Below w.heap.size w w')
    (c7 : ∀ w, Calls Try.prog 110 #[.agg (natsV .u64 lm).toArray, .agg (natsV .u64 lbc).toArray] w fun e w' => e = .returned (.agg (natsV .u64 lr).toArray) ∧ Below w.heap.size w w') (w : World) :
    Calls Try.prog 73 #[.agg (natsV .u64 la).toArray] w fun e w' => e = .returned (.agg (natsV .u64 lr).toArray) ∧ Below w.heap.size w w' := by
  have L_la := Lib.hid hla
  clear hla
  have L_lbc := Lib.hid hlbc
  clear hlbc
  have L_ld := Lib.hid hld
  clear hld
  have L_l3 := Lib.hid hl3
  clear hl3
  have L_ls := Lib.hid hls
  clear hls
  have L_lc := Lib.hid hlc
  clear hlc
  have L_lm := Lib.hid hlm
  clear hlm
  have L_lr := Lib.hid hlr
  clear hlr
  have Hc1 := Lib.hid c1
  clear c1
  have Hc2 := Lib.hid c2
  clear c2
  have Hc3 := Lib.hid c3
  clear c3
  have Hc4 := Lib.hid c4
  clear c4
  have Hc5 := Lib.hid c5
  clear c5
  have Hc6 := Lib.hid c6
  clear c6
  have Hc7 := Lib.hid c7
  clear c7
  have B0_ := Lib.hid ((Blk.new w  94 (natsV .u64 la)).alloc (.cells (natsV .u64 (zeros 4)).toArray 94))
  have B1_ := Lib.hid (Blk.new2 w (.cells (natsV .u64 la).toArray 94) 94 (natsV .u64 (zeros 4)))
  have bel_ := (((Below.refl w.heap.size w).alloc (Nat.le_refl _) (.cells (natsV .u64 la).toArray 94)).alloc (by simp) (.cells (natsV .u64 (zeros 4)).toArray 94))
  go_enter Try.func73, Try.ntmps73
  go_wp2_with fail
  refine (Hc1.out _).mono ?_
  rintro e w1 ⟨rfl, hbw1⟩
  have C2 := Lib.hid (B0_.out.gr hbw1)
  clear B0_
  have C3 := Lib.hid (B1_.out.gr hbw1)
  clear B1_
  have hbel4 := bel_.trans (Below.mono hbw1 bel_.size)
  clear bel_
  clear hbw1
  go_wp2_with (first | (refine stB rfl 94 (.tmp 3) (.tmp 6) rfl w1.heap.size rfl (natsV .u64 lbc) rfl 94 (natsV .u64 (zeros 4)) (Blk.new w1 94 (natsV .u64 (zeros 4))) (i94 L_lbc.out) (lenEq (show (natsV .u64 (zeros 4)).length = 4 from rfl) (by rw [natsV_length, L_lbc.out])) (natsV_one _ _) ?_; generalize hW : World.setRow _ _ _ = w5; obtain ⟨hgw5, hnw5⟩ := newfacts hW; clear hW; have C8 := Lib.hid (C2.out.gr hgw5); clear C2; have C9 := Lib.hid (C3.out.gr hgw5); clear C3; have hbel10 := hbel4.trans (Below.mono hgw5 hbel4.size); clear hbel4; have D7 := Lib.hid hnw5; have szw5 := hgw5.size; clear hnw5 hgw5 szw5; generalize w1.heap.size = G6 at *))
  as_aux_lemma =>
  refine wp_region_G (fun w_ => Blk w_ w.heap.size 94 (natsV .u64 la)) 5 (by kernel_rfl) C8.out.drew ?_
  refine wpAnyG_take (fun _ _ hS_ hb_ => hS_.gr hb_) (i := 0) rfl (by kernel_rfl) (fun _ _ _ h => h) (loadG (by rfl) _ _ rfl _ _ rfl (natsV .u64 la) _ (fun _ hS_ => blk_all (hS_)) Try.underlying94 rfl (i94 L_la.out)) ?_
  try simp only [Act.put, zq1, zq2, zq3, zq4, zq5, zq6]
  refine wpAnyG_take (fun _ _ hS_ hb_ => hS_.gr hb_) (i := 1) rfl (by kernel_rfl) (fun _ _ _ h => h) (callG (by rfl) rfl Try.func109 (by kernel_rfl) (by kernel_rfl) (#[.agg (natsV .u64 la).toArray]) (by simp [Act.eval]) (fun w _ => Hc2.out w)) ?_
  try simp only [Act.put, zq1, zq2, zq3, zq4, zq5, zq6]
  refine wpAnyG_take (fun _ _ hS_ hb_ => hS_.gr hb_) (i := 2) rfl (by kernel_rfl) (fun _ _ _ h => h) (loadG (by rfl) _ _ rfl _ _ rfl (natsV .u64 la) _ (fun _ hS_ => blk_all (hS_)) Try.underlying94 rfl (i94 L_la.out)) ?_
  try simp only [Act.put, zq1, zq2, zq3, zq4, zq5, zq6]
  refine wpAnyG_take (fun _ _ hS_ hb_ => hS_.gr hb_) (i := 3) rfl (by kernel_rfl) (fun _ _ _ h => h) (callG (by rfl) rfl Try.func110 (by kernel_rfl) (by kernel_rfl) (#[.agg (natsV .u64 ld).toArray, .agg (natsV .u64 la).toArray]) (by simp [Act.eval]) (fun w _ => Hc3.out w)) ?_
  try simp only [Act.put, zq1, zq2, zq3, zq4, zq5, zq6]
  refine wpAnyG_def (i := 4) (j := 5) (fun _ _ hS_ hb_ => hS_.gr hb_) (by kernel_rfl) (by kernel_rfl) (by kernel_rfl) rfl rfl rfl (allocG (by rfl) rfl _ alloc94) (lenEq (show (natsV .u64 (zeros 4)).length = 4 from rfl) (by rw [natsV_length, L_l3.out])) (fun _ => StoresG.mk (cs := (natsV .u64 l3)) (by rfl) 94 _ _ rfl rfl rfl (i94 L_l3.out) (natsV_one _ _)) ?_
  intro w11 G12 hgw11 hz_ hn_
  try simp only [Act.put, zq1, zq2, zq3, zq4, zq5, zq6]
  have E13 := Lib.hid (C8.out.drew.gr hgw11)
  clear C8
  have E14 := Lib.hid (C9.out.drew.gr hgw11)
  clear C9
  have E15 := Lib.hid (D7.out.drew.gr hgw11)
  clear D7
  have hbel16 := hbel10.drew.trans (Below.mono hgw11 hbel10.drew.size)
  clear hbel10
  have D17 := Lib.hid hn_
  clear hn_ hz_ hgw11
  as_aux_lemma =>
  go_wp2_with fail
  as_aux_lemma =>
  refine wp_region_G (fun w_ => Blk w_ w.heap.size 94 (natsV .u64 la) ∧ Blk w_ G12 94 (natsV .u64 l3) ∧ Blk w_ G6 94 (natsV .u64 lbc)) 8 (by kernel_rfl) ⟨E13.out.drew, D17.out.drew, E15.out.drew⟩ ?_
  refine wpAnyG_take (fun _ _ hS_ hb_ => ⟨hS_.1.gr hb_, hS_.2.1.gr hb_, hS_.2.2.gr hb_⟩) (i := 0) rfl (by kernel_rfl) (fun _ _ _ h => h) (loadG (by rfl) _ _ rfl _ _ rfl (natsV .u64 la) _ (fun _ hS_ => blk_all (hS_.1)) Try.underlying94 rfl (i94 L_la.out)) ?_
  try simp only [Act.put, zq1, zq2, zq3, zq4, zq5, zq6]
  refine wpAnyG_take (fun _ _ hS_ hb_ => ⟨hS_.1.gr hb_, hS_.2.1.gr hb_, hS_.2.2.gr hb_⟩) (i := 1) rfl (by kernel_rfl) (fun _ _ _ h => h) (callG (by rfl) rfl Try.func72 (by kernel_rfl) (by kernel_rfl) (#[.agg (natsV .u64 la).toArray]) (by simp [Act.eval]) (fun w _ => Hc4.out w)) ?_
  try simp only [Act.put, zq1, zq2, zq3, zq4, zq5, zq6]
  refine wpAnyG_take (fun _ _ hS_ hb_ => ⟨hS_.1.gr hb_, hS_.2.1.gr hb_, hS_.2.2.gr hb_⟩) (i := 2) rfl (by kernel_rfl) (fun _ _ _ h => h) (loadG (by rfl) _ _ rfl _ _ rfl (natsV .u64 la) _ (fun _ hS_ => blk_all (hS_.1)) Try.underlying94 rfl (i94 L_la.out)) ?_
  try simp only [Act.put, zq1, zq2, zq3, zq4, zq5, zq6]
  refine wpAnyG_take (fun _ _ hS_ hb_ => ⟨hS_.1.gr hb_, hS_.2.1.gr hb_, hS_.2.2.gr hb_⟩) (i := 3) rfl (by kernel_rfl) (fun _ _ _ h => h) (callG (by rfl) rfl Try.func108 (by kernel_rfl) (by kernel_rfl) (#[.agg (natsV .u64 ls).toArray, .agg (natsV .u64 la).toArray]) (by simp [Act.eval]) (fun w _ => Hc5.out w)) ?_
  try simp only [Act.put, zq1, zq2, zq3, zq4, zq5, zq6]
  refine wpAnyG_take (fun _ _ hS_ hb_ => ⟨hS_.1.gr hb_, hS_.2.1.gr hb_, hS_.2.2.gr hb_⟩) (i := 4) rfl (by kernel_rfl) (fun _ _ _ h => h) (loadG (by rfl) _ _ rfl _ _ rfl (natsV .u64 l3) _ (fun _ hS_ => blk_all (hS_.2.1)) Try.underlying94 rfl (i94 L_l3.out)) ?_
  try simp only [Act.put, zq1, zq2, zq3, zq4, zq5, zq6]
  refine wpAnyG_take (fun _ _ hS_ hb_ => ⟨hS_.1.gr hb_, hS_.2.1.gr hb_, hS_.2.2.gr hb_⟩) (i := 5) rfl (by kernel_rfl) (fun _ _ _ h => h) (callG (by rfl) rfl Try.func111 (by kernel_rfl) (by kernel_rfl) (#[.agg (natsV .u64 lc).toArray, .agg (natsV .u64 l3).toArray]) (by simp [Act.eval]) (fun w _ => Hc6.out w)) ?_
  try simp only [Act.put, zq1, zq2, zq3, zq4, zq5, zq6]
  refine wpAnyG_take (fun _ _ hS_ hb_ => ⟨hS_.1.gr hb_, hS_.2.1.gr hb_, hS_.2.2.gr hb_⟩) (i := 6) rfl (by kernel_rfl) (fun _ _ _ h => h) (loadG (by rfl) _ _ rfl _ _ rfl (natsV .u64 lbc) _ (fun _ hS_ => blk_all (hS_.2.2)) Try.underlying94 rfl (i94 L_lbc.out)) ?_
  try simp only [Act.put, zq1, zq2, zq3, zq4, zq5, zq6]
  refine wpAnyG_take (fun _ _ hS_ hb_ => ⟨hS_.1.gr hb_, hS_.2.1.gr hb_, hS_.2.2.gr hb_⟩) (i := 7) rfl (by kernel_rfl) (fun _ _ _ h => h) (callG (by rfl) rfl Try.func110 (by kernel_rfl) (by kernel_rfl) (#[.agg (natsV .u64 lm).toArray, .agg (natsV .u64 lbc).toArray]) (by simp [Act.eval]) (fun w _ => Hc7.out w)) ?_
  try simp only [Act.put, zq1, zq2, zq3, zq4, zq5, zq6]
  refine wpAnyG_set (i := 8) (by kernel_rfl) (by kernel_rfl) rfl rfl E14.out.drew (lenEq (show (natsV .u64 (zeros 4)).length = 4 from rfl) (by rw [natsV_length, L_lr.out])) (StoresG.mk (cs := (natsV .u64 lr)) (by rfl) 94 _ _ rfl rfl rfl (i94 L_lr.out) (natsV_one _ _)) ?_
  intro w18 hgw18 hn_
  try simp only [Act.put, zq1, zq2, zq3, zq4, zq5, zq6]
  have hbel19 := belStore hbel16.drew hgw18 (show w.heap.size ≤ (w.heap.size + 1) by omega)
  have D20 := Lib.hid hn_
  go_wp2_with fail
  refine bodyPost_ret (v := .agg (natsV .u64 lr).toArray) ?_ rfl ⟨rfl, hbel19⟩
  exact results_cell_row Try.results73 _ _ (w.heap.size + 1) 94 _ (0, 0) _ rfl D20.out Try.underlying94 rfl (by simpa using (i94 L_lr.out))
end Go.Proofs.Ytfffmoolkgheaaa
namespace Go.Proofs.Ytfffmoolkgheaaa
open Go.RowKit
set_option linter.unusedVariables false
theorem built2p {a b c d : List Nat} {i j : Bool} (ha : a.length = 4) (hb : b.length = 4) (hc : c.length = 4) (hd : d.length = 4) : Try.prog.builtSlice 43 2 [(0, .agg (pv a b i).toArray), (1, .agg (pv c d j).toArray)] = some (pv a b i ++ pv c d j).toArray := by
  obtain ⟨_, _, _, _, rfl⟩ := four_ol ha; obtain ⟨_, _, _, _, rfl⟩ := four_ol hb
  obtain ⟨_, _, _, _, rfl⟩ := four_ol hc; obtain ⟨_, _, _, _, rfl⟩ := four_ol hd
  kernel_rfl
section
variable {w : World} {ops : Array Oper} {rest : List Oper} {o : Oper} {a : Act} {Q : Exit → Act → World → Prop}
theorem bs2p (hgd : o.guard = none) (x y : Operand) (ho : o.op = .buildSlice 131 2 #[(0, x), (1, y)]) {c d e f : List Nat} {i j : Bool} (hx : a.eval x = .agg (pv c d i).toArray) (hy : a.eval y = .agg (pv e f j).toArray) (hc : c.length = 4) (hd : d.length = 4) (he : e.length = 4) (hf : f.length = 4)
    (h : wpList Try.prog ops Q rest (a.put o.dst (.slice (some ⟨w.heap.size, 0, none⟩) 2 2)) (w.alloc (.cells (pv c d i ++ pv e f j).toArray 43))) : wpList Try.prog ops Q (o :: rest) a w :=
  Great.wpList_buildSliceTo hgd 131 43 2 _ ho _ rfl _ rfl Try.underlying131 _ (by simp only [List.map_toArray, List.map_cons, List.map_nil, hx, hy]; exact built2p hc hd he hf) h
end
theorem two_r {w : World} {g k : Nat} {t : TypeId} {x y : List Value} (h : Blk w g t (x ++ y)) (hk : x.length = k) : w.rangeAt g 0 x ∧ w.rangeAt g k y :=
  ⟨blk_part (a := []) (b := x) (c := y) h rfl, blk_part (a := x) (b := y) (c := []) (by rw [List.append_nil]; exact h) hk⟩
theorem Blk.newAt {W : World} {g : Nat} (t : TypeId) (cs : List Value) (h : W.heap.size = g) : Blk (W.alloc (.cells cs.toArray t)) g t cs := h ▸ Blk.new W t cs
section
variable {P : Program} {ops : Array Oper} {Q : Exit → Act → World → Prop} {md : Region.Mode} {S : World → Prop}
def lstK (n k : Nat) : Array Bool := (List.range k).foldl (fun l i => l.setIfInBounds i true) (Array.replicate n false)
theorem lstK_succ (n k : Nat) : lstK n (k + 1) = (lstK n k).setIfInBounds k true := by unfold lstK; rw [List.range_succ, List.foldl_append]; rfl
def orderOk (md : Region.Mode) (ops : Array Oper) : Bool := (List.range ops.size).all fun k => (Region.ready md ops (lstK ops.size k)).contains k
theorem wpOps_of_any (n : Nat) : ∀ (m k : Nat) (a : Act) (w : World), (∀ j, k ≤ j → j < k + m → j ∈ Region.ready md ops (lstK n j)) → wpAny P md ops Q m (lstK n k) a w → wpOps P ops Q (List.range' k m) a w
  | 0, k, a, w, _, h => h.2
  | m + 1, k, a, w, hr, h => by
    rw [List.range'_succ, wpOps_cons]
    refine wpOp_mono (fun a' w' h' => wpOps_of_any n m (k + 1) a' w' (fun j h1 h2 => hr j (by omega) (by omega)) (by rw [lstK_succ]; exact h')) (h.2 k (hr k (Nat.le_refl _) (by omega)))
theorem wp_region_P {id : Nat} {a : Act} {w : World} (S : World → Prop) (L : Nat) (hm : orderOk .any ops = true) (hS : S w)
    (h : wpAnyG P .any ops Q S L ops.size (Array.replicate ops.size false) a w) : (Code.region id ops false).wp P Q a w := by
  refine wp_region ?_
  rw [List.range_eq_range']
  refine wpOps_of_any (md := .any) ops.size ops.size 0 a w (fun j _ hj => ?_) (wpAny_of_G _ _ _ _ (.inr hS) h)
  have := List.all_eq_true.1 hm j (List.mem_range.2 (by omega))
  simpa using this
end
end Go.Proofs.Ytfffmoolkgheaaa
