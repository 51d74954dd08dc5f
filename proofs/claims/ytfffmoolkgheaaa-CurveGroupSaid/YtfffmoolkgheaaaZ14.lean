/- Parts of proofs of statements, each text behind those that it stands on. No condition of its own. -/
import Derived.Test.YtfffmoolkgheaaaZ13
namespace Go.Proofs.Ytfffmoolkgheaaa
open Go.RowKit
set_option linter.unusedVariables false
set_option linter.unusedSimpArgs false
set_option maxRecDepth 100000 in
set_option maxHeartbeats 800000 in
theorem wrap_108 {la lb lc : List Nat} (hla : la.length = 4) (hlb : lb.length = 4) (hlc : lc.length = 4) (hc : ∀ w, Calls Try.prog 21 #[.int .i64 1, .agg (natsV .u64 la).toArray, .agg (natsV .u64 lb).toArray] w fun e w' => e = .returned (.tuple #[.agg (natsV .u64 lc).toArray, .int .i64 0]) ∧ Below w.heap.size w w') (w : World) :
    Calls Try.prog 108 #[.agg (natsV .u64 la).toArray, .agg (natsV .u64 lb).toArray] w fun e w' => e = .returned (.agg (natsV .u64 lc).toArray) ∧ Below w.heap.size w w' := by
  have L_la := Lib.hid hla
  clear hla
  have L_lb := Lib.hid hlb
  clear hlb
  have L_lc := Lib.hid hlc
  clear hlc
  have HC := Lib.hid hc
  clear hc
  have B0_ := Lib.hid (((Blk.new w  94 (natsV .u64 la)).alloc (.cells (natsV .u64 lb).toArray 94)).alloc (.cells (natsV .u64 (zeros 4)).toArray 94))
  have B1_ := Lib.hid ((Blk.new2 w (.cells (natsV .u64 la).toArray 94) 94 (natsV .u64 lb)).alloc (.cells (natsV .u64 (zeros 4)).toArray 94))
  have B2_ := Lib.hid (Blk.new3 w (.cells (natsV .u64 la).toArray 94) (.cells (natsV .u64 lb).toArray 94) 94 (natsV .u64 (zeros 4)))
  have bel_ := ((((Below.refl w.heap.size w).alloc (Nat.le_refl _) (.cells (natsV .u64 la).toArray 94)).alloc (by simp) (.cells (natsV .u64 lb).toArray 94)).alloc (by simp; omega) (.cells (natsV .u64 (zeros 4)).toArray 94))
  go_enter Try.func108, Try.ntmps108
  go_wp2_with (first | (refine wpList_load_mid rfl 94 (.tmp 2) rfl w.heap.size 0 rfl (natsV .u64 la) _ (blk_all (B0_.out)) Try.underlying94 rfl (i94 L_la.out) ?_) | (refine wpList_load_mid rfl 94 (.tmp 3) rfl (w.heap.size + 1) 0 rfl (natsV .u64 lb) _ (blk_all (B1_.out)) Try.underlying94 rfl (i94 L_lb.out) ?_))
  refine (HC.out _).mono ?_
  rintro e w1 ⟨rfl, hbw1⟩
  have C2 := Lib.hid (B0_.out.gr hbw1)
  clear B0_
  have C3 := Lib.hid (B1_.out.gr hbw1)
  clear B1_
  have C4 := Lib.hid (B2_.out.gr hbw1)
  clear B2_
  have hbel5 := bel_.trans (Below.mono hbw1 bel_.size)
  clear bel_
  clear hbw1
  go_wp2_with (first | (refine stB rfl 24 (.tmp 5) (.tmp 11) rfl w1.heap.size rfl (natsV .u64 lc) rfl 24 (natsV .u64 (zeros 4)) (Blk.new w1 24 (natsV .u64 (zeros 4))) (i24 L_lc.out) (lenEq (show (natsV .u64 (zeros 4)).length = 4 from rfl) (by rw [natsV_length, L_lc.out])) (natsV_one _ _) ?_; generalize hW : World.setRow _ _ _ = w6; obtain ⟨hgw6, hnw6⟩ := newfacts hW; clear hW; have C8 := Lib.hid (C2.out.gr hgw6); clear C2; have C9 := Lib.hid (C3.out.gr hgw6); clear C3; have C10 := Lib.hid (C4.out.gr hgw6); clear C4; have hbel11 := hbel5.trans (Below.mono hgw6 hbel5.size); clear hbel5; have D12 := Lib.hid hnw6; have szw6 := hgw6.size; clear hnw6 hgw6 szw6; generalize w1.heap.size = G7 at *) | (refine wpList_load_mid rfl 24 (.tmp 5) rfl G7 0 rfl (natsV .u64 lc) _ (blk_all (D12.out)) Try.underlying24 rfl (i24 L_lc.out) ?_) | (refine stB rfl 94 (.tmp 4) (.tmp 13) rfl (w.heap.size + 1 + 1) rfl (natsV .u64 lc) rfl 94 (natsV .u64 (zeros 4)) C10.out (i94 L_lc.out) (lenEq (show (natsV .u64 (zeros 4)).length = 4 from rfl) (by rw [natsV_length, L_lc.out])) (natsV_one _ _) ?_))
  refine bodyPost_ret (v := .agg (natsV .u64 lc).toArray) ?_ rfl ⟨rfl, below_setRow' hbel11 (by first | exact Nat.le_refl _ | omega) _⟩
  exact results_cell_row Try.results108 _ _ (w.heap.size + 1 + 1) 94 _ (0, 0) _ rfl (C10.out.setRow _) Try.underlying94 rfl (by simpa using (i94 L_lc.out))
set_option maxRecDepth 100000 in
set_option maxHeartbeats 800000 in
theorem wrap_110 {la lb lc : List Nat} (hla : la.length = 4) (hlb : lb.length = 4) (hlc : lc.length = 4) (hc : ∀ w, Calls Try.prog 19 #[.int .i64 1, .agg (natsV .u64 la).toArray, .agg (natsV .u64 lb).toArray] w fun e w' => e = .returned (.tuple #[.agg (natsV .u64 lc).toArray, .int .i64 0]) ∧ Below w.heap.size w w') (w : World) :
    Calls Try.prog 110 #[.agg (natsV .u64 la).toArray, .agg (natsV .u64 lb).toArray] w fun e w' => e = .returned (.agg (natsV .u64 lc).toArray) ∧ Below w.heap.size w w' := by
  have L_la := Lib.hid hla
  clear hla
  have L_lb := Lib.hid hlb
  clear hlb
  have L_lc := Lib.hid hlc
  clear hlc
  have HC := Lib.hid hc
  clear hc
  have B0_ := Lib.hid (((Blk.new w  94 (natsV .u64 la)).alloc (.cells (natsV .u64 lb).toArray 94)).alloc (.cells (natsV .u64 (zeros 4)).toArray 94))
  have B1_ := Lib.hid ((Blk.new2 w (.cells (natsV .u64 la).toArray 94) 94 (natsV .u64 lb)).alloc (.cells (natsV .u64 (zeros 4)).toArray 94))
  have B2_ := Lib.hid (Blk.new3 w (.cells (natsV .u64 la).toArray 94) (.cells (natsV .u64 lb).toArray 94) 94 (natsV .u64 (zeros 4)))
  have bel_ := ((((Below.refl w.heap.size w).alloc (Nat.le_refl _) (.cells (natsV .u64 la).toArray 94)).alloc (by simp) (.cells (natsV .u64 lb).toArray 94)).alloc (by simp; omega) (.cells (natsV .u64 (zeros 4)).toArray 94))
  go_enter Try.func110, Try.ntmps110
  go_wp2_with (first | (refine wpList_load_mid rfl 94 (.tmp 2) rfl w.heap.size 0 rfl (natsV .u64 la) _ (blk_all (B0_.out)) Try.underlying94 rfl (i94 L_la.out) ?_) | (refine wpList_load_mid rfl 94 (.tmp 3) rfl (w.heap.size + 1) 0 rfl (natsV .u64 lb) _ (blk_all (B1_.out)) Try.underlying94 rfl (i94 L_lb.out) ?_))
  refine (HC.out _).mono ?_
  rintro e w1 ⟨rfl, hbw1⟩
  have C2 := Lib.hid (B0_.out.gr hbw1)
  clear B0_
  have C3 := Lib.hid (B1_.out.gr hbw1)
  clear B1_
  have C4 := Lib.hid (B2_.out.gr hbw1)
  clear B2_
  have hbel5 := bel_.trans (Below.mono hbw1 bel_.size)
  clear bel_
  clear hbw1
  go_wp2_with (first | (refine stB rfl 24 (.tmp 5) (.tmp 11) rfl w1.heap.size rfl (natsV .u64 lc) rfl 24 (natsV .u64 (zeros 4)) (Blk.new w1 24 (natsV .u64 (zeros 4))) (i24 L_lc.out) (lenEq (show (natsV .u64 (zeros 4)).length = 4 from rfl) (by rw [natsV_length, L_lc.out])) (natsV_one _ _) ?_; generalize hW : World.setRow _ _ _ = w6; obtain ⟨hgw6, hnw6⟩ := newfacts hW; clear hW; have C8 := Lib.hid (C2.out.gr hgw6); clear C2; have C9 := Lib.hid (C3.out.gr hgw6); clear C3; have C10 := Lib.hid (C4.out.gr hgw6); clear C4; have hbel11 := hbel5.trans (Below.mono hgw6 hbel5.size); clear hbel5; have D12 := Lib.hid hnw6; have szw6 := hgw6.size; clear hnw6 hgw6 szw6; generalize w1.heap.size = G7 at *) | (refine wpList_load_mid rfl 24 (.tmp 5) rfl G7 0 rfl (natsV .u64 lc) _ (blk_all (D12.out)) Try.underlying24 rfl (i24 L_lc.out) ?_) | (refine stB rfl 94 (.tmp 4) (.tmp 13) rfl (w.heap.size + 1 + 1) rfl (natsV .u64 lc) rfl 94 (natsV .u64 (zeros 4)) C10.out (i94 L_lc.out) (lenEq (show (natsV .u64 (zeros 4)).length = 4 from rfl) (by rw [natsV_length, L_lc.out])) (natsV_one _ _) ?_))
  refine bodyPost_ret (v := .agg (natsV .u64 lc).toArray) ?_ rfl ⟨rfl, below_setRow' hbel11 (by first | exact Nat.le_refl _ | omega) _⟩
  exact results_cell_row Try.results110 _ _ (w.heap.size + 1 + 1) 94 _ (0, 0) _ rfl (C10.out.setRow _) Try.underlying94 rfl (by simpa using (i94 L_lc.out))
set_option maxRecDepth 100000 in
set_option maxHeartbeats 800000 in
theorem wrap_111 {la lb lc : List Nat} (hla : la.length = 4) (hlb : lb.length = 4) (hlc : lc.length = 4) (hc : ∀ w, Calls Try.prog 20 #[.int .i64 1, .agg (natsV .u64 la).toArray, .agg (natsV .u64 lb).toArray] w fun e w' => e = .returned (.tuple #[.agg (natsV .u64 lc).toArray, .int .i64 0]) ∧ Below w.heap.size w w') (w : World) :
    Calls Try.prog 111 #[.agg (natsV .u64 la).toArray, .agg (natsV .u64 lb).toArray] w fun e w' => e = .returned (.agg (natsV .u64 lc).toArray) ∧ Below w.heap.size w w' := by
  have L_la := Lib.hid hla
  clear hla
  have L_lb := Lib.hid hlb
  clear hlb
  have L_lc := Lib.hid hlc
  clear hlc
  have HC := Lib.hid hc
  clear hc
  have B0_ := Lib.hid (((Blk.new w  94 (natsV .u64 la)).alloc (.cells (natsV .u64 lb).toArray 94)).alloc (.cells (natsV .u64 (zeros 4)).toArray 94))
  have B1_ := Lib.hid ((Blk.new2 w (.cells (natsV .u64 la).toArray 94) 94 (natsV .u64 lb)).alloc (.cells (natsV .u64 (zeros 4)).toArray 94))
  have B2_ := Lib.hid (Blk.new3 w (.cells (natsV .u64 la).toArray 94) (.cells (natsV .u64 lb).toArray 94) 94 (natsV .u64 (zeros 4)))
  have bel_ := ((((Below.refl w.heap.size w).alloc (Nat.le_refl _) (.cells (natsV .u64 la).toArray 94)).alloc (by simp) (.cells (natsV .u64 lb).toArray 94)).alloc (by simp; omega) (.cells (natsV .u64 (zeros 4)).toArray 94))
  go_enter Try.func111, Try.ntmps111
  go_wp2_with (first | (refine wpList_load_mid rfl 94 (.tmp 2) rfl w.heap.size 0 rfl (natsV .u64 la) _ (blk_all (B0_.out)) Try.underlying94 rfl (i94 L_la.out) ?_) | (refine wpList_load_mid rfl 94 (.tmp 3) rfl (w.heap.size + 1) 0 rfl (natsV .u64 lb) _ (blk_all (B1_.out)) Try.underlying94 rfl (i94 L_lb.out) ?_))
  refine (HC.out _).mono ?_
  rintro e w1 ⟨rfl, hbw1⟩
  have C2 := Lib.hid (B0_.out.gr hbw1)
  clear B0_
  have C3 := Lib.hid (B1_.out.gr hbw1)
  clear B1_
  have C4 := Lib.hid (B2_.out.gr hbw1)
  clear B2_
  have hbel5 := bel_.trans (Below.mono hbw1 bel_.size)
  clear bel_
  clear hbw1
  go_wp2_with (first | (refine stB rfl 24 (.tmp 5) (.tmp 11) rfl w1.heap.size rfl (natsV .u64 lc) rfl 24 (natsV .u64 (zeros 4)) (Blk.new w1 24 (natsV .u64 (zeros 4))) (i24 L_lc.out) (lenEq (show (natsV .u64 (zeros 4)).length = 4 from rfl) (by rw [natsV_length, L_lc.out])) (natsV_one _ _) ?_; generalize hW : World.setRow _ _ _ = w6; obtain ⟨hgw6, hnw6⟩ := newfacts hW; clear hW; have C8 := Lib.hid (C2.out.gr hgw6); clear C2; have C9 := Lib.hid (C3.out.gr hgw6); clear C3; have C10 := Lib.hid (C4.out.gr hgw6); clear C4; have hbel11 := hbel5.trans (Below.mono hgw6 hbel5.size); clear hbel5; have D12 := Lib.hid hnw6; have szw6 := hgw6.size; clear hnw6 hgw6 szw6; generalize w1.heap.size = G7 at *) | (refine wpList_load_mid rfl 24 (.tmp 5) rfl G7 0 rfl (natsV .u64 lc) _ (blk_all (D12.out)) Try.underlying24 rfl (i24 L_lc.out) ?_) | (refine stB rfl 94 (.tmp 4) (.tmp 13) rfl (w.heap.size + 1 + 1) rfl (natsV .u64 lc) rfl 94 (natsV .u64 (zeros 4)) C10.out (i94 L_lc.out) (lenEq (show (natsV .u64 (zeros 4)).length = 4 from rfl) (by rw [natsV_length, L_lc.out])) (natsV_one _ _) ?_))
  refine bodyPost_ret (v := .agg (natsV .u64 lc).toArray) ?_ rfl ⟨rfl, below_setRow' hbel11 (by first | exact Nat.le_refl _ | omega) _⟩
  exact results_cell_row Try.results111 _ _ (w.heap.size + 1 + 1) 94 _ (0, 0) _ rfl (C10.out.setRow _) Try.underlying94 rfl (by simpa using (i94 L_lc.out))
set_option maxRecDepth 100000 in
set_option maxHeartbeats 800000 in
theorem wrap_109 {la lc : List Nat} (hla : la.length = 4) (hlc : lc.length = 4) (hc : ∀ w, Calls Try.prog 110 #[.agg (natsV .u64 la).toArray, .agg (natsV .u64 la).toArray] w fun e w' => e = .returned (.agg (natsV .u64 lc).toArray) ∧ Below w.heap.size w w') (w : World) :
    Calls Try.prog 109 #[.agg (natsV .u64 la).toArray] w fun e w' => e = .returned (.agg (natsV .u64 lc).toArray) ∧ Below w.heap.size w w' := by
  have L_la := Lib.hid hla
  clear hla
  have L_lc := Lib.hid hlc
  clear hlc
  have HC := Lib.hid hc
  clear hc
  have B0_ := Lib.hid ((Blk.new w  94 (natsV .u64 la)).alloc (.cells (natsV .u64 (zeros 4)).toArray 94))
  have B1_ := Lib.hid (Blk.new2 w (.cells (natsV .u64 la).toArray 94) 94 (natsV .u64 (zeros 4)))
  have bel_ := (((Below.refl w.heap.size w).alloc (Nat.le_refl _) (.cells (natsV .u64 la).toArray 94)).alloc (by simp) (.cells (natsV .u64 (zeros 4)).toArray 94))
  go_enter Try.func109, Try.ntmps109
  go_wp2_with (first | (refine wpList_load_mid rfl 94 (.tmp 1) rfl w.heap.size 0 rfl (natsV .u64 la) _ (blk_all (B0_.out)) Try.underlying94 rfl (i94 L_la.out) ?_) | (refine wpList_load_mid rfl 94 (.tmp 1) rfl w.heap.size 0 rfl (natsV .u64 la) _ (blk_all (B0_.out)) Try.underlying94 rfl (i94 L_la.out) ?_))
  refine (HC.out _).mono ?_
  rintro e w1 ⟨rfl, hbw1⟩
  have C2 := Lib.hid (B0_.out.gr hbw1)
  clear B0_
  have C3 := Lib.hid (B1_.out.gr hbw1)
  clear B1_
  have hbel4 := bel_.trans (Below.mono hbw1 bel_.size)
  clear bel_
  clear hbw1
  go_wp2_with (first | (refine stB rfl 94 (.tmp 2) (.tmp 5) rfl (w.heap.size + 1) rfl (natsV .u64 lc) rfl 94 (natsV .u64 (zeros 4)) C3.out (i94 L_lc.out) (lenEq (show (natsV .u64 (zeros 4)).length = 4 from rfl) (by rw [natsV_length, L_lc.out])) (natsV_one _ _) ?_))
  refine bodyPost_ret (v := .agg (natsV .u64 lc).toArray) ?_ rfl ⟨rfl, below_setRow' hbel4 (by first | exact Nat.le_refl _ | omega) _⟩
  exact results_cell_row Try.results109 _ _ (w.heap.size + 1) 94 _ (0, 0) _ rfl (C3.out.setRow _) Try.underlying94 rfl (by simpa using (i94 L_lc.out))
set_option maxRecDepth 100000 in
set_option maxHeartbeats 800000 in
theorem wrap_72 {la lc : List Nat} (hla : la.length = 4) (hlc : lc.length = 4) (hc : ∀ w, Calls Try.prog 108 #[.agg (natsV .u64 la).toArray, .agg (natsV .u64 la).toArray] w fun e w' => e = .returned (.agg (natsV .u64 lc).toArray) ∧ Below w.heap.size w w') (w : World) :
    Calls Try.prog 72 #[.agg (natsV .u64 la).toArray] w fun e w' => e = .returned (.agg (natsV .u64 lc).toArray) ∧ Below w.heap.size w w' := by
  have L_la := Lib.hid hla
  clear hla
  have L_lc := Lib.hid hlc
  clear hlc
  have HC := Lib.hid hc
  clear hc
  have B0_ := Lib.hid ((Blk.new w  94 (natsV .u64 la)).alloc (.cells (natsV .u64 (zeros 4)).toArray 94))
  have B1_ := Lib.hid (Blk.new2 w (.cells (natsV .u64 la).toArray 94) 94 (natsV .u64 (zeros 4)))
  have bel_ := (((Below.refl w.heap.size w).alloc (Nat.le_refl _) (.cells (natsV .u64 la).toArray 94)).alloc (by simp) (.cells (natsV .u64 (zeros 4)).toArray 94))
  go_enter Try.func72, Try.ntmps72
  go_wp2_with (first | (refine wpList_load_mid rfl 94 (.tmp 1) rfl w.heap.size 0 rfl (natsV .u64 la) _ (blk_all (B0_.out)) Try.underlying94 rfl (i94 L_la.out) ?_) | (refine wpList_load_mid rfl 94 (.tmp 1) rfl w.heap.size 0 rfl (natsV .u64 la) _ (blk_all (B0_.out)) Try.underlying94 rfl (i94 L_la.out) ?_))
  refine (HC.out _).mono ?_
  rintro e w1 ⟨rfl, hbw1⟩
  have C2 := Lib.hid (B0_.out.gr hbw1)
  clear B0_
  have C3 := Lib.hid (B1_.out.gr hbw1)
  clear B1_
  have hbel4 := bel_.trans (Below.mono hbw1 bel_.size)
  clear bel_
  clear hbw1
  go_wp2_with (first | (refine stB rfl 94 (.tmp 2) (.tmp 5) rfl (w.heap.size + 1) rfl (natsV .u64 lc) rfl 94 (natsV .u64 (zeros 4)) C3.out (i94 L_lc.out) (lenEq (show (natsV .u64 (zeros 4)).length = 4 from rfl) (by rw [natsV_length, L_lc.out])) (natsV_one _ _) ?_))
  refine bodyPost_ret (v := .agg (natsV .u64 lc).toArray) ?_ rfl ⟨rfl, below_setRow' hbel4 (by first | exact Nat.le_refl _ | omega) _⟩
  exact results_cell_row Try.results72 _ _ (w.heap.size + 1) 94 _ (0, 0) _ rfl (C3.out.setRow _) Try.underlying94 rfl (by simpa using (i94 L_lc.out))
set_option maxRecDepth 100000 in
set_option maxHeartbeats 800000 in
theorem wrap_71 {la lc : List Nat} {E : Int} (hla : la.length = 4) (hlc : lc.length = 4) (hc : ∀ w, Calls Try.prog 17 #[.int .i64 1, .agg (natsV .u64 la).toArray] w fun e w' => e = .returned (.tuple #[.agg (natsV .u64 lc).toArray, .int .i64 E]) ∧ Below w.heap.size w w') (w : World) :
    Calls Try.prog 71 #[.agg (natsV .u64 la).toArray] w fun e w' => e = .returned (.agg (natsV .u64 lc).toArray) ∧ Below w.heap.size w w' := by
  have L_la := Lib.hid hla
  clear hla
  have L_lc := Lib.hid hlc
  clear hlc
  have HC := Lib.hid hc
  clear hc
  have B0_ := Lib.hid ((Blk.new w  24 (natsV .u64 la)).alloc (.cells (natsV .u64 (zeros 4)).toArray 94))
  have B1_ := Lib.hid (Blk.new2 w (.cells (natsV .u64 la).toArray 24) 94 (natsV .u64 (zeros 4)))
  have bel_ := (((Below.refl w.heap.size w).alloc (Nat.le_refl _) (.cells (natsV .u64 la).toArray 24)).alloc (by simp) (.cells (natsV .u64 (zeros 4)).toArray 94))
  go_enter Try.func71, Try.ntmps71
  go_wp2_with (first | (refine wpList_load_mid rfl 24 (.tmp 1) rfl w.heap.size 0 rfl (natsV .u64 la) _ (blk_all (B0_.out)) Try.underlying24 rfl (i24 L_la.out) ?_))
  refine (HC.out _).mono ?_
  rintro e w1 ⟨rfl, hbw1⟩
  have C2 := Lib.hid (B0_.out.gr hbw1)
  clear B0_
  have C3 := Lib.hid (B1_.out.gr hbw1)
  clear B1_
  have hbel4 := bel_.trans (Below.mono hbw1 bel_.size)
  clear bel_
  clear hbw1
  go_wp2_with (first | (refine stB rfl 24 (.tmp 3) (.tmp 8) rfl w1.heap.size rfl (natsV .u64 lc) rfl 24 (natsV .u64 (zeros 4)) (Blk.new w1 24 (natsV .u64 (zeros 4))) (i24 L_lc.out) (lenEq (show (natsV .u64 (zeros 4)).length = 4 from rfl) (by rw [natsV_length, L_lc.out])) (natsV_one _ _) ?_; generalize hW : World.setRow _ _ _ = w5; obtain ⟨hgw5, hnw5⟩ := newfacts hW; clear hW; have C7 := Lib.hid (C2.out.gr hgw5); clear C2; have C8 := Lib.hid (C3.out.gr hgw5); clear C3; have hbel9 := hbel4.trans (Below.mono hgw5 hbel4.size); clear hbel4; have D10 := Lib.hid hnw5; have szw5 := hgw5.size; clear hnw5 hgw5 szw5; generalize w1.heap.size = G6 at *) | (refine wpList_load_mid rfl 24 (.tmp 3) rfl G6 0 rfl (natsV .u64 lc) _ (blk_all (D10.out)) Try.underlying24 rfl (i24 L_lc.out) ?_) | (refine stB rfl 94 (.tmp 2) (.tmp 10) rfl (w.heap.size + 1) rfl (natsV .u64 lc) rfl 94 (natsV .u64 (zeros 4)) C8.out (i94 L_lc.out) (lenEq (show (natsV .u64 (zeros 4)).length = 4 from rfl) (by rw [natsV_length, L_lc.out])) (natsV_one _ _) ?_))
  refine bodyPost_ret (v := .agg (natsV .u64 lc).toArray) ?_ rfl ⟨rfl, below_setRow' hbel9 (by first | exact Nat.le_refl _ | omega) _⟩
  exact results_cell_row Try.results71 _ _ (w.heap.size + 1) 94 _ (0, 0) _ rfl (C8.out.setRow _) Try.underlying94 rfl (by simpa using (i94 L_lc.out))
set_option maxRecDepth 100000 in
set_option maxHeartbeats 800000 in
theorem wrap_114 {la lc : List Nat} {E : Int} (hla : la.length = 4) (hlc : lc.length = 4) (hc : ∀ w, Calls Try.prog 59 #[.int .i64 1, .agg (natsV .u64 la).toArray] w fun e w' => e = .returned (.tuple #[.agg (natsV .u64 lc).toArray, .int .i64 E]) ∧ Below w.heap.size w w') (w : World) :
    Calls Try.prog 114 #[.agg (natsV .u64 la).toArray] w fun e w' => e = .returned (.agg (natsV .u64 lc).toArray) ∧ Below w.heap.size w w' := by
  have L_la := Lib.hid hla
  clear hla
  have L_lc := Lib.hid hlc
  clear hlc
  have HC := Lib.hid hc
  clear hc
  have B0_ := Lib.hid ((Blk.new w  94 (natsV .u64 la)).alloc (.cells (natsV .u64 (zeros 4)).toArray 24))
  have B1_ := Lib.hid (Blk.new2 w (.cells (natsV .u64 la).toArray 94) 24 (natsV .u64 (zeros 4)))
  have bel_ := (((Below.refl w.heap.size w).alloc (Nat.le_refl _) (.cells (natsV .u64 la).toArray 94)).alloc (by simp) (.cells (natsV .u64 (zeros 4)).toArray 24))
  go_enter Try.func114, Try.ntmps114
  go_wp2_with (first | (refine wpList_load_mid rfl 94 (.tmp 1) rfl w.heap.size 0 rfl (natsV .u64 la) _ (blk_all (B0_.out)) Try.underlying94 rfl (i94 L_la.out) ?_))
  refine (HC.out _).mono ?_
  rintro e w1 ⟨rfl, hbw1⟩
  have C2 := Lib.hid (B0_.out.gr hbw1)
  clear B0_
  have C3 := Lib.hid (B1_.out.gr hbw1)
  clear B1_
  have hbel4 := bel_.trans (Below.mono hbw1 bel_.size)
  clear bel_
  clear hbw1
  go_wp2_with (first | (refine stB rfl 24 (.tmp 3) (.tmp 8) rfl w1.heap.size rfl (natsV .u64 lc) rfl 24 (natsV .u64 (zeros 4)) (Blk.new w1 24 (natsV .u64 (zeros 4))) (i24 L_lc.out) (lenEq (show (natsV .u64 (zeros 4)).length = 4 from rfl) (by rw [natsV_length, L_lc.out])) (natsV_one _ _) ?_; generalize hW : World.setRow _ _ _ = w5; obtain ⟨hgw5, hnw5⟩ := newfacts hW; clear hW; have C7 := Lib.hid (C2.out.gr hgw5); clear C2; have C8 := Lib.hid (C3.out.gr hgw5); clear C3; have hbel9 := hbel4.trans (Below.mono hgw5 hbel4.size); clear hbel4; have D10 := Lib.hid hnw5; have szw5 := hgw5.size; clear hnw5 hgw5 szw5; generalize w1.heap.size = G6 at *) | (refine wpList_load_mid rfl 24 (.tmp 3) rfl G6 0 rfl (natsV .u64 lc) _ (blk_all (D10.out)) Try.underlying24 rfl (i24 L_lc.out) ?_) | (refine stB rfl 24 (.tmp 2) (.tmp 10) rfl (w.heap.size + 1) rfl (natsV .u64 lc) rfl 24 (natsV .u64 (zeros 4)) C8.out (i24 L_lc.out) (lenEq (show (natsV .u64 (zeros 4)).length = 4 from rfl) (by rw [natsV_length, L_lc.out])) (natsV_one _ _) ?_))
  refine bodyPost_ret (v := .agg (natsV .u64 lc).toArray) ?_ rfl ⟨rfl, below_setRow' hbel9 (by first | exact Nat.le_refl _ | omega) _⟩
  exact results_cell_row Try.results114 _ _ (w.heap.size + 1) 24 _ (0, 0) _ rfl (C8.out.setRow _) Try.underlying24 rfl (by simpa using (i24 L_lc.out))
set_option maxRecDepth 100000 in
set_option maxHeartbeats 800000 in
theorem wrap_118 {la lc : List Nat} {E : Int} (hla : la.length = 4) (hlc : lc.length = 4) (hc : ∀ w, Calls Try.prog 22 #[.int .i64 1, .agg (natsV .u64 la).toArray] w fun e w' => e = .returned (.tuple #[.agg (natsV .u64 lc).toArray, .int .i64 E]) ∧ Below w.heap.size w w') (w : World) :
    Calls Try.prog 118 #[.agg (natsV .u64 la).toArray] w fun e w' => e = .returned (.agg (natsV .u64 lc).toArray) ∧ Below w.heap.size w w' := by
  have L_la := Lib.hid hla
  clear hla
  have L_lc := Lib.hid hlc
  clear hlc
  have HC := Lib.hid hc
  clear hc
  have B0_ := Lib.hid ((Blk.new w  94 (natsV .u64 la)).alloc (.cells (natsV .u64 (zeros 4)).toArray 94))
  have B1_ := Lib.hid (Blk.new2 w (.cells (natsV .u64 la).toArray 94) 94 (natsV .u64 (zeros 4)))
  have bel_ := (((Below.refl w.heap.size w).alloc (Nat.le_refl _) (.cells (natsV .u64 la).toArray 94)).alloc (by simp) (.cells (natsV .u64 (zeros 4)).toArray 94))
  go_enter Try.func118, Try.ntmps118
  go_wp2_with (first | (refine wpList_load_mid rfl 94 (.tmp 1) rfl w.heap.size 0 rfl (natsV .u64 la) _ (blk_all (B0_.out)) Try.underlying94 rfl (i94 L_la.out) ?_))
  refine (HC.out _).mono ?_
  rintro e w1 ⟨rfl, hbw1⟩
  have C2 := Lib.hid (B0_.out.gr hbw1)
  clear B0_
  have C3 := Lib.hid (B1_.out.gr hbw1)
  clear B1_
  have hbel4 := bel_.trans (Below.mono hbw1 bel_.size)
  clear bel_
  clear hbw1
  go_wp2_with (first | (refine stB rfl 24 (.tmp 3) (.tmp 8) rfl w1.heap.size rfl (natsV .u64 lc) rfl 24 (natsV .u64 (zeros 4)) (Blk.new w1 24 (natsV .u64 (zeros 4))) (i24 L_lc.out) (lenEq (show (natsV .u64 (zeros 4)).length = 4 from rfl) (by rw [natsV_length, L_lc.out])) (natsV_one _ _) ?_; generalize hW : World.setRow _ _ _ = w5; obtain ⟨hgw5, hnw5⟩ := newfacts hW; clear hW; have C7 := Lib.hid (C2.out.gr hgw5); clear C2; have C8 := Lib.hid (C3.out.gr hgw5); clear C3; have hbel9 := hbel4.trans (Below.mono hgw5 hbel4.size); clear hbel4; have D10 := Lib.hid hnw5; have szw5 := hgw5.size; clear hnw5 hgw5 szw5; generalize w1.heap.size = G6 at *) | (refine wpList_load_mid rfl 24 (.tmp 3) rfl G6 0 rfl (natsV .u64 lc) _ (blk_all (D10.out)) Try.underlying24 rfl (i24 L_lc.out) ?_) | (refine stB rfl 94 (.tmp 2) (.tmp 10) rfl (w.heap.size + 1) rfl (natsV .u64 lc) rfl 94 (natsV .u64 (zeros 4)) C8.out (i94 L_lc.out) (lenEq (show (natsV .u64 (zeros 4)).length = 4 from rfl) (by rw [natsV_length, L_lc.out])) (natsV_one _ _) ?_))
  refine bodyPost_ret (v := .agg (natsV .u64 lc).toArray) ?_ rfl ⟨rfl, below_setRow' hbel9 (by first | exact Nat.le_refl _ | omega) _⟩
  exact results_cell_row Try.results118 _ _ (w.heap.size + 1) 94 _ (0, 0) _ rfl (C8.out.setRow _) Try.underlying94 rfl (by simpa using (i94 L_lc.out))
set_option maxRecDepth 100000 in
set_option maxHeartbeats 800000 in
theorem cbelow_any (x : Nat) (hx : x < 2 ^ 256) (w : World) :
    Calls Try.prog 70 #[.agg (natsV .u64 (wds 4 x)).toArray] w fun e w' => e = .returned (.bool (decide (x < mP))) ∧ Below w.heap.size w w' := by
  have HM := Lib.hid (fun w => Modulus_ok 1 mP 1 vP w .p)
  have HC := Lib.hid (fun w => Cmp_any x mP w hx fld_P.lt)
  have L_la := Lib.hid (wds_len 4 x)
  have L_lm := Lib.hid (wds_len 4 mP)
  obtain ⟨c, hc⟩ : ∃ c, c = cmpZ x mP := ⟨_, rfl⟩
  rw [← hc] at HC
  have hb : decide (x < mP) = decide (c < 0) := by
    rw [hc]; unfold cmpZ
    by_cases h1 : x < mP
    · rw [if_pos h1, decide_eq_true h1]; rfl
    · rw [if_neg h1, decide_eq_false h1]; split <;> rfl
  rw [hb]
  clear hb hc hx
  generalize wds 4 x = la at *
  generalize wds 4 mP = lm at *
  have B0_ := Lib.hid (Blk.new w  24 (natsV .u64 la))
  have bel_ := ((Below.refl w.heap.size w).alloc (Nat.le_refl _) (.cells (natsV .u64 la).toArray 24))
  go_enter Try.func70, Try.ntmps70
  go_wp2_with fail
  refine (HM.out _).mono ?_
  rintro e w1 ⟨rfl, hbw1⟩
  have C2 := Lib.hid (B0_.out.gr hbw1)
  clear B0_
  have hbel3 := bel_.trans (Below.mono hbw1 bel_.size)
  clear bel_
  clear hbw1
  go_wp2_with (first | (refine stB rfl 24 (.tmp 3) (.tmp 7) rfl w1.heap.size rfl (natsV .u64 lm) rfl 24 (natsV .u64 (zeros 4)) (Blk.new w1 24 (natsV .u64 (zeros 4))) (i24 L_lm.out) (lenEq (show (natsV .u64 (zeros 4)).length = 4 from rfl) (by rw [natsV_length, L_lm.out])) (natsV_one _ _) ?_; generalize hW : World.setRow _ _ _ = w4; obtain ⟨hgw4, hnw4⟩ := newfacts hW; clear hW; have C6 := Lib.hid (C2.out.gr hgw4); clear C2; have hbel7 := hbel3.trans (Below.mono hgw4 hbel3.size); clear hbel3; have D8 := Lib.hid hnw4; have szw4 := hgw4.size; clear hnw4 hgw4 szw4; generalize w1.heap.size = G5 at *) | (refine wpList_load_mid rfl 24 (.tmp 1) rfl w.heap.size 0 rfl (natsV .u64 la) _ (blk_all (C6.out)) Try.underlying24 rfl (i24 L_la.out) ?_) | (refine wpList_load_mid rfl 24 (.tmp 3) rfl G5 0 rfl (natsV .u64 lm) _ (blk_all (D8.out)) Try.underlying24 rfl (i24 L_lm.out) ?_))
  refine (HC.out _).mono ?_
  rintro e w9 ⟨rfl, hbw9⟩
  have C10 := Lib.hid (C6.out.gr hbw9)
  clear C6
  have C11 := Lib.hid (D8.out.gr hbw9)
  clear D8
  have hbel12 := hbel7.trans (Below.mono hbw9 hbel7.size)
  clear hbel7
  clear hbw9
  go_wp2_with fail
  go_ret
  exact ⟨rfl, hbel12⟩
set_option maxRecDepth 100000 in
set_option maxHeartbeats 800000 in
theorem cinf_any (w : World) :
    Calls Try.prog 67 #[] w fun e w' => e = .returned (.agg (pv (zeros 4) (zeros 4) true).toArray) ∧ Below w.heap.size w w' := by
  have B0_ := Lib.hid (Blk.new w  43 (pv (zeros 4) (zeros 4) false))
  have bel_ := ((Below.refl w.heap.size w).alloc (Nat.le_refl _) (.cells (pv (zeros 4) (zeros 4) false).toArray 43))
  go_enter Try.func67, Try.ntmps67
  go_wp2_with (first | (refine stB rfl 43 (.tmp 0) (.tmp 1) rfl w.heap.size rfl (pv (zeros 4) (zeros 4) true) rfl 43 (pv (zeros 4) (zeros 4) false) B0_.out (i43 rfl rfl) (lenEq (show (pv (zeros 4) (zeros 4) false).length = 9 from rfl) (show (pv (zeros 4) (zeros 4) true).length = 9 from rfl)) (pv_one _ _ _) ?_))
  refine bodyPost_ret (v := .agg (pv (zeros 4) (zeros 4) true).toArray) ?_ rfl ⟨rfl, below_setRow' bel_ (by first | exact Nat.le_refl _ | omega) _⟩
  exact results_cell_row Try.results67 _ _ w.heap.size 43 _ (0, 0) _ rfl (B0_.out.setRow _) Try.underlying43 rfl (by simpa using (i43 rfl rfl))
end Go.Proofs.Ytfffmoolkgheaaa
