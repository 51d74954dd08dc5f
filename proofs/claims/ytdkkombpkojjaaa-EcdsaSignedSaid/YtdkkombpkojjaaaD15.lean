/- Parts of proofs of statements, each text behind those that it stands on. No condition of its own. -/
import Derived.Test.YtdkkombpkojjaaaD14
namespace Go.Proofs.Ytdkkombpkojjaaa
set_option maxRecDepth 100000
set_option maxHeartbeats 1600000
open Go.RowKit
set_option linter.unusedVariables false
set_option linter.unusedSimpArgs false
theorem wrap_108 {la lb lc : List Nat} (hla : la.length = 4) (hlb : lb.length = 4) (hlc : lc.length = 4) (hc : ∀ w, Calls Try.prog 27 #[.int .i64 1, .agg (natsV .u64 la).toArray, .agg (natsV .u64 lb).toArray] w fun e w' => e = .returned (.tuple #[.agg (natsV .u64 lc).toArray, .int .i64 0]) ∧ Below w.heap.size w w') (w : World) :
   Calls Try.prog 64 #[.agg (natsV .u64 la).toArray, .agg (natsV .u64 lb).toArray] w fun e w' => e = .returned (.agg (natsV .u64 lc).toArray) ∧ Below w.heap.size w w' := by
 have L_la := Hd hla
 have L_lb := Hd hlb
 have L_lc := Hd hlc
 have HC := Hd hc
 have B0_ := Hd (((Blk.new w  65 (natsV .u64 la)).alloc (.cells (natsV .u64 lb).toArray 65)).alloc (.cells (natsV .u64 (zeros 4)).toArray 65))
 have B1_ := Hd ((Blk.new2 w (.cells (natsV .u64 la).toArray 65) 65 (natsV .u64 lb)).alloc (.cells (natsV .u64 (zeros 4)).toArray 65))
 have B2_ := Hd (Blk.new3 w (.cells (natsV .u64 la).toArray 65) (.cells (natsV .u64 lb).toArray 65) 65 (natsV .u64 (zeros 4)))
 clear hla hlb hlc hc
 have bel_ := ((((Below.refl w.heap.size w).alloc (Nat.le_refl _) (.cells (natsV .u64 la).toArray 65)).alloc (by simp) (.cells (natsV .u64 lb).toArray 65)).alloc (by simp; omega) (.cells (natsV .u64 (zeros 4)).toArray 65))
 go_enter Try.func64, Try.ntmps64
 go_wp2_with (first | (refine lm' (blk_all (B0_.out)) Try.underlying65 (i94 L_la.out) ?_) | (refine lm' (blk_all (B1_.out)) Try.underlying65 (i94 L_lb.out) ?_))
 refine (HC.out _).mono ?_
 rintro e w1 ⟨rfl, hbw1⟩
 have C2 := gq' B0_ hbw1
 have C3 := gq' B1_ hbw1
 have C4 := gq' B2_ hbw1
 have hbel5 := bel_.trans (Below.mono hbw1 bel_.size)
 clear B0_ B1_ B2_ bel_ hbw1
 go_wp2_with (first | (refine stN rfl 24 (.tmp 5) (.tmp 11) rfl w1 rfl (natsV .u64 lc) rfl 24 (natsV .u64 (zeros 4)) (i24 L_lc.out) (lz4 L_lc.out) n1' ?_; intro w6 hgw6 hnw6; have C8 := gq' C2 hgw6; clear C2; have C9 := gq' C3 hgw6; clear C3; have C10 := gq' C4 hgw6; clear C4; have hbel11 := hbel5.trans (Below.mono hgw6 hbel5.size); clear hbel5; have D12 := Hd hnw6; clear hnw6 hgw6; generalize w1.heap.size = G7 at *) | (refine lm' (blk_all (D12.out)) Try.underlying24 (i24 L_lc.out) ?_) | (refine stB rfl 65 (.tmp 4) (.tmp 13) rfl (w.heap.size + 1 + 1) rfl (natsV .u64 lc) rfl 65 (natsV .u64 (zeros 4)) C10.out (i94 L_lc.out) (lz4 L_lc.out) n1' ?_))
 refine bodyPost_ret (v := .agg (natsV .u64 lc).toArray) ?_ rfl ⟨rfl, below_setRow' hbel11 (by first | exact Nat.le_refl _ | omega) _⟩
 exact results_cell_row Try.results64 _ _ (w.heap.size + 1 + 1) 65 _ (0, 0) _ rfl (C10.out.setRow _) Try.underlying65 rfl (by simpa using (i94 L_lc.out))
theorem wrap_110 {la lb lc : List Nat} (hla : la.length = 4) (hlb : lb.length = 4) (hlc : lc.length = 4) (hc : ∀ w, Calls Try.prog 80 #[.int .i64 1, .agg (natsV .u64 la).toArray, .agg (natsV .u64 lb).toArray] w fun e w' => e = .returned (.tuple #[.agg (natsV .u64 lc).toArray, .int .i64 0]) ∧ Below w.heap.size w w') (w : World) :
   Calls Try.prog 68 #[.agg (natsV .u64 la).toArray, .agg (natsV .u64 lb).toArray] w fun e w' => e = .returned (.agg (natsV .u64 lc).toArray) ∧ Below w.heap.size w w' := by
 have L_la := Hd hla
 have L_lb := Hd hlb
 have L_lc := Hd hlc
 have HC := Hd hc
 have B0_ := Hd (((Blk.new w  65 (natsV .u64 la)).alloc (.cells (natsV .u64 lb).toArray 65)).alloc (.cells (natsV .u64 (zeros 4)).toArray 65))
 have B1_ := Hd ((Blk.new2 w (.cells (natsV .u64 la).toArray 65) 65 (natsV .u64 lb)).alloc (.cells (natsV .u64 (zeros 4)).toArray 65))
 have B2_ := Hd (Blk.new3 w (.cells (natsV .u64 la).toArray 65) (.cells (natsV .u64 lb).toArray 65) 65 (natsV .u64 (zeros 4)))
 clear hla hlb hlc hc
 have bel_ := ((((Below.refl w.heap.size w).alloc (Nat.le_refl _) (.cells (natsV .u64 la).toArray 65)).alloc (by simp) (.cells (natsV .u64 lb).toArray 65)).alloc (by simp; omega) (.cells (natsV .u64 (zeros 4)).toArray 65))
 go_enter Try.func68, Try.ntmps68
 go_wp2_with (first | (refine lm' (blk_all (B0_.out)) Try.underlying65 (i94 L_la.out) ?_) | (refine lm' (blk_all (B1_.out)) Try.underlying65 (i94 L_lb.out) ?_))
 refine (HC.out _).mono ?_
 rintro e w1 ⟨rfl, hbw1⟩
 have C2 := gq' B0_ hbw1
 have C3 := gq' B1_ hbw1
 have C4 := gq' B2_ hbw1
 have hbel5 := bel_.trans (Below.mono hbw1 bel_.size)
 clear B0_ B1_ B2_ bel_ hbw1
 go_wp2_with (first | (refine stN rfl 24 (.tmp 5) (.tmp 11) rfl w1 rfl (natsV .u64 lc) rfl 24 (natsV .u64 (zeros 4)) (i24 L_lc.out) (lz4 L_lc.out) n1' ?_; intro w6 hgw6 hnw6; have C8 := gq' C2 hgw6; clear C2; have C9 := gq' C3 hgw6; clear C3; have C10 := gq' C4 hgw6; clear C4; have hbel11 := hbel5.trans (Below.mono hgw6 hbel5.size); clear hbel5; have D12 := Hd hnw6; clear hnw6 hgw6; generalize w1.heap.size = G7 at *) | (refine lm' (blk_all (D12.out)) Try.underlying24 (i24 L_lc.out) ?_) | (refine stB rfl 65 (.tmp 4) (.tmp 13) rfl (w.heap.size + 1 + 1) rfl (natsV .u64 lc) rfl 65 (natsV .u64 (zeros 4)) C10.out (i94 L_lc.out) (lz4 L_lc.out) n1' ?_))
 refine bodyPost_ret (v := .agg (natsV .u64 lc).toArray) ?_ rfl ⟨rfl, below_setRow' hbel11 (by first | exact Nat.le_refl _ | omega) _⟩
 exact results_cell_row Try.results68 _ _ (w.heap.size + 1 + 1) 65 _ (0, 0) _ rfl (C10.out.setRow _) Try.underlying65 rfl (by simpa using (i94 L_lc.out))
theorem wrap_111 {la lb lc : List Nat} (hla : la.length = 4) (hlb : lb.length = 4) (hlc : lc.length = 4) (hc : ∀ w, Calls Try.prog 81 #[.int .i64 1, .agg (natsV .u64 la).toArray, .agg (natsV .u64 lb).toArray] w fun e w' => e = .returned (.tuple #[.agg (natsV .u64 lc).toArray, .int .i64 0]) ∧ Below w.heap.size w w') (w : World) :
   Calls Try.prog 69 #[.agg (natsV .u64 la).toArray, .agg (natsV .u64 lb).toArray] w fun e w' => e = .returned (.agg (natsV .u64 lc).toArray) ∧ Below w.heap.size w w' := by
 have L_la := Hd hla
 have L_lb := Hd hlb
 have L_lc := Hd hlc
 have HC := Hd hc
 have B0_ := Hd (((Blk.new w  65 (natsV .u64 la)).alloc (.cells (natsV .u64 lb).toArray 65)).alloc (.cells (natsV .u64 (zeros 4)).toArray 65))
 have B1_ := Hd ((Blk.new2 w (.cells (natsV .u64 la).toArray 65) 65 (natsV .u64 lb)).alloc (.cells (natsV .u64 (zeros 4)).toArray 65))
 have B2_ := Hd (Blk.new3 w (.cells (natsV .u64 la).toArray 65) (.cells (natsV .u64 lb).toArray 65) 65 (natsV .u64 (zeros 4)))
 clear hla hlb hlc hc
 have bel_ := ((((Below.refl w.heap.size w).alloc (Nat.le_refl _) (.cells (natsV .u64 la).toArray 65)).alloc (by simp) (.cells (natsV .u64 lb).toArray 65)).alloc (by simp; omega) (.cells (natsV .u64 (zeros 4)).toArray 65))
 go_enter Try.func69, Try.ntmps69
 go_wp2_with (first | (refine lm' (blk_all (B0_.out)) Try.underlying65 (i94 L_la.out) ?_) | (refine lm' (blk_all (B1_.out)) Try.underlying65 (i94 L_lb.out) ?_))
 refine (HC.out _).mono ?_
 rintro e w1 ⟨rfl, hbw1⟩
 have C2 := gq' B0_ hbw1
 have C3 := gq' B1_ hbw1
 have C4 := gq' B2_ hbw1
 have hbel5 := bel_.trans (Below.mono hbw1 bel_.size)
 clear B0_ B1_ B2_ bel_ hbw1
 go_wp2_with (first | (refine stN rfl 24 (.tmp 5) (.tmp 11) rfl w1 rfl (natsV .u64 lc) rfl 24 (natsV .u64 (zeros 4)) (i24 L_lc.out) (lz4 L_lc.out) n1' ?_; intro w6 hgw6 hnw6; have C8 := gq' C2 hgw6; clear C2; have C9 := gq' C3 hgw6; clear C3; have C10 := gq' C4 hgw6; clear C4; have hbel11 := hbel5.trans (Below.mono hgw6 hbel5.size); clear hbel5; have D12 := Hd hnw6; clear hnw6 hgw6; generalize w1.heap.size = G7 at *) | (refine lm' (blk_all (D12.out)) Try.underlying24 (i24 L_lc.out) ?_) | (refine stB rfl 65 (.tmp 4) (.tmp 13) rfl (w.heap.size + 1 + 1) rfl (natsV .u64 lc) rfl 65 (natsV .u64 (zeros 4)) C10.out (i94 L_lc.out) (lz4 L_lc.out) n1' ?_))
 refine bodyPost_ret (v := .agg (natsV .u64 lc).toArray) ?_ rfl ⟨rfl, below_setRow' hbel11 (by first | exact Nat.le_refl _ | omega) _⟩
 exact results_cell_row Try.results69 _ _ (w.heap.size + 1 + 1) 65 _ (0, 0) _ rfl (C10.out.setRow _) Try.underlying65 rfl (by simpa using (i94 L_lc.out))
theorem wrap_109 {la lc : List Nat} (hla : la.length = 4) (hlc : lc.length = 4) (hc : ∀ w, Calls Try.prog 68 #[.agg (natsV .u64 la).toArray, .agg (natsV .u64 la).toArray] w fun e w' => e = .returned (.agg (natsV .u64 lc).toArray) ∧ Below w.heap.size w w') (w : World) :
   Calls Try.prog 67 #[.agg (natsV .u64 la).toArray] w fun e w' => e = .returned (.agg (natsV .u64 lc).toArray) ∧ Below w.heap.size w w' := by
 have L_la := Hd hla
 have L_lc := Hd hlc
 have HC := Hd hc
 have B0_ := Hd ((Blk.new w  65 (natsV .u64 la)).alloc (.cells (natsV .u64 (zeros 4)).toArray 65))
 have B1_ := Hd (Blk.new2 w (.cells (natsV .u64 la).toArray 65) 65 (natsV .u64 (zeros 4)))
 have bel_ := (((Below.refl w.heap.size w).alloc (Nat.le_refl _) (.cells (natsV .u64 la).toArray 65)).alloc (by simp) (.cells (natsV .u64 (zeros 4)).toArray 65))
 clear hla hlc hc
 go_enter Try.func67, Try.ntmps67
 go_wp2_with (first | (refine lm' (blk_all (B0_.out)) Try.underlying65 (i94 L_la.out) ?_) | (refine lm' (blk_all (B0_.out)) Try.underlying65 (i94 L_la.out) ?_))
 refine (HC.out _).mono ?_
 rintro e w1 ⟨rfl, hbw1⟩
 have C2 := gq' B0_ hbw1
 have C3 := gq' B1_ hbw1
 have hbel4 := bel_.trans (Below.mono hbw1 bel_.size)
 clear B0_ B1_ bel_ hbw1
 go_wp2_with (first | (refine stB rfl 65 (.tmp 2) (.tmp 5) rfl (w.heap.size + 1) rfl (natsV .u64 lc) rfl 65 (natsV .u64 (zeros 4)) C3.out (i94 L_lc.out) (lz4 L_lc.out) n1' ?_))
 refine bodyPost_ret (v := .agg (natsV .u64 lc).toArray) ?_ rfl ⟨rfl, below_setRow' hbel4 (by first | exact Nat.le_refl _ | omega) _⟩
 exact results_cell_row Try.results67 _ _ (w.heap.size + 1) 65 _ (0, 0) _ rfl (C3.out.setRow _) Try.underlying65 rfl (by simpa using (i94 L_lc.out))
theorem wrap_72 {la lc : List Nat} (hla : la.length = 4) (hlc : lc.length = 4) (hc : ∀ w, Calls Try.prog 64 #[.agg (natsV .u64 la).toArray, .agg (natsV .u64 la).toArray] w fun e w' => e = .returned (.agg (natsV .u64 lc).toArray) ∧ Below w.heap.size w w') (w : World) :
   Calls Try.prog 43 #[.agg (natsV .u64 la).toArray] w fun e w' => e = .returned (.agg (natsV .u64 lc).toArray) ∧ Below w.heap.size w w' := by
 have L_la := Hd hla
 have L_lc := Hd hlc
 have HC := Hd hc
 have B0_ := Hd ((Blk.new w  65 (natsV .u64 la)).alloc (.cells (natsV .u64 (zeros 4)).toArray 65))
 have B1_ := Hd (Blk.new2 w (.cells (natsV .u64 la).toArray 65) 65 (natsV .u64 (zeros 4)))
 have bel_ := (((Below.refl w.heap.size w).alloc (Nat.le_refl _) (.cells (natsV .u64 la).toArray 65)).alloc (by simp) (.cells (natsV .u64 (zeros 4)).toArray 65))
 clear hla hlc hc
 go_enter Try.func43, Try.ntmps43
 go_wp2_with (first | (refine lm' (blk_all (B0_.out)) Try.underlying65 (i94 L_la.out) ?_) | (refine lm' (blk_all (B0_.out)) Try.underlying65 (i94 L_la.out) ?_))
 refine (HC.out _).mono ?_
 rintro e w1 ⟨rfl, hbw1⟩
 have C2 := gq' B0_ hbw1
 have C3 := gq' B1_ hbw1
 have hbel4 := bel_.trans (Below.mono hbw1 bel_.size)
 clear B0_ B1_ bel_ hbw1
 go_wp2_with (first | (refine stB rfl 65 (.tmp 2) (.tmp 5) rfl (w.heap.size + 1) rfl (natsV .u64 lc) rfl 65 (natsV .u64 (zeros 4)) C3.out (i94 L_lc.out) (lz4 L_lc.out) n1' ?_))
 refine bodyPost_ret (v := .agg (natsV .u64 lc).toArray) ?_ rfl ⟨rfl, below_setRow' hbel4 (by first | exact Nat.le_refl _ | omega) _⟩
 exact results_cell_row Try.results43 _ _ (w.heap.size + 1) 65 _ (0, 0) _ rfl (C3.out.setRow _) Try.underlying65 rfl (by simpa using (i94 L_lc.out))
theorem wrap_71 {la lc : List Nat} {E : Int} (hla : la.length = 4) (hlc : lc.length = 4) (hc : ∀ w, Calls Try.prog 26 #[.int .i64 1, .agg (natsV .u64 la).toArray] w fun e w' => e = .returned (.tuple #[.agg (natsV .u64 lc).toArray, .int .i64 E]) ∧ Below w.heap.size w w') (w : World) :
   Calls Try.prog 42 #[.agg (natsV .u64 la).toArray] w fun e w' => e = .returned (.agg (natsV .u64 lc).toArray) ∧ Below w.heap.size w w' := by
 have L_la := Hd hla
 have L_lc := Hd hlc
 have HC := Hd hc
 have B0_ := Hd ((Blk.new w  24 (natsV .u64 la)).alloc (.cells (natsV .u64 (zeros 4)).toArray 65))
 have B1_ := Hd (Blk.new2 w (.cells (natsV .u64 la).toArray 24) 65 (natsV .u64 (zeros 4)))
 have bel_ := (((Below.refl w.heap.size w).alloc (Nat.le_refl _) (.cells (natsV .u64 la).toArray 24)).alloc (by simp) (.cells (natsV .u64 (zeros 4)).toArray 65))
 clear hla hlc hc
 go_enter Try.func42, Try.ntmps42
 go_wp2_with (first | (refine lm' (blk_all (B0_.out)) Try.underlying24 (i24 L_la.out) ?_))
 refine (HC.out _).mono ?_
 rintro e w1 ⟨rfl, hbw1⟩
 have C2 := gq' B0_ hbw1
 have C3 := gq' B1_ hbw1
 have hbel4 := bel_.trans (Below.mono hbw1 bel_.size)
 clear B0_ B1_ bel_ hbw1
 go_wp2_with (first | (refine stN rfl 24 (.tmp 3) (.tmp 8) rfl w1 rfl (natsV .u64 lc) rfl 24 (natsV .u64 (zeros 4)) (i24 L_lc.out) (lz4 L_lc.out) n1' ?_; intro w5 hgw5 hnw5; have C7 := gq' C2 hgw5; clear C2; have C8 := gq' C3 hgw5; clear C3; have hbel9 := hbel4.trans (Below.mono hgw5 hbel4.size); clear hbel4; have D10 := Hd hnw5; clear hnw5 hgw5; generalize w1.heap.size = G6 at *) | (refine lm' (blk_all (D10.out)) Try.underlying24 (i24 L_lc.out) ?_) | (refine stB rfl 65 (.tmp 2) (.tmp 10) rfl (w.heap.size + 1) rfl (natsV .u64 lc) rfl 65 (natsV .u64 (zeros 4)) C8.out (i94 L_lc.out) (lz4 L_lc.out) n1' ?_))
 refine bodyPost_ret (v := .agg (natsV .u64 lc).toArray) ?_ rfl ⟨rfl, below_setRow' hbel9 (by first | exact Nat.le_refl _ | omega) _⟩
 exact results_cell_row Try.results42 _ _ (w.heap.size + 1) 65 _ (0, 0) _ rfl (C8.out.setRow _) Try.underlying65 rfl (by simpa using (i94 L_lc.out))
theorem wrap_114 {la lc : List Nat} {E : Int} (hla : la.length = 4) (hlc : lc.length = 4) (hc : ∀ w, Calls Try.prog 28 #[.int .i64 1, .agg (natsV .u64 la).toArray] w fun e w' => e = .returned (.tuple #[.agg (natsV .u64 lc).toArray, .int .i64 E]) ∧ Below w.heap.size w w') (w : World) :
   Calls Try.prog 65 #[.agg (natsV .u64 la).toArray] w fun e w' => e = .returned (.agg (natsV .u64 lc).toArray) ∧ Below w.heap.size w w' := by
 have L_la := Hd hla
 have L_lc := Hd hlc
 have HC := Hd hc
 have B0_ := Hd ((Blk.new w  65 (natsV .u64 la)).alloc (.cells (natsV .u64 (zeros 4)).toArray 24))
 have B1_ := Hd (Blk.new2 w (.cells (natsV .u64 la).toArray 65) 24 (natsV .u64 (zeros 4)))
 have bel_ := (((Below.refl w.heap.size w).alloc (Nat.le_refl _) (.cells (natsV .u64 la).toArray 65)).alloc (by simp) (.cells (natsV .u64 (zeros 4)).toArray 24))
 clear hla hlc hc
 go_enter Try.func65, Try.ntmps65
 go_wp2_with (first | (refine lm' (blk_all (B0_.out)) Try.underlying65 (i94 L_la.out) ?_))
 refine (HC.out _).mono ?_
 rintro e w1 ⟨rfl, hbw1⟩
 have C2 := gq' B0_ hbw1
 have C3 := gq' B1_ hbw1
 have hbel4 := bel_.trans (Below.mono hbw1 bel_.size)
 clear B0_ B1_ bel_ hbw1
 go_wp2_with (first | (refine stN rfl 24 (.tmp 3) (.tmp 8) rfl w1 rfl (natsV .u64 lc) rfl 24 (natsV .u64 (zeros 4)) (i24 L_lc.out) (lz4 L_lc.out) n1' ?_; intro w5 hgw5 hnw5; have C7 := gq' C2 hgw5; clear C2; have C8 := gq' C3 hgw5; clear C3; have hbel9 := hbel4.trans (Below.mono hgw5 hbel4.size); clear hbel4; have D10 := Hd hnw5; clear hnw5 hgw5; generalize w1.heap.size = G6 at *) | (refine lm' (blk_all (D10.out)) Try.underlying24 (i24 L_lc.out) ?_) | (refine stB rfl 24 (.tmp 2) (.tmp 10) rfl (w.heap.size + 1) rfl (natsV .u64 lc) rfl 24 (natsV .u64 (zeros 4)) C8.out (i24 L_lc.out) (lz4 L_lc.out) n1' ?_))
 refine bodyPost_ret (v := .agg (natsV .u64 lc).toArray) ?_ rfl ⟨rfl, below_setRow' hbel9 (by first | exact Nat.le_refl _ | omega) _⟩
 exact results_cell_row Try.results65 _ _ (w.heap.size + 1) 24 _ (0, 0) _ rfl (C8.out.setRow _) Try.underlying24 rfl (by simpa using (i24 L_lc.out))
theorem wrap_118 {la lc : List Nat} {E : Int} (hla : la.length = 4) (hlc : lc.length = 4) (hc : ∀ w, Calls Try.prog 29 #[.int .i64 1, .agg (natsV .u64 la).toArray] w fun e w' => e = .returned (.tuple #[.agg (natsV .u64 lc).toArray, .int .i64 E]) ∧ Below w.heap.size w w') (w : World) :
   Calls Try.prog 63 #[.agg (natsV .u64 la).toArray] w fun e w' => e = .returned (.agg (natsV .u64 lc).toArray) ∧ Below w.heap.size w w' := by
 have L_la := Hd hla
 have L_lc := Hd hlc
 have HC := Hd hc
 have B0_ := Hd ((Blk.new w  65 (natsV .u64 la)).alloc (.cells (natsV .u64 (zeros 4)).toArray 65))
 have B1_ := Hd (Blk.new2 w (.cells (natsV .u64 la).toArray 65) 65 (natsV .u64 (zeros 4)))
 have bel_ := (((Below.refl w.heap.size w).alloc (Nat.le_refl _) (.cells (natsV .u64 la).toArray 65)).alloc (by simp) (.cells (natsV .u64 (zeros 4)).toArray 65))
 clear hla hlc hc
 go_enter Try.func63, Try.ntmps63
 go_wp2_with (first | (refine lm' (blk_all (B0_.out)) Try.underlying65 (i94 L_la.out) ?_))
 refine (HC.out _).mono ?_
 rintro e w1 ⟨rfl, hbw1⟩
 have C2 := gq' B0_ hbw1
 have C3 := gq' B1_ hbw1
 have hbel4 := bel_.trans (Below.mono hbw1 bel_.size)
 clear B0_ B1_ bel_ hbw1
 go_wp2_with (first | (refine stN rfl 24 (.tmp 3) (.tmp 8) rfl w1 rfl (natsV .u64 lc) rfl 24 (natsV .u64 (zeros 4)) (i24 L_lc.out) (lz4 L_lc.out) n1' ?_; intro w5 hgw5 hnw5; have C7 := gq' C2 hgw5; clear C2; have C8 := gq' C3 hgw5; clear C3; have hbel9 := hbel4.trans (Below.mono hgw5 hbel4.size); clear hbel4; have D10 := Hd hnw5; clear hnw5 hgw5; generalize w1.heap.size = G6 at *) | (refine lm' (blk_all (D10.out)) Try.underlying24 (i24 L_lc.out) ?_) | (refine stB rfl 65 (.tmp 2) (.tmp 10) rfl (w.heap.size + 1) rfl (natsV .u64 lc) rfl 65 (natsV .u64 (zeros 4)) C8.out (i94 L_lc.out) (lz4 L_lc.out) n1' ?_))
 refine bodyPost_ret (v := .agg (natsV .u64 lc).toArray) ?_ rfl ⟨rfl, below_setRow' hbel9 (by first | exact Nat.le_refl _ | omega) _⟩
 exact results_cell_row Try.results63 _ _ (w.heap.size + 1) 65 _ (0, 0) _ rfl (C8.out.setRow _) Try.underlying65 rfl (by simpa using (i94 L_lc.out))
theorem cbelow_any (x : Nat) (hx : x < 2 ^ 256) (w : World) :
   Calls Try.prog 41 #[.agg (natsV .u64 (wds 4 x)).toArray] w fun e w' => e = .returned (.bool (decide (x < mP))) ∧ Below w.heap.size w w' := by
 have HM := Hd (fun w => Modulus_ok 1 mP 1 vP w .p)
 have HC := Hd (fun w => Cmp_any x mP w hx fld_P.lt)
 have L_la := Hd (wds_len 4 x)
 have L_lm := Hd (wds_len 4 mP)
 obtain ⟨c, hc⟩ : ∃ c, c = cmpZ x mP := ⟨_, rfl⟩
 rw [← hc] at HC
 have hb : decide (x < mP) = decide (c < 0) := by
   rw [hc]; unfold cmpZ
   by_cases h1 : x < mP
   · rw [if_pos h1, decide_eq_true h1]; rfl
   · rw [if_neg h1, decide_eq_false h1]; split <;> rfl
 rw [hb]
 clear hb hc hx
 generalize wds 4 x = la at *
 generalize wds 4 mP = lm at *
 have B0_ := Hd (Blk.new w  24 (natsV .u64 la))
 have bel_ := ((Below.refl w.heap.size w).alloc (Nat.le_refl _) (.cells (natsV .u64 la).toArray 24))
 go_enter Try.func41, Try.ntmps41
 go_wp2_with fail
 refine (HM.out _).mono ?_
 rintro e w1 ⟨rfl, hbw1⟩
 have C2 := gq' B0_ hbw1
 have hbel3 := bel_.trans (Below.mono hbw1 bel_.size)
 clear B0_ bel_ hbw1
 go_wp2_with (first | (refine stN rfl 24 (.tmp 3) (.tmp 7) rfl w1 rfl (natsV .u64 lm) rfl 24 (natsV .u64 (zeros 4)) (i24 L_lm.out) (lz4 L_lm.out) n1' ?_; intro w4 hgw4 hnw4; have C6 := gq' C2 hgw4; clear C2; have hbel7 := hbel3.trans (Below.mono hgw4 hbel3.size); clear hbel3; have D8 := Hd hnw4; clear hnw4 hgw4; generalize w1.heap.size = G5 at *) | (refine lm' (blk_all (C6.out)) Try.underlying24 (i24 L_la.out) ?_) | (refine lm' (blk_all (D8.out)) Try.underlying24 (i24 L_lm.out) ?_))
 refine (HC.out _).mono ?_
 rintro e w9 ⟨rfl, hbw9⟩
 have C10 := gq' C6 hbw9
 have C11 := gq' D8 hbw9
 have hbel12 := hbel7.trans (Below.mono hbw9 hbel7.size)
 clear C6 D8 hbel7 hbw9
 go_wp2_with fail
 go_ret
 exact ⟨rfl, hbel12⟩
theorem cinf_any (w : World) :
   Calls Try.prog 20 #[] w fun e w' => e = .returned (.agg (pv (zeros 4) (zeros 4) true).toArray) ∧ Below w.heap.size w w' := by
 have B0_ := Hd (Blk.new w  32 (pv (zeros 4) (zeros 4) false))
 have bel_ := ((Below.refl w.heap.size w).alloc (Nat.le_refl _) (.cells (pv (zeros 4) (zeros 4) false).toArray 32))
 go_enter Try.func20, Try.ntmps20
 go_wp2_with (first | (refine stB rfl 32 (.tmp 0) (.tmp 1) rfl w.heap.size rfl (pv (zeros 4) (zeros 4) true) rfl 32 (pv (zeros 4) (zeros 4) false) B0_.out (i43 rfl rfl) (lenEq pz9 (show (pv (zeros 4) (zeros 4) true).length = 9 from rfl)) p1_ ?_))
 refine bodyPost_ret (v := .agg (pv (zeros 4) (zeros 4) true).toArray) ?_ rfl ⟨rfl, below_setRow' bel_ (by first | exact Nat.le_refl _ | omega) _⟩
 exact results_cell_row Try.results20 _ _ w.heap.size 32 _ (0, 0) _ rfl (B0_.out.setRow _) Try.underlying32 rfl (by simpa using (i43 rfl rfl))
theorem isinf {lx ly lz : List Nat} (hlx : lx.length = 4) (hly : ly.length = 4) (hlz : lz.length = 4) (w : World) :
   Calls Try.prog 62 #[.agg (tv lx ly lz).toArray] w fun e w' => e = .returned (.bool (decide (lz = zeros 4))) ∧ Below w.heap.size w w' := by
 have L_lx := Hd hlx
 have L_ly := Hd hly
 have L_lz := Hd hlz
 have q := fun w => eqZ94 lz L_lz.out w
 have B0_ := Hd (Blk.new w  67 (tv lx ly lz))
 have bel_ := ((Below.refl w.heap.size w).alloc (Nat.le_refl _) (.cells (tv lx ly lz).toArray 67))
 clear hlx hly hlz
 go_enter Try.func62, Try.ntmps62
 go_wp2_with (first | (refine lm' (tv_z (B0_.out) L_lx.out L_ly.out) Try.underlying65 (i94 L_lz.out) ?_))
 go_ret
 exact ⟨rfl, bel_⟩
theorem rside {la lbc ld l3 ls lc lm lr : List Nat} (hla : la.length = 4) (hlbc : lbc.length = 4) (hld : ld.length = 4) (hl3 : l3.length = 4) (hls : ls.length = 4) (hlc : lc.length = 4) (hlm : lm.length = 4) (hlr : lr.length = 4)
   (c1 : Ans 42 #[.agg #[.int .u64 4309448131093880907, .int .u64 7285987128567378166, .int .u64 12964664127075681980, .int .u64 6540974713487397863]] (.agg (natsV .u64 lbc).toArray))
   (c2 : Ans 67 #[.agg (natsV .u64 la).toArray] (.agg (natsV .u64 ld).toArray))
   (c3 : Ans 68 #[.agg (natsV .u64 ld).toArray, .agg (natsV .u64 la).toArray] (.agg (natsV .u64 l3).toArray))
   (c4 : Ans 43 #[.agg (natsV .u64 la).toArray] (.agg (natsV .u64 ls).toArray))
   (c5 : Ans 64 #[.agg (natsV .u64 ls).toArray, .agg (natsV .u64 la).toArray] (.agg (natsV .u64 lc).toArray))
   (c6 : Ans 69 #[.agg (natsV .u64 lc).toArray, .agg (natsV .u64 l3).toArray] (.agg (natsV .u64 lm).toArray))
   (c7 : Ans 68 #[.agg (natsV .u64 lm).toArray, .agg (natsV .u64 lbc).toArray] (.agg (natsV .u64 lr).toArray)) (w : World) :
   Calls Try.prog 44 #[.agg (natsV .u64 la).toArray] w fun e w' => e = .returned (.agg (natsV .u64 lr).toArray) ∧ Below w.heap.size w w' := by
 have L_la := Hd hla
 have L_lbc := Hd hlbc
 have L_ld := Hd hld
 have L_l3 := Hd hl3
 have L_ls := Hd hls
 have L_lc := Hd hlc
 have L_lm := Hd hlm
 have L_lr := Hd hlr
 have Hc1 := Hd c1
 have Hc2 := Hd c2
 have Hc3 := Hd c3
 have Hc4 := Hd c4
 have Hc5 := Hd c5
 have Hc6 := Hd c6
 have Hc7 := Hd c7
 have B0_ := Hd ((Blk.new w  65 (natsV .u64 la)).alloc (.cells (natsV .u64 (zeros 4)).toArray 65))
 have B1_ := Hd (Blk.new2 w (.cells (natsV .u64 la).toArray 65) 65 (natsV .u64 (zeros 4)))
 have bel_ := (((Below.refl w.heap.size w).alloc (Nat.le_refl _) (.cells (natsV .u64 la).toArray 65)).alloc (by simp) (.cells (natsV .u64 (zeros 4)).toArray 65))
 clear hla hlbc hld hl3 hls hlc hlm hlr c1 c2 c3 c4 c5 c6 c7
 go_enter Try.func44, Try.ntmps44
 go_wp2_with fail
 refine (Hc1.out _).mono ?_
 rintro e w1 ⟨rfl, hbw1⟩
 have C2 := gq' B0_ hbw1
 have C3 := gq' B1_ hbw1
 have hbel4 := bel_.trans (Below.mono hbw1 bel_.size)
 clear B0_ B1_ bel_ hbw1
 go_wp2_with (first | (refine stN rfl 65 (.tmp 3) (.tmp 6) rfl w1 rfl (natsV .u64 lbc) rfl 65 (natsV .u64 (zeros 4)) (i94 L_lbc.out) (lz4 L_lbc.out) n1' ?_; intro w5 hgw5 hnw5; have C8 := gq' C2 hgw5; clear C2; have C9 := gq' C3 hgw5; clear C3; have hbel10 := hbel4.trans (Below.mono hgw5 hbel4.size); clear hbel4; have D7 := Hd hnw5; clear hnw5 hgw5; generalize w1.heap.size = G6 at *))
 as_aux_lemma =>
 refine wp_region_G (fun w_ => Blk w_ w.heap.size 65 (natsV .u64 la)) 5 (by kernel_rfl) C8.out.drew ?_
 refine tk gS1 0 rfl (lg' (fun _ hS_ => blk_all (hS_)) Try.underlying65 (i94 L_la.out)) ?_
 try simp only [Act.put, zq]
 refine tk gS1 1 rfl (cg' Try.func67 (fun w _ => Hc2.out w)) ?_
 try simp only [Act.put, zq]
 refine tk gS1 2 rfl (lg' (fun _ hS_ => blk_all (hS_)) Try.underlying65 (i94 L_la.out)) ?_
 try simp only [Act.put, zq]
 refine tk gS1 3 rfl (cg' Try.func68 (fun w _ => Hc3.out w)) ?_
 try simp only [Act.put, zq]
 refine wpAnyG_def (i := 4) (j := 5) gS1 (by kernel_rfl) (by kernel_rfl) (by kernel_rfl) rfl rfl rfl (allocG (by rfl) rfl _ alloc94) (lz4 L_l3.out) (fun _ => StoresG.mk (cs := (natsV .u64 l3)) (by rfl) 65 _ _ rfl rfl rfl (i94 L_l3.out) n1') ?_
 intro w11 G12 hgw11 hz_ hn_
 try simp only [Act.put, zq]
 have E13 := dq' C8 hgw11
 have E14 := dq' C9 hgw11
 have E15 := dq' D7 hgw11
 have hbel16 := hbel10.drew.trans (Below.mono hgw11 hbel10.drew.size)
 have D17 := Hd hn_
 clear C8 C9 D7 hbel10 hn_ hz_ hgw11
 as_aux_lemma =>
 go_wp2_with fail
 as_aux_lemma =>
 refine wp_region_G (fun w_ => Blk w_ w.heap.size 65 (natsV .u64 la) ∧ Blk w_ G12 65 (natsV .u64 l3) ∧ Blk w_ G6 65 (natsV .u64 lbc)) 8 (by kernel_rfl) ⟨E13.out.drew, D17.out.drew, E15.out.drew⟩ ?_
 refine tk gS3 0 rfl (lg' (fun _ hS_ => blk_all (hS_.1)) Try.underlying65 (i94 L_la.out)) ?_
 try simp only [Act.put, zq]
 refine tk gS3 1 rfl (cg' Try.func43 (fun w _ => Hc4.out w)) ?_
 try simp only [Act.put, zq]
 refine tk gS3 2 rfl (lg' (fun _ hS_ => blk_all (hS_.1)) Try.underlying65 (i94 L_la.out)) ?_
 try simp only [Act.put, zq]
 refine tk gS3 3 rfl (cg' Try.func64 (fun w _ => Hc5.out w)) ?_
 try simp only [Act.put, zq]
 refine tk gS3 4 rfl (lg' (fun _ hS_ => blk_all (hS_.2.1)) Try.underlying65 (i94 L_l3.out)) ?_
 try simp only [Act.put, zq]
 refine tk gS3 5 rfl (cg' Try.func69 (fun w _ => Hc6.out w)) ?_
 try simp only [Act.put, zq]
 refine tk gS3 6 rfl (lg' (fun _ hS_ => blk_all (hS_.2.2)) Try.underlying65 (i94 L_lbc.out)) ?_
 try simp only [Act.put, zq]
 refine tk gS3 7 rfl (cg' Try.func68 (fun w _ => Hc7.out w)) ?_
 try simp only [Act.put, zq]
 refine wpAnyG_set (i := 8) (by kernel_rfl) (by kernel_rfl) rfl rfl E14.out.drew (lz4 L_lr.out) (StoresG.mk (cs := (natsV .u64 lr)) (by rfl) 65 _ _ rfl rfl rfl (i94 L_lr.out) n1') ?_
 intro w18 hgw18 hn_
 try simp only [Act.put, zq]
 have hbel19 := belStore hbel16.drew hgw18 (show w.heap.size ≤ (w.heap.size + 1) by omega)
 have D20 := Hd hn_
 go_wp2_with fail
 refine bodyPost_ret (v := .agg (natsV .u64 lr).toArray) ?_ rfl ⟨rfl, hbel19⟩
 exact results_cell_row Try.results44 _ _ (w.heap.size + 1) 65 _ (0, 0) _ rfl D20.out Try.underlying65 rfl (by simpa using (i94 L_lr.out))
theorem built2p {a b c d : List Nat} {i j : Bool} (ha : a.length = 4) (hb : b.length = 4) (hc : c.length = 4) (hd : d.length = 4) : Try.prog.builtSlice 32 2 [(0, .agg (pv a b i).toArray), (1, .agg (pv c d j).toArray)] = some (pv a b i ++ pv c d j).toArray := by
 obtain ⟨_, _, _, _, rfl⟩ := four_ol ha; obtain ⟨_, _, _, _, rfl⟩ := four_ol hb
 obtain ⟨_, _, _, _, rfl⟩ := four_ol hc; obtain ⟨_, _, _, _, rfl⟩ := four_ol hd
 kernel_rfl
section
variable {w : World} {ops : Array Oper} {rest : List Oper} {o : Oper} {a : Act} {Q : Exit → Act → World → Prop}
theorem bs2p (hgd : o.guard = none) (x y : Operand) (ho : o.op = .buildSlice 92 2 #[(0, x), (1, y)]) {c d e f : List Nat} {i j : Bool} (hx : a.eval x = .agg (pv c d i).toArray) (hy : a.eval y = .agg (pv e f j).toArray) (hc : c.length = 4) (hd : d.length = 4) (he : e.length = 4) (hf : f.length = 4)
   (h : wpList Try.prog ops Q rest (a.put o.dst (.slice (some ⟨w.heap.size, 0, none⟩) 2 2)) (w.alloc (.cells (pv c d i ++ pv e f j).toArray 32))) : wpList Try.prog ops Q (o :: rest) a w :=
 Great.wpList_buildSliceTo hgd 92 32 2 _ ho _ rfl _ rfl Try.underlying92 _ (by simp only [List.map_toArray, List.map_cons, List.map_nil, hx, hy]; exact built2p hc hd he hf) h
end
theorem two_r {w : World} {g k : Nat} {t : TypeId} {x y : List Value} (h : Blk w g t (x ++ y)) (hk : x.length = k) : w.rangeAt g 0 x ∧ w.rangeAt g k y :=
 ⟨blk_part (a := []) (b := x) (c := y) h rfl, blk_part (a := x) (b := y) (c := []) (by rw [List.append_nil]; exact h) hk⟩
theorem Blk.newAt {W : World} {g : Nat} (t : TypeId) (cs : List Value) (h : W.heap.size = g) : Blk (W.alloc (.cells cs.toArray t)) g t cs := h ▸ Blk.new W t cs
section
variable {P : Program} {ops : Array Oper} {Q : Exit → Act → World → Prop} {md : Region.Mode} {S : World → Prop}
def lstK (n k : Nat) : Array Bool := (List.range k).foldl (fun l i => l.setIfInBounds i true) (Array.replicate n false)
theorem lstK_succ (n k : Nat) : lstK n (k + 1) = (lstK n k).setIfInBounds k true := by unfold lstK; rw [List.range_succ, List.foldl_append]; rfl
def orderOk (md : Region.Mode) (ops : Array Oper) : Bool := (List.range ops.size).all fun k => (Region.ready md ops (lstK ops.size k)).contains k
theorem wpOps_of_any (n : Nat) : ∀ (m k : Nat) (a : Act) (w : World), (∀ j, k ≤ j → j < k + m → j ∈ Region.ready md ops (lstK n j)) → wpAny P md ops Q m (lstK n k) a w → wpOps P ops Q (List.range' k m) a w
 | 0, k, a, w, _, h => h.2
 | m + 1, k, a, w, hr, h => by
   rw [List.range'_succ, wpOps_cons]
   refine wpOp_mono (fun a' w' h' => wpOps_of_any n m (k + 1) a' w' (fun j h1 h2 => hr j (by omega) (by omega)) (by rw [lstK_succ]; exact h')) (h.2 k (hr k (Nat.le_refl _) (by omega)))
theorem wp_region_P {id : Nat} {a : Act} {w : World} (S : World → Prop) (L : Nat) (hm : orderOk .any ops = true) (hS : S w)
   (h : wpAnyG P .any ops Q S L ops.size (Array.replicate ops.size false) a w) : (Code.region id ops false).wp P Q a w := by
 refine wp_region ?_
 rw [List.range_eq_range']
 refine wpOps_of_any (md := .any) ops.size ops.size 0 a w (fun j _ hj => ?_) (wpAny_of_G _ _ _ _ (.inr hS) h)
 have := List.all_eq_true.1 hm j (List.mem_range.2 (by omega))
 simpa using this
end
section
variable {P : Program} {ops : Array Oper} {Q : Exit → Act → World → Prop} {md : Region.Mode} {S : World → Prop}
theorem worldG {o : Oper} {v : Value} {a : Act} (hw : Region.wanted o (yielded ops a.tmps) = true) (hrun : ∀ w, S w → (execOp a.eval o).run P w = .ok (.value v) w) : YieldsG P ops S o v a :=
 .inl ⟨hw, fun w h => .inl (hrun w h)⟩
end
theorem bin_cell {w w' : World} {b off n c : Nat} {l : List Nat} (h : BIn w (some ⟨b, off, none⟩) n c l) (hb : Below w.heap.size w w') (i : Nat) (hi : i < n) : w'.cell? ⟨b, off + i, none⟩ = some (.int .u8 (l.getD i 0 : Nat)) := by
 obtain ⟨b2, o2, he, hc⟩ := h.1.2.2.2.resolve_left (by omega)
 injection he with he
 injection he with e1 e2
 subst e1 e2
 exact (hb.cell (World.block_lt_of_cell? w _ (hc i hi))).trans (hc i hi)
theorem gr_bel {w0 w w' : World} (h : Below w0.heap.size w0 w) (hb : Gr w w') : Below w0.heap.size w0 w' := h.trans (Below.mono hb h.size)
theorem bin_one (w : World) (y : Nat) (hy : y < 256) : BIn (w.alloc (.cells #[.int .u8 (y : Nat)] 5)) (some ⟨w.heap.size, 0, none⟩) 1 1 [y] := by
 refine ⟨⟨rfl, by unfold maxLen; omega, by simpa using hy, .inr ⟨w.heap.size, 0, rfl, ?_⟩⟩, Nat.le_refl _, by unfold maxLen; omega, by omega, fun h => by cases h⟩
 intro i hi
 obtain rfl : i = 0 := by omega
 simp
theorem own_form {w : World} {base n : Nat} {v : Value} {xs : List Value} (h : w.ownsRow base 5 1 v n xs) (hn : 0 < n) : ∃ G cap, v = .slice (some ⟨G, 0, none⟩) n cap ∧ n ≤ cap ∧ cap ≤ maxLen ∧ base ≤ G := by
 rcases h.2 with ⟨_, h0⟩ | ⟨G, cap, cur, e1, e2, e3, e4, e5, _⟩
 · omega
 · exact ⟨G, cap, e1, e4, e5, e2⟩
theorem own_base {w : World} {B base n : Nat} {v : Value} {xs : List Value} (h : w.ownsRow base 5 1 v n xs) (hB : B ≤ base) : w.ownsRow B 5 1 v n xs := by
 refine ⟨h.1, ?_⟩
 rcases h.2 with h2 | ⟨G, cap, cur, e1, e2, e3⟩
 · exact .inl h2
 · exact .inr ⟨G, cap, cur, e1, Nat.le_trans hB e2, e3⟩
theorem bin_blk {w : World} {g : Nat} {t : TypeId} {l : List Nat} (h : Blk w g t (natsV .u8 l)) (hl : l.length = 32) (hb : ∀ x ∈ l, x < 256) : BIn w (some ⟨g, 0, none⟩) 32 32 l := by
 refine ⟨⟨hl, by unfold maxLen; omega, hb, .inr ⟨g, 0, rfl, fun i hi => ?_⟩⟩, Nat.le_refl _, by unfold maxLen; omega, by omega, fun h => by cases h⟩
 have k := h.nat i (by omega)
 rw [Nat.zero_add]; exact k
theorem mk_made (n : Nat) (hn : n ≤ maxLen) (w : World) : (w.alloc (.cells (natsV .u8 (zeros n)).toArray 5)).ownsRow w.heap.size 5 1 (.slice (some ⟨w.heap.size, 0, none⟩) 0 n) 0 (bytesV []) :=
 World.ownsRow_made w _ n (Nat.le_refl _) hn (by simp [natsV, zeros])
theorem hmk65 (w : World) : (Instr.makeSlice 25 (.int .i64 0) (.int .i64 65)).run Try.prog w = .ok (.slice (some ⟨w.heap.size, 0, none⟩) 0 65) (w.alloc (.cells (natsV .u8 (zeros 65)).toArray 5)) := by kernel_rfl
theorem info90' : (Try.prog.info? 49).map (·.size) = some 32 := by kernel_rfl
theorem i90 {l : List Nat} (h : l.length = 32) : (Try.prog.info? 49).map (·.size) = some (natsV .u8 l).length := by rw [info90', natsV_length, h]
theorem alloc90 (w : World) : (Instr.alloc 49 true (.tuple #[])).run Try.prog w = .ok (.pointer (some ⟨w.heap.size, 0, none⟩)) (w.alloc (.cells (natsV .u8 (zeros 32)).toArray 49)) := by go_simp; rfl
theorem enc_ok {lx ly B1 B2 : List Nat} (w : World) (hlx : lx.length = 4) (hly : ly.length = 4) (hB1 : B1.length = 32) (hB2 : B2.length = 32)
   (hb1 : ∀ x ∈ B1, x < 256)
   (hb2 : ∀ x ∈ B2, x < 256)
   (c1 : Ans 20 #[] (.agg (pv (zeros 4) (zeros 4) true).toArray))
   (c2 : Ans 21 #[.agg (pv lx ly false).toArray] (.bool true))
   (c3 : Ans 22 #[.agg (natsV .u64 lx).toArray] (.agg (natsV .u8 B1).toArray))
   (c4 : Ans 22 #[.agg (natsV .u64 ly).toArray] (.agg (natsV .u8 B2).toArray)) :
   Calls Try.prog 9 #[.agg (pv lx ly false).toArray] w (ListOwn 65 ([4] ++ B1 ++ B2) w) := by
 have L_lx := Hd hlx
 have L_ly := Hd hly
 have L_B1 := Hd hB1
 have L_B2 := Hd hB2
 have Hc1 := Hd c1
 have Hc2 := Hd c2
 have Hc3 := Hd c3
 have Hc4 := Hd c4
 have HB1 := Hd hb1
 have HB2 := Hd hb2
 have QE := Hd (fun w => (eql43 lx ly (zeros 4) (zeros 4) false true L_lx.out L_ly.out rfl rfl w).trans (by rw [decide_eq_false (fun h => by cases h.2.2)]))
 have B0_ := Hd (Blk.new w  32 (pv lx ly false))
 have bel_ := ((Below.refl w.heap.size w).alloc (Nat.le_refl _) (.cells (pv lx ly false).toArray 32))
 clear hlx hly hB1 hB2 c1 c2 c3 c4 hb1 hb2
 go_enter Try.func9, Try.ntmps9
 go_wp2_with fail
 as_aux_lemma =>
 refine wp_region_G (fun w_ => Blk w_ w.heap.size 32 (pv lx ly false)) 8 (by kernel_rfl) B0_.out.drew ?_
 refine tk gS1 0 rfl (lg' (fun _ hS_ => blk_all (hS_)) Try.underlying32 (i43 L_lx.out L_ly.out)) ?_
 try simp only [Act.put, zq]
 refine tk gS1 1 rfl (cg' Try.func20 (fun W_ _ => Hc1.out W_)) ?_
 try simp only [Act.put, zq]
 refine tk gS1 2 rfl (pureG (by rfl) (by intro w; have q := QE.out; go_simp; first | done | with_reducible rfl)) ?_
 try simp only [Act.put, zq]
 refine tkp gS1 3 rfl ?_
 try simp only [Act.put, zq]
 refine tk gS1 4 rfl (lg' (fun _ hS_ => blk_all (hS_)) Try.underlying32 (i43 L_lx.out L_ly.out)) ?_
 try simp only [Act.put, zq]
 refine tk gS1 5 rfl (cg' Try.func21 (fun W_ _ => Hc2.out W_)) ?_
 try simp only [Act.put, zq]
 refine tkp gS1 6 rfl ?_
 try simp only [Act.put, zq]
 refine tkp gS1 7 rfl ?_
 try simp only [Act.put, zq]
 refine wpAnyG_done (by kernel_rfl) ?_ _
 intro w1 hgw1
 try simp only [Act.put, zq]
 have E2 := dq' B0_ hgw1
 have hbel3 := bel_.drew.trans (Below.mono hgw1 bel_.drew.size)
 clear B0_ bel_ hgw1
 as_aux_lemma =>
 go_wp2_with fail
 as_aux_lemma =>
 refine wp_region_G (fun w_ => Blk w_ w.heap.size 32 (pv lx ly false)) 9 (by kernel_rfl) E2.out.drew ?_
 refine tkp gS1 0 rfl ?_
 try simp only [Act.put, zq]
 refine tk gS1 1 rfl (lg' (fun _ hS_ => pv_x (hS_)) Try.underlying24 (i24 L_lx.out)) ?_
 try simp only [Act.put, zq]
 refine tk gS1 2 rfl (cg' Try.func22 (fun W_ _ => Hc3.out W_)) ?_
 try simp only [Act.put, zq]
 refine tkp gS1 3 rfl ?_
 try simp only [Act.put, zq]
 refine tk gS1 4 rfl (lg' (fun _ hS_ => pv_y (hS_) L_lx.out) Try.underlying24 (i24 L_ly.out)) ?_
 try simp only [Act.put, zq]
 refine tk gS1 5 rfl (cg' Try.func22 (fun W_ _ => Hc4.out W_)) ?_
 try simp only [Act.put, zq]
 refine wpAnyG_def2 (i := 6) (j := 7) (k := 8) (l := 9) gS1 (by kernel_rfl) (by kernel_rfl) (by kernel_rfl) (by kernel_rfl) (by kernel_rfl) (by kernel_rfl) (by decide) rfl rfl rfl rfl rfl (allocG (by rfl) rfl _ alloc90) (allocG (by rfl) rfl _ alloc90) (fun _ => allocG (by rfl) rfl _ alloc90) (fun _ => allocG (by rfl) rfl _ alloc90) (fun _ _ => rfl) (lenEq (show (natsV .u8 (zeros 32)).length = 32 from rfl) (nl' L_B1.out)) (lenEq (show (natsV .u8 (zeros 32)).length = 32 from rfl) (nl' L_B2.out)) (fun _ _ => StoresG.mk (cs := (natsV .u8 B1)) (by rfl) 49 _ _ rfl rfl rfl (i90 L_B1.out) n1') (fun _ _ => StoresG.mk (cs := (natsV .u8 B2)) (by rfl) 49 _ _ rfl rfl rfl (i90 L_B2.out) n1') (fun g_ w_ hS_ hz_ hb_ => (hS_.gr hb_).row _ (Nat.ne_of_lt (Nat.lt_of_lt_of_le hS_.lt hz_))) (E2.out.drew) ?_
 intro w4 G5 G6 hgw4 hz_ hz2_ hne_ hn_ hn2_
 try simp only [Act.put, zq]
 have E7 := dq' E2 hgw4
 have hbel8 := hbel3.drew.trans (Below.mono hgw4 hbel3.drew.size)
 have D9 := Hd hn_
 have D10 := Hd hn2_
 clear E2 hbel3 hn_ hn2_ hz_ hz2_ hne_ hgw4
 as_aux_lemma =>
 have hmk := hmk65
 have HZ := Hd ((mk_made 65 (by unfold maxLen; omega) w4).alloc (.cells #[.int .u8 (4 : Nat)] 5))
 have HN : Hid (BIn ((w4.alloc (.cells (natsV .u8 (zeros 65)).toArray 5)).alloc (.cells #[.int .u8 (4 : Nat)] 5)) (some ⟨w4.heap.size + 1, 0, none⟩) 1 1 [4]) := Hd (by have h := bin_one (w4.alloc (.cells (natsV .u8 (zeros 65)).toArray 5)) 4 (by decide); rw [show (w4.alloc (.cells (natsV .u8 (zeros 65)).toArray 5)).heap.size = w4.heap.size + 1 by simp] at h; exact h)
 have hb0 := ((Below.refl w4.heap.size w4).alloc (Nat.le_refl _) (.cells (natsV .u8 (zeros 65)).toArray 5)).alloc (by simp) (.cells #[.int .u8 (4 : Nat)] 5)
 go_wp2_with (at_builtin; refine wpList_append_bytes _ rfl _ _ rfl w4.heap.size (.slice (some ⟨w4.heap.size, 0, none⟩) 0 65) 0 [] rfl HZ.out (some ⟨w4.heap.size + 1, 0, none⟩) 1 1 [4] rfl HN.out ?c1A11 ?c2A11 ?_)
 case c1A11 => omega
 case c2A11 => exact hb0.size
 intro vA11 w12 oA11 gA11
 have nA11 := hb0.grown gA11 hb0.size (fun j hj => (HZ.out.lt j hj).1)
 have H1 := Hd (show w12.ownsRow w4.heap.size 5 1 vA11 1 (bytesV [4]) from oA11)
 have HX := Hd (bin_blk (D9.out.gr nA11) L_B1.out HB1.out)
 clear hmk HZ HN hb0 oA11 gA11
 go_wp2_with (at_builtin; refine wpList_append_bytes _ rfl _ _ rfl w4.heap.size vA11 1 ([4]) rfl H1.out (some ⟨G5, 0, none⟩) 32 32 B1 rfl HX.out ?c1A13 ?c2A13 ?_)
 case c1A13 => omega
 case c2A13 => exact nA11.size
 intro vA13 w14 oA13 gA13
 have nA13 := nA11.grown gA13 nA11.size (fun j hj => (H1.out.lt j hj).1)
 have H33 := Hd (show w14.ownsRow w4.heap.size 5 1 vA13 33 (bytesV ([4] ++ B1)) from oA13)
 clear HX nA11 oA13 gA13
 have HX := Hd (bin_blk (D10.out.gr nA13) L_B2.out HB2.out)
 go_wp2_with (at_builtin; refine wpList_append_bytes _ rfl _ _ rfl w4.heap.size vA13 33 ([4] ++ B1) rfl H33.out (some ⟨G6, 0, none⟩) 32 32 B2 rfl HX.out ?c1A15 ?c2A15 ?_)
 case c1A15 => omega
 case c2A15 => exact nA13.size
 intro vA15 w16 oA15 gA15
 have nA15 := nA13.grown gA15 nA13.size (fun j hj => (H33.out.lt j hj).1)
 have H65 := Hd (show w16.ownsRow w4.heap.size 5 1 vA15 65 (bytesV ([4] ++ B1 ++ B2)) from oA15)
 clear HX nA13 oA15 gA15
 obtain ⟨G, cap, e65, _⟩ := own_form H65.out (by decide)
 rw [e65] at H65
 subst e65
 go_wp2_with fail
 go_ret2
 exact ⟨G, cap, rfl, own_base H65.out hbel8.size, hbel8.trans (Below.mono nA15 hbel8.size)⟩
theorem neq24 (a b : List Nat) (ha : a.length = 4) (hb : b.length = 4) (w : World) : (binOp .neq 24 (.agg (natsV .u64 a).toArray) (.agg (natsV .u64 b).toArray)).run Try.prog w = .ok (.bool (!decide (a = b))) w := by
 cases hq : Try.prog.info? 22 with
 | none => have := info22; simp [hq] at this
 | some ti =>
   have hs : ti.size = 1 := by have := info22; simpa [hq] using this
   rw [run_neq_struct, run_equalIn_array w 9999 _ _ Try.underlying24 hq, cells23, eqItems_nats w 9998 22 .u64 Try.underlying22 (by rw [hq]; simp [hs]) a b (List.range 4) (fun i hi => by have := List.mem_range.1 hi; omega), items_eq a b 4 ha hb]
   rfl
end Go.Proofs.Ytdkkombpkojjaaa
