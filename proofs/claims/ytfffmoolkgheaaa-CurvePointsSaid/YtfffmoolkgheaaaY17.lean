/- Parts of proofs of statements, each text behind those that it stands on. No condition of its own. -/
import Derived.Deep.DeepCutAuto
import Derived.Test.YtfffmoolkgheaaaY04
import Derived.Test.YtfffmoolkgheaaaY15
namespace Go.Proofs.Ytfffmoolkgheaaa
open Go.RowKit
set_option linter.unusedVariables false
set_option linter.unusedSimpArgs false
theorem pv_y0 {w : World} {g : Nat} {t : TypeId} {lx ly : List Nat} {i : Bool} {y0 : Nat} (h : Blk w g t (pv lx ly i)) (hx : lx.length = 4) (hy : ly[0]? = some y0) : w.cell? ⟨g, 4, none⟩ = some (.int .u64 (y0 : Nat)) := by
  have k := pv_y h hx 0 (.int .u64 (y0 : Nat)) (by unfold natsV; rw [List.getElem?_map, hy]; rfl)
  exact k
set_option maxRecDepth 100000 in
set_option maxHeartbeats 3200000 in
theorem ddec_fa {lp : List Nat} {A : Option Addr} {n c : Nat} (w : World) (hlp : lp.length = 4)
    (h1 : n ≠ 65)
    (h2 : n ≠ 33)
    (c1 : ∀ w, Calls Try.prog 56 #[] w fun e w' => e = .returned (.agg (natsV .u64 lp).toArray) ∧ Below w.heap.size w w') :
    Calls Try.prog 37 #[.slice A n c] w fun e w' => e = .returned (.tuple #[.agg (pv (zeros 4) (zeros 4) false).toArray, .int .i64 61]) ∧ Below w.heap.size w w' := by
  have L_lp := Lib.hid hlp
  clear hlp
  have Hc1 := Lib.hid c1
  clear c1
  have e1 : ((n : Int) == 65) = false := by rw [beq_eq_false_iff_ne]; omega
  have e2 : ((n : Int) != 33) = true := by rw [bne_iff_ne]; omega
  clear h1 h2
  have B0_ := Lib.hid (Blk.new w  43 (pv (zeros 4) (zeros 4) false))
  have bel_ := ((Below.refl w.heap.size w).alloc (Nat.le_refl _) (.cells (pv (zeros 4) (zeros 4) false).toArray 43))
  go_enter Try.func37, Try.ntmps37
  go_wp2_with fail
  refine (Hc1.out _).mono ?_
  rintro e w1 ⟨rfl, hbw1⟩
  have C2 := Lib.hid (B0_.out.gr hbw1)
  clear B0_
  have hbel3 := bel_.trans (Below.mono hbw1 bel_.size)
  clear bel_
  clear hbw1
  go_wp2_with (first | (refine stB rfl 24 (.tmp 4) (.tmp 10) rfl w1.heap.size rfl (natsV .u64 lp) rfl 24 (natsV .u64 (zeros 4)) (Blk.new w1 24 (natsV .u64 (zeros 4))) (i24 L_lp.out) (lenEq (show (natsV .u64 (zeros 4)).length = 4 from rfl) (by rw [natsV_length, L_lp.out])) (natsV_one _ _) ?_; generalize hW : World.setRow _ _ _ = w4; obtain ⟨hgw4, hnw4⟩ := newfacts hW; clear hW; have NE7 := Lib.hid (Nat.ne_of_lt (C2.out.lt)); have GE8 := Lib.hid hbel3.size; have C9 := Lib.hid (C2.out.gr hgw4); clear C2; have hbel10 := hbel3.trans (Below.mono hgw4 hbel3.size); clear hbel3; have D6 := Lib.hid hnw4; have szw4 := hgw4.size; clear hnw4 hgw4 szw4; generalize w1.heap.size = G5 at *) | (refine stB rfl 43 (.tmp 5) (.tmp 11) rfl w4.heap.size rfl (pv (zeros 4) (zeros 4) false) rfl 43 (pv (zeros 4) (zeros 4) false) (Blk.new w4 43 (pv (zeros 4) (zeros 4) false)) (i43 (show (zeros 4).length = 4 from rfl) (show (zeros 4).length = 4 from rfl)) (lenEq (show (pv (zeros 4) (zeros 4) false).length = 9 from rfl) (pv_len (show (zeros 4).length = 4 from rfl) (show (zeros 4).length = 4 from rfl))) (pv_one _ _ _) ?_; generalize hW : World.setRow _ _ _ = w11; obtain ⟨hgw11, hnw11⟩ := newfacts hW; clear hW; have NE14 := Lib.hid (Nat.ne_of_lt (C9.out.lt)); have NE15 := Lib.hid (Nat.ne_of_lt (D6.out.lt)); have GE16 := Lib.hid hbel10.size; have C17 := Lib.hid (C9.out.gr hgw11); clear C9; have C18 := Lib.hid (D6.out.gr hgw11); clear D6; have hbel19 := hbel10.trans (Below.mono hgw11 hbel10.size); clear hbel10; have D13 := Lib.hid hnw11; have szw11 := hgw11.size; clear hnw11 hgw11 szw11; generalize w4.heap.size = G12 at *) | (refine stB rfl 43 (.tmp 2) (.tmp 50) rfl w.heap.size rfl (pv (zeros 4) (zeros 4) false) rfl 43 (pv (zeros 4) (zeros 4) false) C17.out (i43 rfl rfl) (lenEq (show (pv (zeros 4) (zeros 4) false).length = 9 from rfl) (show (pv (zeros 4) (zeros 4) false).length = 9 from rfl)) (pv_one _ _ _) ?_))
  refine bodyPost_ret (v := .tuple #[.agg (pv (zeros 4) (zeros 4) false).toArray, .int .i64 61]) ?_ rfl ⟨rfl, below_setRow' hbel19 (by first | exact Nat.le_refl _ | omega) _⟩
  exact results_two Try.results37 _ _ w.heap.size 43 _ (0, 0) _ _ rfl rfl (C17.out.setRow _) Try.underlying43 rfl (by simpa using (i43 rfl rfl))
set_option maxRecDepth 100000 in
set_option maxHeartbeats 3200000 in
theorem ddec_fb {lp : List Nat} {b o c x : Nat} {l : List Nat} (w : World) (hlp : lp.length = 4)
    (hB : BIn w (some ⟨b, o, none⟩) 65 c l)
    (h0 : l.getD 0 0 = x)
    (h1 : x ≠ 4)
    (c1 : ∀ w, Calls Try.prog 56 #[] w fun e w' => e = .returned (.agg (natsV .u64 lp).toArray) ∧ Below w.heap.size w w') :
    Calls Try.prog 37 #[.slice (some ⟨b, o, none⟩) 65 c] w fun e w' => e = .returned (.tuple #[.agg (pv (zeros 4) (zeros 4) false).toArray, .int .i64 61]) ∧ Below w.heap.size w w' := by
  have L_lp := Lib.hid hlp
  clear hlp
  have Hc1 := Lib.hid c1
  clear c1
  have hc1 := hB.2.1
  have hc2 := hB.2.2.1
  unfold maxLen at hc2
  have h1c : ¬ (c = 1) := by omega
  have h33c : ¬ (c = 33) ∨ True := .inr trivial
  have cB := Lib.hid (fun (W : World) (h : Below w.heap.size w W) => bin_cell hB h 0 (by decide))
  clear hB
  rw [h0] at cB
  clear h0
  have e1 : ((x : Int) == 4) = false := by rw [beq_eq_false_iff_ne]; omega
  clear h1
  have B0_ := Lib.hid (Blk.new w  43 (pv (zeros 4) (zeros 4) false))
  have bel_ := ((Below.refl w.heap.size w).alloc (Nat.le_refl _) (.cells (pv (zeros 4) (zeros 4) false).toArray 43))
  go_enter Try.func37, Try.ntmps37
  go_wp2_with fail
  refine (Hc1.out _).mono ?_
  rintro e w1 ⟨rfl, hbw1⟩
  have C2 := Lib.hid (B0_.out.gr hbw1)
  clear B0_
  have hbel3 := bel_.trans (Below.mono hbw1 bel_.size)
  clear bel_
  clear hbw1
  go_wp2_with (first | (refine stB rfl 24 (.tmp 4) (.tmp 10) rfl w1.heap.size rfl (natsV .u64 lp) rfl 24 (natsV .u64 (zeros 4)) (Blk.new w1 24 (natsV .u64 (zeros 4))) (i24 L_lp.out) (lenEq (show (natsV .u64 (zeros 4)).length = 4 from rfl) (by rw [natsV_length, L_lp.out])) (natsV_one _ _) ?_; generalize hW : World.setRow _ _ _ = w4; obtain ⟨hgw4, hnw4⟩ := newfacts hW; clear hW; have NE7 := Lib.hid (Nat.ne_of_lt (C2.out.lt)); have GE8 := Lib.hid hbel3.size; have C9 := Lib.hid (C2.out.gr hgw4); clear C2; have hbel10 := hbel3.trans (Below.mono hgw4 hbel3.size); clear hbel3; have D6 := Lib.hid hnw4; have szw4 := hgw4.size; clear hnw4 hgw4 szw4; generalize w1.heap.size = G5 at *) | (refine stB rfl 43 (.tmp 5) (.tmp 11) rfl w4.heap.size rfl (pv (zeros 4) (zeros 4) false) rfl 43 (pv (zeros 4) (zeros 4) false) (Blk.new w4 43 (pv (zeros 4) (zeros 4) false)) (i43 (show (zeros 4).length = 4 from rfl) (show (zeros 4).length = 4 from rfl)) (lenEq (show (pv (zeros 4) (zeros 4) false).length = 9 from rfl) (pv_len (show (zeros 4).length = 4 from rfl) (show (zeros 4).length = 4 from rfl))) (pv_one _ _ _) ?_; generalize hW : World.setRow _ _ _ = w11; obtain ⟨hgw11, hnw11⟩ := newfacts hW; clear hW; have NE14 := Lib.hid (Nat.ne_of_lt (C9.out.lt)); have NE15 := Lib.hid (Nat.ne_of_lt (D6.out.lt)); have GE16 := Lib.hid hbel10.size; have C17 := Lib.hid (C9.out.gr hgw11); clear C9; have C18 := Lib.hid (D6.out.gr hgw11); clear D6; have hbel19 := hbel10.trans (Below.mono hgw11 hbel10.size); clear hbel10; have D13 := Lib.hid hnw11; have szw11 := hgw11.size; clear hnw11 hgw11 szw11; generalize w4.heap.size = G12 at *; have cc20 : w11.cell? ⟨b, o, none⟩ = some (.int .u8 (x : Nat)) := cB.out _ hbel19) | (refine stB rfl 43 (.tmp 2) (.tmp 50) rfl w.heap.size rfl (pv (zeros 4) (zeros 4) false) rfl 43 (pv (zeros 4) (zeros 4) false) C17.out (i43 rfl rfl) (lenEq (show (pv (zeros 4) (zeros 4) false).length = 9 from rfl) (show (pv (zeros 4) (zeros 4) false).length = 9 from rfl)) (pv_one _ _ _) ?_))
  refine bodyPost_ret (v := .tuple #[.agg (pv (zeros 4) (zeros 4) false).toArray, .int .i64 61]) ?_ rfl ⟨rfl, below_setRow' hbel19 (by first | exact Nat.le_refl _ | omega) _⟩
  exact results_two Try.results37 _ _ w.heap.size 43 _ (0, 0) _ _ rfl rfl (C17.out.setRow _) Try.underlying43 rfl (by simpa using (i43 rfl rfl))
set_option maxRecDepth 100000 in
set_option maxHeartbeats 3200000 in
theorem ddec_fc {lp : List Nat} {b o c x : Nat} {l : List Nat} (w : World) (hlp : lp.length = 4)
    (hB : BIn w (some ⟨b, o, none⟩) 33 c l)
    (h0 : l.getD 0 0 = x)
    (h1 : x ≠ 2)
    (h2 : x ≠ 3)
    (c1 : ∀ w, Calls Try.prog 56 #[] w fun e w' => e = .returned (.agg (natsV .u64 lp).toArray) ∧ Below w.heap.size w w') :
    Calls Try.prog 37 #[.slice (some ⟨b, o, none⟩) 33 c] w fun e w' => e = .returned (.tuple #[.agg (pv (zeros 4) (zeros 4) false).toArray, .int .i64 61]) ∧ Below w.heap.size w w' := by
  have L_lp := Lib.hid hlp
  clear hlp
  have Hc1 := Lib.hid c1
  clear c1
  have hc1 := hB.2.1
  have hc2 := hB.2.2.1
  unfold maxLen at hc2
  have h1c : ¬ (c = 1) := by omega
  have h33c : ¬ (c = 33) ∨ True := .inr trivial
  have cB := Lib.hid (fun (W : World) (h : Below w.heap.size w W) => bin_cell hB h 0 (by decide))
  clear hB
  rw [h0] at cB
  clear h0
  have e1 : ((x : Int) != 2) = true := by rw [bne_iff_ne]; omega
  have e2 : ((x : Int) != 3) = true := by rw [bne_iff_ne]; omega
  clear h1 h2
  have B0_ := Lib.hid (Blk.new w  43 (pv (zeros 4) (zeros 4) false))
  have bel_ := ((Below.refl w.heap.size w).alloc (Nat.le_refl _) (.cells (pv (zeros 4) (zeros 4) false).toArray 43))
  go_enter Try.func37, Try.ntmps37
  go_wp2_with fail
  refine (Hc1.out _).mono ?_
  rintro e w1 ⟨rfl, hbw1⟩
  have C2 := Lib.hid (B0_.out.gr hbw1)
  clear B0_
  have hbel3 := bel_.trans (Below.mono hbw1 bel_.size)
  clear bel_
  clear hbw1
  go_wp2_with (first | (refine stB rfl 24 (.tmp 4) (.tmp 10) rfl w1.heap.size rfl (natsV .u64 lp) rfl 24 (natsV .u64 (zeros 4)) (Blk.new w1 24 (natsV .u64 (zeros 4))) (i24 L_lp.out) (lenEq (show (natsV .u64 (zeros 4)).length = 4 from rfl) (by rw [natsV_length, L_lp.out])) (natsV_one _ _) ?_; generalize hW : World.setRow _ _ _ = w4; obtain ⟨hgw4, hnw4⟩ := newfacts hW; clear hW; have NE7 := Lib.hid (Nat.ne_of_lt (C2.out.lt)); have GE8 := Lib.hid hbel3.size; have C9 := Lib.hid (C2.out.gr hgw4); clear C2; have hbel10 := hbel3.trans (Below.mono hgw4 hbel3.size); clear hbel3; have D6 := Lib.hid hnw4; have szw4 := hgw4.size; clear hnw4 hgw4 szw4; generalize w1.heap.size = G5 at *) | (refine stB rfl 43 (.tmp 5) (.tmp 11) rfl w4.heap.size rfl (pv (zeros 4) (zeros 4) false) rfl 43 (pv (zeros 4) (zeros 4) false) (Blk.new w4 43 (pv (zeros 4) (zeros 4) false)) (i43 (show (zeros 4).length = 4 from rfl) (show (zeros 4).length = 4 from rfl)) (lenEq (show (pv (zeros 4) (zeros 4) false).length = 9 from rfl) (pv_len (show (zeros 4).length = 4 from rfl) (show (zeros 4).length = 4 from rfl))) (pv_one _ _ _) ?_; generalize hW : World.setRow _ _ _ = w11; obtain ⟨hgw11, hnw11⟩ := newfacts hW; clear hW; have NE14 := Lib.hid (Nat.ne_of_lt (C9.out.lt)); have NE15 := Lib.hid (Nat.ne_of_lt (D6.out.lt)); have GE16 := Lib.hid hbel10.size; have C17 := Lib.hid (C9.out.gr hgw11); clear C9; have C18 := Lib.hid (D6.out.gr hgw11); clear D6; have hbel19 := hbel10.trans (Below.mono hgw11 hbel10.size); clear hbel10; have D13 := Lib.hid hnw11; have szw11 := hgw11.size; clear hnw11 hgw11 szw11; generalize w4.heap.size = G12 at *; have cc20 : w11.cell? ⟨b, o, none⟩ = some (.int .u8 (x : Nat)) := cB.out _ hbel19) | (refine stB rfl 43 (.tmp 2) (.tmp 50) rfl w.heap.size rfl (pv (zeros 4) (zeros 4) false) rfl 43 (pv (zeros 4) (zeros 4) false) C17.out (i43 rfl rfl) (lenEq (show (pv (zeros 4) (zeros 4) false).length = 9 from rfl) (show (pv (zeros 4) (zeros 4) false).length = 9 from rfl)) (pv_one _ _ _) ?_))
  refine bodyPost_ret (v := .tuple #[.agg (pv (zeros 4) (zeros 4) false).toArray, .int .i64 61]) ?_ rfl ⟨rfl, below_setRow' hbel19 (by first | exact Nat.le_refl _ | omega) _⟩
  exact results_two Try.results37 _ _ w.heap.size 43 _ (0, 0) _ _ rfl rfl (C17.out.setRow _) Try.underlying43 rfl (by simpa using (i43 rfl rfl))
set_option maxRecDepth 100000 in
set_option maxHeartbeats 3200000 in
theorem ddec_wok {lp lx ly : List Nat} {b o c x : Nat} {l : List Nat} (w : World) (hlp : lp.length = 4) (hlx : lx.length = 4) (hly : ly.length = 4)
    (hB : BIn w (some ⟨b, o, none⟩) 65 c l)
    (h0 : l.getD 0 0 = x)
    (hx : x = 4)
    (c1 : ∀ w, Calls Try.prog 56 #[] w fun e w' => e = .returned (.agg (natsV .u64 lp).toArray) ∧ Below w.heap.size w w')
    (c2 : ∀ W, Below w.heap.size w W → Calls Try.prog 78 #[.slice (some ⟨b, o + 1, none⟩) 32 (c - 1)] W fun e w' => e = .returned (.agg (natsV .u64 lx).toArray) ∧ Below W.heap.size W w')
    (c3 : ∀ W, Below w.heap.size w W → Calls Try.prog 78 #[.slice (some ⟨b, o + 33, none⟩) 32 (c - 33)] W fun e w' => e = .returned (.agg (natsV .u64 ly).toArray) ∧ Below W.heap.size W w')
    (c4 : ∀ w, Calls Try.prog 25 #[.agg (pv lx ly false).toArray] w fun e w' => e = .returned (.bool true) ∧ Below w.heap.size w w') :
    Calls Try.prog 37 #[.slice (some ⟨b, o, none⟩) 65 c] w fun e w' => e = .returned (.tuple #[.agg (pv lx ly false).toArray, .int .i64 0]) ∧ Below w.heap.size w w' := by
  have L_lp := Lib.hid hlp
  clear hlp
  have L_lx := Lib.hid hlx
  clear hlx
  have L_ly := Lib.hid hly
  clear hly
  have Hc1 := Lib.hid c1
  clear c1
  have Hc2 := Lib.hid c2
  clear c2
  have Hc3 := Lib.hid c3
  clear c3
  have Hc4 := Lib.hid c4
  clear c4
  have hc1 := hB.2.1
  have hc2 := hB.2.2.1
  unfold maxLen at hc2
  have h1c : ¬ (c = 1) := by omega
  have h33c : ¬ (c = 33) ∨ True := .inr trivial
  have cB := Lib.hid (fun (W : World) (h : Below w.heap.size w W) => bin_cell hB h 0 (by decide))
  clear hB
  rw [h0] at cB
  clear h0
  subst hx
  have B0_ := Lib.hid (Blk.new w  43 (pv (zeros 4) (zeros 4) false))
  have bel_ := ((Below.refl w.heap.size w).alloc (Nat.le_refl _) (.cells (pv (zeros 4) (zeros 4) false).toArray 43))
  go_enter Try.func37, Try.ntmps37
  go_wp2_with fail
  refine (Hc1.out _).mono ?_
  rintro e w1 ⟨rfl, hbw1⟩
  have C2 := Lib.hid (B0_.out.gr hbw1)
  clear B0_
  have hbel3 := bel_.trans (Below.mono hbw1 bel_.size)
  clear bel_
  clear hbw1
  go_wp2_with (first | (refine stB rfl 24 (.tmp 4) (.tmp 10) rfl w1.heap.size rfl (natsV .u64 lp) rfl 24 (natsV .u64 (zeros 4)) (Blk.new w1 24 (natsV .u64 (zeros 4))) (i24 L_lp.out) (lenEq (show (natsV .u64 (zeros 4)).length = 4 from rfl) (by rw [natsV_length, L_lp.out])) (natsV_one _ _) ?_; generalize hW : World.setRow _ _ _ = w4; obtain ⟨hgw4, hnw4⟩ := newfacts hW; clear hW; have NE7 := Lib.hid (Nat.ne_of_lt (C2.out.lt)); have GE8 := Lib.hid hbel3.size; have C9 := Lib.hid (C2.out.gr hgw4); clear C2; have hbel10 := hbel3.trans (Below.mono hgw4 hbel3.size); clear hbel3; have D6 := Lib.hid hnw4; have szw4 := hgw4.size; clear hnw4 hgw4 szw4; generalize w1.heap.size = G5 at *) | (refine stB rfl 43 (.tmp 5) (.tmp 11) rfl w4.heap.size rfl (pv (zeros 4) (zeros 4) false) rfl 43 (pv (zeros 4) (zeros 4) false) (Blk.new w4 43 (pv (zeros 4) (zeros 4) false)) (i43 (show (zeros 4).length = 4 from rfl) (show (zeros 4).length = 4 from rfl)) (lenEq (show (pv (zeros 4) (zeros 4) false).length = 9 from rfl) (pv_len (show (zeros 4).length = 4 from rfl) (show (zeros 4).length = 4 from rfl))) (pv_one _ _ _) ?_; generalize hW : World.setRow _ _ _ = w11; obtain ⟨hgw11, hnw11⟩ := newfacts hW; clear hW; have NE14 := Lib.hid (Nat.ne_of_lt (C9.out.lt)); have NE15 := Lib.hid (Nat.ne_of_lt (D6.out.lt)); have GE16 := Lib.hid hbel10.size; have C17 := Lib.hid (C9.out.gr hgw11); clear C9; have C18 := Lib.hid (D6.out.gr hgw11); clear D6; have hbel19 := hbel10.trans (Below.mono hgw11 hbel10.size); clear hbel10; have D13 := Lib.hid hnw11; have szw11 := hgw11.size; clear hnw11 hgw11 szw11; generalize w4.heap.size = G12 at *; have cc20 : w11.cell? ⟨b, o, none⟩ = some (.int .u8 4) := cB.out _ hbel19))
  refine (Hc2.out _ hbel19).mono ?_
  rintro e w21 ⟨rfl, hbw21⟩
  have C22 := Lib.hid (C17.out.gr hbw21)
  clear C17
  have C23 := Lib.hid (C18.out.gr hbw21)
  clear C18
  have C24 := Lib.hid (D13.out.gr hbw21)
  clear D13
  have hbel25 := hbel19.trans (Below.mono hbw21 hbel19.size)
  clear hbel19
  clear hbw21
  go_wp2_with (first | (refine stM rfl 24 (.tmp 24) (.tmp 23) rfl G12 0 rfl (natsV .u64 lx) rfl 43 (pv (zeros 4) (zeros 4) false) (pv lx (zeros 4) false) C24.out (pv_setX (show (zeros 4).length = 4 from rfl) (show (zeros 4).length = 4 from rfl) L_lx.out) (pv_fitX (show (zeros 4).length = 4 from rfl) (show (zeros 4).length = 4 from rfl) L_lx.out) (i24 L_lx.out) (natsV_one _ _) ?_; intro w26 hgw26 hnw26; have E27 := Lib.hid (C22.out.grown hgw26 (fun e => NE14.out (Option.some.inj e))); clear C22; have E28 := Lib.hid (C23.out.grown hgw26 (fun e => NE15.out (Option.some.inj e))); clear C23; have D29 := Lib.hid hnw26; clear hnw26 C24; have hbel30 := belStore hbel25 hgw26 (GE16.out); clear hgw26; clear hbel25; have cc31 : w26.cell? ⟨b, o, none⟩ = some (.int .u8 4) := cB.out _ hbel30))
  refine (Hc3.out _ hbel30).mono ?_
  rintro e w32 ⟨rfl, hbw32⟩
  have C33 := Lib.hid (E27.out.gr hbw32)
  clear E27
  have C34 := Lib.hid (E28.out.gr hbw32)
  clear E28
  have C35 := Lib.hid (D29.out.gr hbw32)
  clear D29
  have hbel36 := hbel30.trans (Below.mono hbw32 hbel30.size)
  clear hbel30
  clear hbw32
  go_wp2_with (first | (refine stM rfl 24 (.tmp 28) (.tmp 27) rfl G12 4 rfl (natsV .u64 ly) rfl 43 (pv lx (zeros 4) false) (pv lx ly false) C35.out (pv_setY L_lx.out (show (zeros 4).length = 4 from rfl) L_ly.out) (pv_fitY L_lx.out (show (zeros 4).length = 4 from rfl) L_ly.out) (i24 L_ly.out) (natsV_one _ _) ?_; intro w37 hgw37 hnw37; have E38 := Lib.hid (C33.out.grown hgw37 (fun e => NE14.out (Option.some.inj e))); clear C33; have E39 := Lib.hid (C34.out.grown hgw37 (fun e => NE15.out (Option.some.inj e))); clear C34; have D40 := Lib.hid hnw37; clear hnw37 C35; have hbel41 := belStore hbel36 hgw37 (GE16.out); clear hgw37; clear hbel36; have cc42 : w37.cell? ⟨b, o, none⟩ = some (.int .u8 4) := cB.out _ hbel41) | (refine wpList_load_mid rfl 43 (.tmp 5) rfl G12 0 rfl (pv lx ly false) _ (blk_all (D40.out)) Try.underlying43 rfl (i43 L_lx.out L_ly.out) ?_))
  refine (Hc4.out _).mono ?_
  rintro e w43 ⟨rfl, hbw43⟩
  have C44 := Lib.hid (E38.out.gr hbw43)
  clear E38
  have C45 := Lib.hid (E39.out.gr hbw43)
  clear E39
  have C46 := Lib.hid (D40.out.gr hbw43)
  clear D40
  have hbel47 := hbel41.trans (Below.mono hbw43 hbel41.size)
  clear hbel41
  clear hbw43
  go_wp2_with (first | (refine wpList_load_mid rfl 43 (.tmp 5) rfl G12 0 rfl (pv lx ly false) _ (blk_all (C46.out)) Try.underlying43 rfl (i43 L_lx.out L_ly.out) ?_) | (refine stB rfl 43 (.tmp 2) (.tmp 34) rfl w.heap.size rfl (pv lx ly false) rfl 43 (pv (zeros 4) (zeros 4) false) C44.out (i43 L_lx.out L_ly.out) (lenEq (show (pv (zeros 4) (zeros 4) false).length = 9 from rfl) (pv_len L_lx.out L_ly.out)) (pv_one _ _ _) ?_))
  refine bodyPost_ret (v := .tuple #[.agg (pv lx ly false).toArray, .int .i64 0]) ?_ rfl ⟨rfl, below_setRow' hbel47 (by first | exact Nat.le_refl _ | omega) _⟩
  exact results_two Try.results37 _ _ w.heap.size 43 _ (0, 0) _ _ rfl rfl (C44.out.setRow _) Try.underlying43 rfl (by simpa using (i43 L_lx.out L_ly.out))
set_option maxRecDepth 100000 in
set_option maxHeartbeats 3200000 in
theorem ddec_wno {lp lx ly : List Nat} {b o c x : Nat} {l : List Nat} (w : World) (hlp : lp.length = 4) (hlx : lx.length = 4) (hly : ly.length = 4)
    (hB : BIn w (some ⟨b, o, none⟩) 65 c l)
    (h0 : l.getD 0 0 = x)
    (hx : x = 4)
    (c1 : ∀ w, Calls Try.prog 56 #[] w fun e w' => e = .returned (.agg (natsV .u64 lp).toArray) ∧ Below w.heap.size w w')
    (c2 : ∀ W, Below w.heap.size w W → Calls Try.prog 78 #[.slice (some ⟨b, o + 1, none⟩) 32 (c - 1)] W fun e w' => e = .returned (.agg (natsV .u64 lx).toArray) ∧ Below W.heap.size W w')
    (c3 : ∀ W, Below w.heap.size w W → Calls Try.prog 78 #[.slice (some ⟨b, o + 33, none⟩) 32 (c - 33)] W fun e w' => e = .returned (.agg (natsV .u64 ly).toArray) ∧ Below W.heap.size W w')
    (c4 : ∀ w, Calls Try.prog 25 #[.agg (pv lx ly false).toArray] w fun e w' => e = .returned (.bool false) ∧ Below w.heap.size w w') :
    Calls Try.prog 37 #[.slice (some ⟨b, o, none⟩) 65 c] w fun e w' => e = .returned (.tuple #[.agg (pv (zeros 4) (zeros 4) false).toArray, .int .i64 62]) ∧ Below w.heap.size w w' := by
  have L_lp := Lib.hid hlp
  clear hlp
  have L_lx := Lib.hid hlx
  clear hlx
  have L_ly := Lib.hid hly
  clear hly
  have Hc1 := Lib.hid c1
  clear c1
  have Hc2 := Lib.hid c2
  clear c2
  have Hc3 := Lib.hid c3
  clear c3
  have Hc4 := Lib.hid c4
  clear c4
  have hc1 := hB.2.1
  have hc2 := hB.2.2.1
  unfold maxLen at hc2
  have h1c : ¬ (c = 1) := by omega
  have h33c : ¬ (c = 33) ∨ True := .inr trivial
  have cB := Lib.hid (fun (W : World) (h : Below w.heap.size w W) => bin_cell hB h 0 (by decide))
  clear hB
  rw [h0] at cB
  clear h0
  subst hx
  have B0_ := Lib.hid (Blk.new w  43 (pv (zeros 4) (zeros 4) false))
  have bel_ := ((Below.refl w.heap.size w).alloc (Nat.le_refl _) (.cells (pv (zeros 4) (zeros 4) false).toArray 43))
  go_enter Try.func37, Try.ntmps37
  go_wp2_with fail
  refine (Hc1.out _).mono ?_
  rintro e w1 ⟨rfl, hbw1⟩
  have C2 := Lib.hid (B0_.out.gr hbw1)
  clear B0_
  have hbel3 := bel_.trans (Below.mono hbw1 bel_.size)
  clear bel_
  clear hbw1
  go_wp2_with (first | (refine stB rfl 24 (.tmp 4) (.tmp 10) rfl w1.heap.size rfl (natsV .u64 lp) rfl 24 (natsV .u64 (zeros 4)) (Blk.new w1 24 (natsV .u64 (zeros 4))) (i24 L_lp.out) (lenEq (show (natsV .u64 (zeros 4)).length = 4 from rfl) (by rw [natsV_length, L_lp.out])) (natsV_one _ _) ?_; generalize hW : World.setRow _ _ _ = w4; obtain ⟨hgw4, hnw4⟩ := newfacts hW; clear hW; have NE7 := Lib.hid (Nat.ne_of_lt (C2.out.lt)); have GE8 := Lib.hid hbel3.size; have C9 := Lib.hid (C2.out.gr hgw4); clear C2; have hbel10 := hbel3.trans (Below.mono hgw4 hbel3.size); clear hbel3; have D6 := Lib.hid hnw4; have szw4 := hgw4.size; clear hnw4 hgw4 szw4; generalize w1.heap.size = G5 at *) | (refine stB rfl 43 (.tmp 5) (.tmp 11) rfl w4.heap.size rfl (pv (zeros 4) (zeros 4) false) rfl 43 (pv (zeros 4) (zeros 4) false) (Blk.new w4 43 (pv (zeros 4) (zeros 4) false)) (i43 (show (zeros 4).length = 4 from rfl) (show (zeros 4).length = 4 from rfl)) (lenEq (show (pv (zeros 4) (zeros 4) false).length = 9 from rfl) (pv_len (show (zeros 4).length = 4 from rfl) (show (zeros 4).length = 4 from rfl))) (pv_one _ _ _) ?_; generalize hW : World.setRow _ _ _ = w11; obtain ⟨hgw11, hnw11⟩ := newfacts hW; clear hW; have NE14 := Lib.hid (Nat.ne_of_lt (C9.out.lt)); have NE15 := Lib.hid (Nat.ne_of_lt (D6.out.lt)); have GE16 := Lib.hid hbel10.size; have C17 := Lib.hid (C9.out.gr hgw11); clear C9; have C18 := Lib.hid (D6.out.gr hgw11); clear D6; have hbel19 := hbel10.trans (Below.mono hgw11 hbel10.size); clear hbel10; have D13 := Lib.hid hnw11; have szw11 := hgw11.size; clear hnw11 hgw11 szw11; generalize w4.heap.size = G12 at *; have cc20 : w11.cell? ⟨b, o, none⟩ = some (.int .u8 4) := cB.out _ hbel19))
  refine (Hc2.out _ hbel19).mono ?_
  rintro e w21 ⟨rfl, hbw21⟩
  have C22 := Lib.hid (C17.out.gr hbw21)
  clear C17
  have C23 := Lib.hid (C18.out.gr hbw21)
  clear C18
  have C24 := Lib.hid (D13.out.gr hbw21)
  clear D13
  have hbel25 := hbel19.trans (Below.mono hbw21 hbel19.size)
  clear hbel19
  clear hbw21
  go_wp2_with (first | (refine stM rfl 24 (.tmp 24) (.tmp 23) rfl G12 0 rfl (natsV .u64 lx) rfl 43 (pv (zeros 4) (zeros 4) false) (pv lx (zeros 4) false) C24.out (pv_setX (show (zeros 4).length = 4 from rfl) (show (zeros 4).length = 4 from rfl) L_lx.out) (pv_fitX (show (zeros 4).length = 4 from rfl) (show (zeros 4).length = 4 from rfl) L_lx.out) (i24 L_lx.out) (natsV_one _ _) ?_; intro w26 hgw26 hnw26; have E27 := Lib.hid (C22.out.grown hgw26 (fun e => NE14.out (Option.some.inj e))); clear C22; have E28 := Lib.hid (C23.out.grown hgw26 (fun e => NE15.out (Option.some.inj e))); clear C23; have D29 := Lib.hid hnw26; clear hnw26 C24; have hbel30 := belStore hbel25 hgw26 (GE16.out); clear hgw26; clear hbel25; have cc31 : w26.cell? ⟨b, o, none⟩ = some (.int .u8 4) := cB.out _ hbel30))
  refine (Hc3.out _ hbel30).mono ?_
  rintro e w32 ⟨rfl, hbw32⟩
  have C33 := Lib.hid (E27.out.gr hbw32)
  clear E27
  have C34 := Lib.hid (E28.out.gr hbw32)
  clear E28
  have C35 := Lib.hid (D29.out.gr hbw32)
  clear D29
  have hbel36 := hbel30.trans (Below.mono hbw32 hbel30.size)
  clear hbel30
  clear hbw32
  go_wp2_with (first | (refine stM rfl 24 (.tmp 28) (.tmp 27) rfl G12 4 rfl (natsV .u64 ly) rfl 43 (pv lx (zeros 4) false) (pv lx ly false) C35.out (pv_setY L_lx.out (show (zeros 4).length = 4 from rfl) L_ly.out) (pv_fitY L_lx.out (show (zeros 4).length = 4 from rfl) L_ly.out) (i24 L_ly.out) (natsV_one _ _) ?_; intro w37 hgw37 hnw37; have E38 := Lib.hid (C33.out.grown hgw37 (fun e => NE14.out (Option.some.inj e))); clear C33; have E39 := Lib.hid (C34.out.grown hgw37 (fun e => NE15.out (Option.some.inj e))); clear C34; have D40 := Lib.hid hnw37; clear hnw37 C35; have hbel41 := belStore hbel36 hgw37 (GE16.out); clear hgw37; clear hbel36; have cc42 : w37.cell? ⟨b, o, none⟩ = some (.int .u8 4) := cB.out _ hbel41) | (refine wpList_load_mid rfl 43 (.tmp 5) rfl G12 0 rfl (pv lx ly false) _ (blk_all (D40.out)) Try.underlying43 rfl (i43 L_lx.out L_ly.out) ?_))
  refine (Hc4.out _).mono ?_
  rintro e w43 ⟨rfl, hbw43⟩
  have C44 := Lib.hid (E38.out.gr hbw43)
  clear E38
  have C45 := Lib.hid (E39.out.gr hbw43)
  clear E39
  have C46 := Lib.hid (D40.out.gr hbw43)
  clear D40
  have hbel47 := hbel41.trans (Below.mono hbw43 hbel41.size)
  clear hbel41
  clear hbw43
  go_wp2_with (first | (refine stB rfl 43 (.tmp 2) (.tmp 33) rfl w.heap.size rfl (pv (zeros 4) (zeros 4) false) rfl 43 (pv (zeros 4) (zeros 4) false) C44.out (i43 rfl rfl) (lenEq (show (pv (zeros 4) (zeros 4) false).length = 9 from rfl) (show (pv (zeros 4) (zeros 4) false).length = 9 from rfl)) (pv_one _ _ _) ?_))
  refine bodyPost_ret (v := .tuple #[.agg (pv (zeros 4) (zeros 4) false).toArray, .int .i64 62]) ?_ rfl ⟨rfl, below_setRow' hbel47 (by first | exact Nat.le_refl _ | omega) _⟩
  exact results_two Try.results37 _ _ w.heap.size 43 _ (0, 0) _ _ rfl rfl (C44.out.setRow _) Try.underlying43 rfl (by simpa using (i43 rfl rfl))
set_option maxRecDepth 100000 in
set_option maxHeartbeats 3200000 in
theorem ddec_below {lp lx : List Nat} {b o c x : Nat} {l : List Nat} (w : World) (hlp : lp.length = 4) (hlx : lx.length = 4)
    (hB : BIn w (some ⟨b, o, none⟩) 33 c l)
    (h0 : l.getD 0 0 = x)
    (hx : x = 2 ∨ x = 3)
    (c1 : ∀ w, Calls Try.prog 56 #[] w fun e w' => e = .returned (.agg (natsV .u64 lp).toArray) ∧ Below w.heap.size w w')
    (c2 : ∀ W, Below w.heap.size w W → Calls Try.prog 78 #[.slice (some ⟨b, o + 1, none⟩) 32 (c - 1)] W fun e w' => e = .returned (.agg (natsV .u64 lx).toArray) ∧ Below W.heap.size W w')
    (c3 : ∀ w, Calls Try.prog 64 #[.agg (natsV .u64 lx).toArray, .agg (natsV .u64 lp).toArray] w fun e w' => e = .returned (.bool false) ∧ Below w.heap.size w w') :
    Calls Try.prog 37 #[.slice (some ⟨b, o, none⟩) 33 c] w fun e w' => e = .returned (.tuple #[.agg (pv (zeros 4) (zeros 4) false).toArray, .int .i64 62]) ∧ Below w.heap.size w w' := by
  have L_lp := Lib.hid hlp
  clear hlp
  have L_lx := Lib.hid hlx
  clear hlx
  have Hc1 := Lib.hid c1
  clear c1
  have Hc2 := Lib.hid c2
  clear c2
  have Hc3 := Lib.hid c3
  clear c3
  have hc1 := hB.2.1
  have hc2 := hB.2.2.1
  unfold maxLen at hc2
  have h1c : ¬ (c = 1) := by omega
  have h33c : ¬ (c = 33) ∨ True := .inr trivial
  have cB := Lib.hid (fun (W : World) (h : Below w.heap.size w W) => bin_cell hB h 0 (by decide))
  clear hB
  rw [h0] at cB
  clear h0
  rcases hx with rfl | rfl
  · as_aux_lemma =>
    have B0_ := Lib.hid (Blk.new w  43 (pv (zeros 4) (zeros 4) false))
    have bel_ := ((Below.refl w.heap.size w).alloc (Nat.le_refl _) (.cells (pv (zeros 4) (zeros 4) false).toArray 43))
    go_enter Try.func37, Try.ntmps37
    go_wp2_with fail
    refine (Hc1.out _).mono ?_
    rintro e w1 ⟨rfl, hbw1⟩
    have C2 := Lib.hid (B0_.out.gr hbw1)
    clear B0_
    have hbel3 := bel_.trans (Below.mono hbw1 bel_.size)
    clear bel_
    clear hbw1
    go_wp2_with (first | (refine stB rfl 24 (.tmp 4) (.tmp 10) rfl w1.heap.size rfl (natsV .u64 lp) rfl 24 (natsV .u64 (zeros 4)) (Blk.new w1 24 (natsV .u64 (zeros 4))) (i24 L_lp.out) (lenEq (show (natsV .u64 (zeros 4)).length = 4 from rfl) (by rw [natsV_length, L_lp.out])) (natsV_one _ _) ?_; generalize hW : World.setRow _ _ _ = w4; obtain ⟨hgw4, hnw4⟩ := newfacts hW; clear hW; have NE7 := Lib.hid (Nat.ne_of_lt (C2.out.lt)); have GE8 := Lib.hid hbel3.size; have C9 := Lib.hid (C2.out.gr hgw4); clear C2; have hbel10 := hbel3.trans (Below.mono hgw4 hbel3.size); clear hbel3; have D6 := Lib.hid hnw4; have szw4 := hgw4.size; clear hnw4 hgw4 szw4; generalize w1.heap.size = G5 at *) | (refine stB rfl 43 (.tmp 5) (.tmp 11) rfl w4.heap.size rfl (pv (zeros 4) (zeros 4) false) rfl 43 (pv (zeros 4) (zeros 4) false) (Blk.new w4 43 (pv (zeros 4) (zeros 4) false)) (i43 (show (zeros 4).length = 4 from rfl) (show (zeros 4).length = 4 from rfl)) (lenEq (show (pv (zeros 4) (zeros 4) false).length = 9 from rfl) (pv_len (show (zeros 4).length = 4 from rfl) (show (zeros 4).length = 4 from rfl))) (pv_one _ _ _) ?_; generalize hW : World.setRow _ _ _ = w11; obtain ⟨hgw11, hnw11⟩ := newfacts hW; clear hW; have NE14 := Lib.hid (Nat.ne_of_lt (C9.out.lt)); have NE15 := Lib.hid (Nat.ne_of_lt (D6.out.lt)); have GE16 := Lib.hid hbel10.size; have C17 := Lib.hid (C9.out.gr hgw11); clear C9; have C18 := Lib.hid (D6.out.gr hgw11); clear D6; have hbel19 := hbel10.trans (Below.mono hgw11 hbel10.size); clear hbel10; have D13 := Lib.hid hnw11; have szw11 := hgw11.size; clear hnw11 hgw11 szw11; generalize w4.heap.size = G12 at *; have cc20 : w11.cell? ⟨b, o, none⟩ = some (.int .u8 2) := cB.out _ hbel19))
    refine (Hc2.out _ hbel19).mono ?_
    rintro e w21 ⟨rfl, hbw21⟩
    have C22 := Lib.hid (C17.out.gr hbw21)
    clear C17
    have C23 := Lib.hid (C18.out.gr hbw21)
    clear C18
    have C24 := Lib.hid (D13.out.gr hbw21)
    clear D13
    have hbel25 := hbel19.trans (Below.mono hbw21 hbel19.size)
    clear hbel19
    clear hbw21
    go_wp2_with (first | (refine stM rfl 24 (.tmp 54) (.tmp 53) rfl G12 0 rfl (natsV .u64 lx) rfl 43 (pv (zeros 4) (zeros 4) false) (pv lx (zeros 4) false) C24.out (pv_setX (show (zeros 4).length = 4 from rfl) (show (zeros 4).length = 4 from rfl) L_lx.out) (pv_fitX (show (zeros 4).length = 4 from rfl) (show (zeros 4).length = 4 from rfl) L_lx.out) (i24 L_lx.out) (natsV_one _ _) ?_; intro w26 hgw26 hnw26; have E27 := Lib.hid (C22.out.grown hgw26 (fun e => NE14.out (Option.some.inj e))); clear C22; have E28 := Lib.hid (C23.out.grown hgw26 (fun e => NE15.out (Option.some.inj e))); clear C23; have D29 := Lib.hid hnw26; clear hnw26 C24; have hbel30 := belStore hbel25 hgw26 (GE16.out); clear hgw26; clear hbel25; have cc31 : w26.cell? ⟨b, o, none⟩ = some (.int .u8 2) := cB.out _ hbel30) | (refine wpList_load_mid rfl 24 (.tmp 55) rfl G12 0 rfl (natsV .u64 lx) _ (pv_x (D29.out)) Try.underlying24 rfl (i24 L_lx.out) ?_) | (refine wpList_load_mid rfl 24 (.tmp 4) rfl G5 0 rfl (natsV .u64 lp) _ (blk_all (E28.out)) Try.underlying24 rfl (i24 L_lp.out) ?_))
    refine (Hc3.out _).mono ?_
    rintro e w32 ⟨rfl, hbw32⟩
    have C33 := Lib.hid (E27.out.gr hbw32)
    clear E27
    have C34 := Lib.hid (E28.out.gr hbw32)
    clear E28
    have C35 := Lib.hid (D29.out.gr hbw32)
    clear D29
    have hbel36 := hbel30.trans (Below.mono hbw32 hbel30.size)
    clear hbel30
    clear hbw32
    go_wp2_with (first | (refine stB rfl 43 (.tmp 2) (.tmp 61) rfl w.heap.size rfl (pv (zeros 4) (zeros 4) false) rfl 43 (pv (zeros 4) (zeros 4) false) C33.out (i43 rfl rfl) (lenEq (show (pv (zeros 4) (zeros 4) false).length = 9 from rfl) (show (pv (zeros 4) (zeros 4) false).length = 9 from rfl)) (pv_one _ _ _) ?_))
    refine bodyPost_ret (v := .tuple #[.agg (pv (zeros 4) (zeros 4) false).toArray, .int .i64 62]) ?_ rfl ⟨rfl, below_setRow' hbel36 (by first | exact Nat.le_refl _ | omega) _⟩
    exact results_two Try.results37 _ _ w.heap.size 43 _ (0, 0) _ _ rfl rfl (C33.out.setRow _) Try.underlying43 rfl (by simpa using (i43 rfl rfl))
  · as_aux_lemma =>
    have B0_ := Lib.hid (Blk.new w  43 (pv (zeros 4) (zeros 4) false))
    have bel_ := ((Below.refl w.heap.size w).alloc (Nat.le_refl _) (.cells (pv (zeros 4) (zeros 4) false).toArray 43))
    go_enter Try.func37, Try.ntmps37
    go_wp2_with fail
    refine (Hc1.out _).mono ?_
    rintro e w1 ⟨rfl, hbw1⟩
    have C2 := Lib.hid (B0_.out.gr hbw1)
    clear B0_
    have hbel3 := bel_.trans (Below.mono hbw1 bel_.size)
    clear bel_
    clear hbw1
    go_wp2_with (first | (refine stB rfl 24 (.tmp 4) (.tmp 10) rfl w1.heap.size rfl (natsV .u64 lp) rfl 24 (natsV .u64 (zeros 4)) (Blk.new w1 24 (natsV .u64 (zeros 4))) (i24 L_lp.out) (lenEq (show (natsV .u64 (zeros 4)).length = 4 from rfl) (by rw [natsV_length, L_lp.out])) (natsV_one _ _) ?_; generalize hW : World.setRow _ _ _ = w4; obtain ⟨hgw4, hnw4⟩ := newfacts hW; clear hW; have NE7 := Lib.hid (Nat.ne_of_lt (C2.out.lt)); have GE8 := Lib.hid hbel3.size; have C9 := Lib.hid (C2.out.gr hgw4); clear C2; have hbel10 := hbel3.trans (Below.mono hgw4 hbel3.size); clear hbel3; have D6 := Lib.hid hnw4; have szw4 := hgw4.size; clear hnw4 hgw4 szw4; generalize w1.heap.size = G5 at *) | (refine stB rfl 43 (.tmp 5) (.tmp 11) rfl w4.heap.size rfl (pv (zeros 4) (zeros 4) false) rfl 43 (pv (zeros 4) (zeros 4) false) (Blk.new w4 43 (pv (zeros 4) (zeros 4) false)) (i43 (show (zeros 4).length = 4 from rfl) (show (zeros 4).length = 4 from rfl)) (lenEq (show (pv (zeros 4) (zeros 4) false).length = 9 from rfl) (pv_len (show (zeros 4).length = 4 from rfl) (show (zeros 4).length = 4 from rfl))) (pv_one _ _ _) ?_; generalize hW : World.setRow _ _ _ = w11; obtain ⟨hgw11, hnw11⟩ := newfacts hW; clear hW; have NE14 := Lib.hid (Nat.ne_of_lt (C9.out.lt)); have NE15 := Lib.hid (Nat.ne_of_lt (D6.out.lt)); have GE16 := Lib.hid hbel10.size; have C17 := Lib.hid (C9.out.gr hgw11); clear C9; have C18 := Lib.hid (D6.out.gr hgw11); clear D6; have hbel19 := hbel10.trans (Below.mono hgw11 hbel10.size); clear hbel10; have D13 := Lib.hid hnw11; have szw11 := hgw11.size; clear hnw11 hgw11 szw11; generalize w4.heap.size = G12 at *; have cc20 : w11.cell? ⟨b, o, none⟩ = some (.int .u8 3) := cB.out _ hbel19))
    refine (Hc2.out _ hbel19).mono ?_
    rintro e w21 ⟨rfl, hbw21⟩
    have C22 := Lib.hid (C17.out.gr hbw21)
    clear C17
    have C23 := Lib.hid (C18.out.gr hbw21)
    clear C18
    have C24 := Lib.hid (D13.out.gr hbw21)
    clear D13
    have hbel25 := hbel19.trans (Below.mono hbw21 hbel19.size)
    clear hbel19
    clear hbw21
    go_wp2_with (first | (refine stM rfl 24 (.tmp 54) (.tmp 53) rfl G12 0 rfl (natsV .u64 lx) rfl 43 (pv (zeros 4) (zeros 4) false) (pv lx (zeros 4) false) C24.out (pv_setX (show (zeros 4).length = 4 from rfl) (show (zeros 4).length = 4 from rfl) L_lx.out) (pv_fitX (show (zeros 4).length = 4 from rfl) (show (zeros 4).length = 4 from rfl) L_lx.out) (i24 L_lx.out) (natsV_one _ _) ?_; intro w26 hgw26 hnw26; have E27 := Lib.hid (C22.out.grown hgw26 (fun e => NE14.out (Option.some.inj e))); clear C22; have E28 := Lib.hid (C23.out.grown hgw26 (fun e => NE15.out (Option.some.inj e))); clear C23; have D29 := Lib.hid hnw26; clear hnw26 C24; have hbel30 := belStore hbel25 hgw26 (GE16.out); clear hgw26; clear hbel25; have cc31 : w26.cell? ⟨b, o, none⟩ = some (.int .u8 3) := cB.out _ hbel30) | (refine wpList_load_mid rfl 24 (.tmp 55) rfl G12 0 rfl (natsV .u64 lx) _ (pv_x (D29.out)) Try.underlying24 rfl (i24 L_lx.out) ?_) | (refine wpList_load_mid rfl 24 (.tmp 4) rfl G5 0 rfl (natsV .u64 lp) _ (blk_all (E28.out)) Try.underlying24 rfl (i24 L_lp.out) ?_))
    refine (Hc3.out _).mono ?_
    rintro e w32 ⟨rfl, hbw32⟩
    have C33 := Lib.hid (E27.out.gr hbw32)
    clear E27
    have C34 := Lib.hid (E28.out.gr hbw32)
    clear E28
    have C35 := Lib.hid (D29.out.gr hbw32)
    clear D29
    have hbel36 := hbel30.trans (Below.mono hbw32 hbel30.size)
    clear hbel30
    clear hbw32
    go_wp2_with (first | (refine stB rfl 43 (.tmp 2) (.tmp 61) rfl w.heap.size rfl (pv (zeros 4) (zeros 4) false) rfl 43 (pv (zeros 4) (zeros 4) false) C33.out (i43 rfl rfl) (lenEq (show (pv (zeros 4) (zeros 4) false).length = 9 from rfl) (show (pv (zeros 4) (zeros 4) false).length = 9 from rfl)) (pv_one _ _ _) ?_))
    refine bodyPost_ret (v := .tuple #[.agg (pv (zeros 4) (zeros 4) false).toArray, .int .i64 62]) ?_ rfl ⟨rfl, below_setRow' hbel36 (by first | exact Nat.le_refl _ | omega) _⟩
    exact results_two Try.results37 _ _ w.heap.size 43 _ (0, 0) _ _ rfl rfl (C33.out.setRow _) Try.underlying43 rfl (by simpa using (i43 rfl rfl))
set_option maxRecDepth 100000 in
set_option maxHeartbeats 3200000 in
theorem ddec_none {lp lx rs : List Nat} {b o c x : Nat} {l : List Nat} (w : World) (hlp : lp.length = 4) (hlx : lx.length = 4) (hrs : rs.length = 4)
    (hB : BIn w (some ⟨b, o, none⟩) 33 c l)
    (h0 : l.getD 0 0 = x)
    (hx : x = 2 ∨ x = 3)
    (c1 : ∀ w, Calls Try.prog 56 #[] w fun e w' => e = .returned (.agg (natsV .u64 lp).toArray) ∧ Below w.heap.size w w')
    (c2 : ∀ W, Below w.heap.size w W → Calls Try.prog 78 #[.slice (some ⟨b, o + 1, none⟩) 32 (c - 1)] W fun e w' => e = .returned (.agg (natsV .u64 lx).toArray) ∧ Below W.heap.size W w')
    (c3 : ∀ w, Calls Try.prog 64 #[.agg (natsV .u64 lx).toArray, .agg (natsV .u64 lp).toArray] w fun e w' => e = .returned (.bool true) ∧ Below w.heap.size w w')
    (c4 : ∀ w, Calls Try.prog 66 #[.agg (natsV .u64 lx).toArray] w fun e w' => e = .returned (.agg (natsV .u64 rs).toArray) ∧ Below w.heap.size w w')
    (c5 : ∀ w, Calls Try.prog 79 #[.agg (natsV .u64 rs).toArray] w fun e w' => e = .returned (.tuple #[.agg (natsV .u64 (zeros 4)).toArray, .bool false]) ∧ Below w.heap.size w w') :
    Calls Try.prog 37 #[.slice (some ⟨b, o, none⟩) 33 c] w fun e w' => e = .returned (.tuple #[.agg (pv (zeros 4) (zeros 4) false).toArray, .int .i64 62]) ∧ Below w.heap.size w w' := by
  have L_lp := Lib.hid hlp
  clear hlp
  have L_lx := Lib.hid hlx
  clear hlx
  have L_rs := Lib.hid hrs
  clear hrs
  have Hc1 := Lib.hid c1
  clear c1
  have Hc2 := Lib.hid c2
  clear c2
  have Hc3 := Lib.hid c3
  clear c3
  have Hc4 := Lib.hid c4
  clear c4
  have Hc5 := Lib.hid c5
  clear c5
  have hc1 := hB.2.1
  have hc2 := hB.2.2.1
  unfold maxLen at hc2
  have h1c : ¬ (c = 1) := by omega
  have h33c : ¬ (c = 33) ∨ True := .inr trivial
  have cB := Lib.hid (fun (W : World) (h : Below w.heap.size w W) => bin_cell hB h 0 (by decide))
  clear hB
  rw [h0] at cB
  clear h0
  rcases hx with rfl | rfl
  · as_aux_lemma =>
    have B0_ := Lib.hid (Blk.new w  43 (pv (zeros 4) (zeros 4) false))
    have bel_ := ((Below.refl w.heap.size w).alloc (Nat.le_refl _) (.cells (pv (zeros 4) (zeros 4) false).toArray 43))
    go_enter Try.func37, Try.ntmps37
    go_wp2_with fail
    refine (Hc1.out _).mono ?_
    rintro e w1 ⟨rfl, hbw1⟩
    have C2 := Lib.hid (B0_.out.gr hbw1)
    clear B0_
    have hbel3 := bel_.trans (Below.mono hbw1 bel_.size)
    clear bel_
    clear hbw1
    go_wp2_with (first | (refine stB rfl 24 (.tmp 4) (.tmp 10) rfl w1.heap.size rfl (natsV .u64 lp) rfl 24 (natsV .u64 (zeros 4)) (Blk.new w1 24 (natsV .u64 (zeros 4))) (i24 L_lp.out) (lenEq (show (natsV .u64 (zeros 4)).length = 4 from rfl) (by rw [natsV_length, L_lp.out])) (natsV_one _ _) ?_; generalize hW : World.setRow _ _ _ = w4; obtain ⟨hgw4, hnw4⟩ := newfacts hW; clear hW; have NE7 := Lib.hid (Nat.ne_of_lt (C2.out.lt)); have GE8 := Lib.hid hbel3.size; have C9 := Lib.hid (C2.out.gr hgw4); clear C2; have hbel10 := hbel3.trans (Below.mono hgw4 hbel3.size); clear hbel3; have D6 := Lib.hid hnw4; have szw4 := hgw4.size; clear hnw4 hgw4 szw4; generalize w1.heap.size = G5 at *) | (refine stB rfl 43 (.tmp 5) (.tmp 11) rfl w4.heap.size rfl (pv (zeros 4) (zeros 4) false) rfl 43 (pv (zeros 4) (zeros 4) false) (Blk.new w4 43 (pv (zeros 4) (zeros 4) false)) (i43 (show (zeros 4).length = 4 from rfl) (show (zeros 4).length = 4 from rfl)) (lenEq (show (pv (zeros 4) (zeros 4) false).length = 9 from rfl) (pv_len (show (zeros 4).length = 4 from rfl) (show (zeros 4).length = 4 from rfl))) (pv_one _ _ _) ?_; generalize hW : World.setRow _ _ _ = w11; obtain ⟨hgw11, hnw11⟩ := newfacts hW; clear hW; have NE14 := Lib.hid (Nat.ne_of_lt (C9.out.lt)); have NE15 := Lib.hid (Nat.ne_of_lt (D6.out.lt)); have GE16 := Lib.hid hbel10.size; have C17 := Lib.hid (C9.out.gr hgw11); clear C9; have C18 := Lib.hid (D6.out.gr hgw11); clear D6; have hbel19 := hbel10.trans (Below.mono hgw11 hbel10.size); clear hbel10; have D13 := Lib.hid hnw11; have szw11 := hgw11.size; clear hnw11 hgw11 szw11; generalize w4.heap.size = G12 at *; have cc20 : w11.cell? ⟨b, o, none⟩ = some (.int .u8 2) := cB.out _ hbel19))
    refine (Hc2.out _ hbel19).mono ?_
    rintro e w21 ⟨rfl, hbw21⟩
    have C22 := Lib.hid (C17.out.gr hbw21)
    clear C17
    have C23 := Lib.hid (C18.out.gr hbw21)
    clear C18
    have C24 := Lib.hid (D13.out.gr hbw21)
    clear D13
    have hbel25 := hbel19.trans (Below.mono hbw21 hbel19.size)
    clear hbel19
    clear hbw21
    go_wp2_with (first | (refine stM rfl 24 (.tmp 54) (.tmp 53) rfl G12 0 rfl (natsV .u64 lx) rfl 43 (pv (zeros 4) (zeros 4) false) (pv lx (zeros 4) false) C24.out (pv_setX (show (zeros 4).length = 4 from rfl) (show (zeros 4).length = 4 from rfl) L_lx.out) (pv_fitX (show (zeros 4).length = 4 from rfl) (show (zeros 4).length = 4 from rfl) L_lx.out) (i24 L_lx.out) (natsV_one _ _) ?_; intro w26 hgw26 hnw26; have E27 := Lib.hid (C22.out.grown hgw26 (fun e => NE14.out (Option.some.inj e))); clear C22; have E28 := Lib.hid (C23.out.grown hgw26 (fun e => NE15.out (Option.some.inj e))); clear C23; have D29 := Lib.hid hnw26; clear hnw26 C24; have hbel30 := belStore hbel25 hgw26 (GE16.out); clear hgw26; clear hbel25; have cc31 : w26.cell? ⟨b, o, none⟩ = some (.int .u8 2) := cB.out _ hbel30) | (refine wpList_load_mid rfl 24 (.tmp 55) rfl G12 0 rfl (natsV .u64 lx) _ (pv_x (D29.out)) Try.underlying24 rfl (i24 L_lx.out) ?_) | (refine wpList_load_mid rfl 24 (.tmp 4) rfl G5 0 rfl (natsV .u64 lp) _ (blk_all (E28.out)) Try.underlying24 rfl (i24 L_lp.out) ?_))
    refine (Hc3.out _).mono ?_
    rintro e w32 ⟨rfl, hbw32⟩
    have C33 := Lib.hid (E27.out.gr hbw32)
    clear E27
    have C34 := Lib.hid (E28.out.gr hbw32)
    clear E28
    have C35 := Lib.hid (D29.out.gr hbw32)
    clear D29
    have hbel36 := hbel30.trans (Below.mono hbw32 hbel30.size)
    clear hbel30
    clear hbw32
    go_wp2_with (first | (refine wpList_load_mid rfl 24 (.tmp 63) rfl G12 0 rfl (natsV .u64 lx) _ (pv_x (C35.out)) Try.underlying24 rfl (i24 L_lx.out) ?_))
    refine (Hc4.out _).mono ?_
    rintro e w37 ⟨rfl, hbw37⟩
    have C38 := Lib.hid (C33.out.gr hbw37)
    clear C33
    have C39 := Lib.hid (C34.out.gr hbw37)
    clear C34
    have C40 := Lib.hid (C35.out.gr hbw37)
    clear C35
    have hbel41 := hbel36.trans (Below.mono hbw37 hbel36.size)
    clear hbel36
    clear hbw37
    go_wp2_with fail
    refine (Hc5.out _).mono ?_
    rintro e w42 ⟨rfl, hbw42⟩
    have C43 := Lib.hid (C38.out.gr hbw42)
    clear C38
    have C44 := Lib.hid (C39.out.gr hbw42)
    clear C39
    have C45 := Lib.hid (C40.out.gr hbw42)
    clear C40
    have hbel46 := hbel41.trans (Below.mono hbw42 hbel41.size)
    clear hbel41
    clear hbw42
    go_wp2_with (first | (refine stB rfl 24 (.tmp 8) (.tmp 67) rfl w42.heap.size rfl (natsV .u64 (zeros 4)) rfl 24 (natsV .u64 (zeros 4)) (Blk.new w42 24 (natsV .u64 (zeros 4))) (i24 (show (zeros 4).length = 4 from rfl)) (lenEq (show (natsV .u64 (zeros 4)).length = 4 from rfl) (by rw [natsV_length, (show (zeros 4).length = 4 from rfl)])) (natsV_one _ _) ?_; generalize hW : World.setRow _ _ _ = w47; obtain ⟨hgw47, hnw47⟩ := newfacts hW; clear hW; have NE50 := Lib.hid (Nat.ne_of_lt (C44.out.lt)); have NE51 := Lib.hid (Nat.ne_of_lt (C45.out.lt)); have C52 := Lib.hid (C43.out.gr hgw47); clear C43; have C53 := Lib.hid (C44.out.gr hgw47); clear C44; have C54 := Lib.hid (C45.out.gr hgw47); clear C45; have hbel55 := hbel46.trans (Below.mono hgw47 hbel46.size); clear hbel46; have D49 := Lib.hid hnw47; have szw47 := hgw47.size; clear hnw47 hgw47 szw47; generalize w42.heap.size = G48 at *; have cc56 : w47.cell? ⟨b, o, none⟩ = some (.int .u8 2) := cB.out _ hbel55) | (refine stB rfl 43 (.tmp 2) (.tmp 71) rfl w.heap.size rfl (pv (zeros 4) (zeros 4) false) rfl 43 (pv (zeros 4) (zeros 4) false) C52.out (i43 rfl rfl) (lenEq (show (pv (zeros 4) (zeros 4) false).length = 9 from rfl) (show (pv (zeros 4) (zeros 4) false).length = 9 from rfl)) (pv_one _ _ _) ?_))
    refine bodyPost_ret (v := .tuple #[.agg (pv (zeros 4) (zeros 4) false).toArray, .int .i64 62]) ?_ rfl ⟨rfl, below_setRow' hbel55 (by first | exact Nat.le_refl _ | omega) _⟩
    exact results_two Try.results37 _ _ w.heap.size 43 _ (0, 0) _ _ rfl rfl (C52.out.setRow _) Try.underlying43 rfl (by simpa using (i43 rfl rfl))
  · as_aux_lemma =>
    have B0_ := Lib.hid (Blk.new w  43 (pv (zeros 4) (zeros 4) false))
    have bel_ := ((Below.refl w.heap.size w).alloc (Nat.le_refl _) (.cells (pv (zeros 4) (zeros 4) false).toArray 43))
    go_enter Try.func37, Try.ntmps37
    go_wp2_with fail
    refine (Hc1.out _).mono ?_
    rintro e w1 ⟨rfl, hbw1⟩
    have C2 := Lib.hid (B0_.out.gr hbw1)
    clear B0_
    have hbel3 := bel_.trans (Below.mono hbw1 bel_.size)
    clear bel_
    clear hbw1
    go_wp2_with (first | (refine stB rfl 24 (.tmp 4) (.tmp 10) rfl w1.heap.size rfl (natsV .u64 lp) rfl 24 (natsV .u64 (zeros 4)) (Blk.new w1 24 (natsV .u64 (zeros 4))) (i24 L_lp.out) (lenEq (show (natsV .u64 (zeros 4)).length = 4 from rfl) (by rw [natsV_length, L_lp.out])) (natsV_one _ _) ?_; generalize hW : World.setRow _ _ _ = w4; obtain ⟨hgw4, hnw4⟩ := newfacts hW; clear hW; have NE7 := Lib.hid (Nat.ne_of_lt (C2.out.lt)); have GE8 := Lib.hid hbel3.size; have C9 := Lib.hid (C2.out.gr hgw4); clear C2; have hbel10 := hbel3.trans (Below.mono hgw4 hbel3.size); clear hbel3; have D6 := Lib.hid hnw4; have szw4 := hgw4.size; clear hnw4 hgw4 szw4; generalize w1.heap.size = G5 at *) | (refine stB rfl 43 (.tmp 5) (.tmp 11) rfl w4.heap.size rfl (pv (zeros 4) (zeros 4) false) rfl 43 (pv (zeros 4) (zeros 4) false) (Blk.new w4 43 (pv (zeros 4) (zeros 4) false)) (i43 (show (zeros 4).length = 4 from rfl) (show (zeros 4).length = 4 from rfl)) (lenEq (show (pv (zeros 4) (zeros 4) false).length = 9 from rfl) (pv_len (show (zeros 4).length = 4 from rfl) (show (zeros 4).length = 4 from rfl))) (pv_one _ _ _) ?_; generalize hW : World.setRow _ _ _ = w11; obtain ⟨hgw11, hnw11⟩ := newfacts hW; clear hW; have NE14 := Lib.hid (Nat.ne_of_lt (C9.out.lt)); have NE15 := Lib.hid (Nat.ne_of_lt (D6.out.lt)); have GE16 := Lib.hid hbel10.size; have C17 := Lib.hid (C9.out.gr hgw11); clear C9; have C18 := Lib.hid (D6.out.gr hgw11); clear D6; have hbel19 := hbel10.trans (Below.mono hgw11 hbel10.size); clear hbel10; have D13 := Lib.hid hnw11; have szw11 := hgw11.size; clear hnw11 hgw11 szw11; generalize w4.heap.size = G12 at *; have cc20 : w11.cell? ⟨b, o, none⟩ = some (.int .u8 3) := cB.out _ hbel19))
    refine (Hc2.out _ hbel19).mono ?_
    rintro e w21 ⟨rfl, hbw21⟩
    have C22 := Lib.hid (C17.out.gr hbw21)
    clear C17
    have C23 := Lib.hid (C18.out.gr hbw21)
    clear C18
    have C24 := Lib.hid (D13.out.gr hbw21)
    clear D13
    have hbel25 := hbel19.trans (Below.mono hbw21 hbel19.size)
    clear hbel19
    clear hbw21
    go_wp2_with (first | (refine stM rfl 24 (.tmp 54) (.tmp 53) rfl G12 0 rfl (natsV .u64 lx) rfl 43 (pv (zeros 4) (zeros 4) false) (pv lx (zeros 4) false) C24.out (pv_setX (show (zeros 4).length = 4 from rfl) (show (zeros 4).length = 4 from rfl) L_lx.out) (pv_fitX (show (zeros 4).length = 4 from rfl) (show (zeros 4).length = 4 from rfl) L_lx.out) (i24 L_lx.out) (natsV_one _ _) ?_; intro w26 hgw26 hnw26; have E27 := Lib.hid (C22.out.grown hgw26 (fun e => NE14.out (Option.some.inj e))); clear C22; have E28 := Lib.hid (C23.out.grown hgw26 (fun e => NE15.out (Option.some.inj e))); clear C23; have D29 := Lib.hid hnw26; clear hnw26 C24; have hbel30 := belStore hbel25 hgw26 (GE16.out); clear hgw26; clear hbel25; have cc31 : w26.cell? ⟨b, o, none⟩ = some (.int .u8 3) := cB.out _ hbel30) | (refine wpList_load_mid rfl 24 (.tmp 55) rfl G12 0 rfl (natsV .u64 lx) _ (pv_x (D29.out)) Try.underlying24 rfl (i24 L_lx.out) ?_) | (refine wpList_load_mid rfl 24 (.tmp 4) rfl G5 0 rfl (natsV .u64 lp) _ (blk_all (E28.out)) Try.underlying24 rfl (i24 L_lp.out) ?_))
    refine (Hc3.out _).mono ?_
    rintro e w32 ⟨rfl, hbw32⟩
    have C33 := Lib.hid (E27.out.gr hbw32)
    clear E27
    have C34 := Lib.hid (E28.out.gr hbw32)
    clear E28
    have C35 := Lib.hid (D29.out.gr hbw32)
    clear D29
    have hbel36 := hbel30.trans (Below.mono hbw32 hbel30.size)
    clear hbel30
    clear hbw32
    go_wp2_with (first | (refine wpList_load_mid rfl 24 (.tmp 63) rfl G12 0 rfl (natsV .u64 lx) _ (pv_x (C35.out)) Try.underlying24 rfl (i24 L_lx.out) ?_))
    refine (Hc4.out _).mono ?_
    rintro e w37 ⟨rfl, hbw37⟩
    have C38 := Lib.hid (C33.out.gr hbw37)
    clear C33
    have C39 := Lib.hid (C34.out.gr hbw37)
    clear C34
    have C40 := Lib.hid (C35.out.gr hbw37)
    clear C35
    have hbel41 := hbel36.trans (Below.mono hbw37 hbel36.size)
    clear hbel36
    clear hbw37
    go_wp2_with fail
    refine (Hc5.out _).mono ?_
    rintro e w42 ⟨rfl, hbw42⟩
    have C43 := Lib.hid (C38.out.gr hbw42)
    clear C38
    have C44 := Lib.hid (C39.out.gr hbw42)
    clear C39
    have C45 := Lib.hid (C40.out.gr hbw42)
    clear C40
    have hbel46 := hbel41.trans (Below.mono hbw42 hbel41.size)
    clear hbel41
    clear hbw42
    go_wp2_with (first | (refine stB rfl 24 (.tmp 8) (.tmp 67) rfl w42.heap.size rfl (natsV .u64 (zeros 4)) rfl 24 (natsV .u64 (zeros 4)) (Blk.new w42 24 (natsV .u64 (zeros 4))) (i24 (show (zeros 4).length = 4 from rfl)) (lenEq (show (natsV .u64 (zeros 4)).length = 4 from rfl) (by rw [natsV_length, (show (zeros 4).length = 4 from rfl)])) (natsV_one _ _) ?_; generalize hW : World.setRow _ _ _ = w47; obtain ⟨hgw47, hnw47⟩ := newfacts hW; clear hW; have NE50 := Lib.hid (Nat.ne_of_lt (C44.out.lt)); have NE51 := Lib.hid (Nat.ne_of_lt (C45.out.lt)); have C52 := Lib.hid (C43.out.gr hgw47); clear C43; have C53 := Lib.hid (C44.out.gr hgw47); clear C44; have C54 := Lib.hid (C45.out.gr hgw47); clear C45; have hbel55 := hbel46.trans (Below.mono hgw47 hbel46.size); clear hbel46; have D49 := Lib.hid hnw47; have szw47 := hgw47.size; clear hnw47 hgw47 szw47; generalize w42.heap.size = G48 at *; have cc56 : w47.cell? ⟨b, o, none⟩ = some (.int .u8 3) := cB.out _ hbel55) | (refine stB rfl 43 (.tmp 2) (.tmp 71) rfl w.heap.size rfl (pv (zeros 4) (zeros 4) false) rfl 43 (pv (zeros 4) (zeros 4) false) C52.out (i43 rfl rfl) (lenEq (show (pv (zeros 4) (zeros 4) false).length = 9 from rfl) (show (pv (zeros 4) (zeros 4) false).length = 9 from rfl)) (pv_one _ _ _) ?_))
    refine bodyPost_ret (v := .tuple #[.agg (pv (zeros 4) (zeros 4) false).toArray, .int .i64 62]) ?_ rfl ⟨rfl, below_setRow' hbel55 (by first | exact Nat.le_refl _ | omega) _⟩
    exact results_two Try.results37 _ _ w.heap.size 43 _ (0, 0) _ _ rfl rfl (C52.out.setRow _) Try.underlying43 rfl (by simpa using (i43 rfl rfl))
end Go.Proofs.Ytfffmoolkgheaaa
