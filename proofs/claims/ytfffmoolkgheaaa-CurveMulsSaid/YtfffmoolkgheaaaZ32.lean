/- Parts of proofs of statements, each text behind those that it stands on. No condition of its own. -/
import Derived.Test.YtfffmoolkgheaaaZ16
namespace Go.Proofs.Ytfffmoolkgheaaa
open Go.RowKit
set_option linter.unusedVariables false
set_option linter.unusedSimpArgs false
set_option maxRecDepth 100000 in
set_option maxHeartbeats 6400000 in
theorem dadd_a {lx ly mx my lp : List Nat} {iq : Bool} (hlx : lx.length = 4) (hly : ly.length = 4) (hmx : mx.length = 4) (hmy : my.length = 4) (hlp : lp.length = 4)
    (c1 : ∀ w, Calls Try.prog 56 #[] w fun e w' => e = .returned (.agg (natsV .u64 lp).toArray) ∧ Below w.heap.size w w') (w : World) :
    Calls Try.prog 39 #[.agg (pv lx ly true).toArray, .agg (pv mx my iq).toArray] w fun e w' => e = .returned (.agg (pv mx my iq).toArray) ∧ Below w.heap.size w w' := by
  have L_lx := Lib.hid hlx
  clear hlx
  have L_ly := Lib.hid hly
  clear hly
  have L_mx := Lib.hid hmx
  clear hmx
  have L_my := Lib.hid hmy
  clear hmy
  have L_lp := Lib.hid hlp
  clear hlp
  have Hc1 := Lib.hid c1
  clear c1
  have B0_ := Lib.hid (((Blk.new w  43 (pv lx ly true)).alloc (.cells (pv mx my iq).toArray 43)).alloc (.cells (pv (zeros 4) (zeros 4) false).toArray 43))
  have B1_ := Lib.hid ((Blk.new2 w (.cells (pv lx ly true).toArray 43) 43 (pv mx my iq)).alloc (.cells (pv (zeros 4) (zeros 4) false).toArray 43))
  have B2_ := Lib.hid (Blk.new3 w (.cells (pv lx ly true).toArray 43) (.cells (pv mx my iq).toArray 43) 43 (pv (zeros 4) (zeros 4) false))
  have bel_ := ((((Below.refl w.heap.size w).alloc (Nat.le_refl _) (.cells (pv lx ly true).toArray 43)).alloc (by simp) (.cells (pv mx my iq).toArray 43)).alloc (by simp; omega) (.cells (pv (zeros 4) (zeros 4) false).toArray 43))
  go_enter Try.func39, Try.ntmps39
  go_wp2_with fail
  refine (Hc1.out _).mono ?_
  rintro e w1 ⟨rfl, hbw1⟩
  have C2 := Lib.hid (B0_.out.gr hbw1)
  clear B0_
  have C3 := Lib.hid (B1_.out.gr hbw1)
  clear B1_
  have C4 := Lib.hid (B2_.out.gr hbw1)
  clear B2_
  have hbel5 := bel_.trans (Below.mono hbw1 bel_.size)
  clear bel_
  clear hbw1
  go_wp2_with (first | (refine stB rfl 24 (.tmp 5) (.tmp 12) rfl w1.heap.size rfl (natsV .u64 lp) rfl 24 (natsV .u64 (zeros 4)) (Blk.new w1 24 (natsV .u64 (zeros 4))) (i24 L_lp.out) (lenEq (show (natsV .u64 (zeros 4)).length = 4 from rfl) (by rw [natsV_length, L_lp.out])) (natsV_one _ _) ?_; generalize hW : World.setRow _ _ _ = w6; obtain ⟨hgw6, hnw6⟩ := newfacts hW; clear hW; have C9 := Lib.hid (C2.out.gr hgw6); clear C2; have C10 := Lib.hid (C3.out.gr hgw6); clear C3; have C11 := Lib.hid (C4.out.gr hgw6); clear C4; have hbel12 := hbel5.trans (Below.mono hgw6 hbel5.size); clear hbel5; have D8 := Lib.hid hnw6; have szw6 := hgw6.size; clear hnw6 hgw6 szw6; generalize w1.heap.size = G7 at *; have ci13 := pv_i C9.out L_lx.out L_ly.out; have ci14 := pv_i C10.out L_mx.out L_my.out) | (refine wpList_load_mid rfl 43 (.tmp 3) rfl (w.heap.size + 1) 0 rfl (pv mx my iq) _ (blk_all (C10.out)) Try.underlying43 rfl (i43 L_mx.out L_my.out) ?_) | (refine stB rfl 43 (.tmp 4) (.tmp 15) rfl (w.heap.size + 1 + 1) rfl (pv mx my iq) rfl 43 (pv (zeros 4) (zeros 4) false) C11.out (i43 L_mx.out L_my.out) (lenEq (show (pv (zeros 4) (zeros 4) false).length = 9 from rfl) (pv_len L_mx.out L_my.out)) (pv_one _ _ _) ?_))
  refine bodyPost_ret (v := .agg (pv mx my iq).toArray) ?_ rfl ⟨rfl, below_setRow' hbel12 (by first | exact Nat.le_refl _ | omega) _⟩
  exact results_cell_row Try.results39 _ _ (w.heap.size + 1 + 1) 43 _ (0, 0) _ rfl (C11.out.setRow _) Try.underlying43 rfl (by simpa using (i43 L_mx.out L_my.out))
set_option maxRecDepth 100000 in
set_option maxHeartbeats 6400000 in
theorem dadd_b {lx ly mx my lp : List Nat} (hlx : lx.length = 4) (hly : ly.length = 4) (hmx : mx.length = 4) (hmy : my.length = 4) (hlp : lp.length = 4)
    (c1 : ∀ w, Calls Try.prog 56 #[] w fun e w' => e = .returned (.agg (natsV .u64 lp).toArray) ∧ Below w.heap.size w w') (w : World) :
    Calls Try.prog 39 #[.agg (pv lx ly false).toArray, .agg (pv mx my true).toArray] w fun e w' => e = .returned (.agg (pv lx ly false).toArray) ∧ Below w.heap.size w w' := by
  have L_lx := Lib.hid hlx
  clear hlx
  have L_ly := Lib.hid hly
  clear hly
  have L_mx := Lib.hid hmx
  clear hmx
  have L_my := Lib.hid hmy
  clear hmy
  have L_lp := Lib.hid hlp
  clear hlp
  have Hc1 := Lib.hid c1
  clear c1
  have B0_ := Lib.hid (((Blk.new w  43 (pv lx ly false)).alloc (.cells (pv mx my true).toArray 43)).alloc (.cells (pv (zeros 4) (zeros 4) false).toArray 43))
  have B1_ := Lib.hid ((Blk.new2 w (.cells (pv lx ly false).toArray 43) 43 (pv mx my true)).alloc (.cells (pv (zeros 4) (zeros 4) false).toArray 43))
  have B2_ := Lib.hid (Blk.new3 w (.cells (pv lx ly false).toArray 43) (.cells (pv mx my true).toArray 43) 43 (pv (zeros 4) (zeros 4) false))
  have bel_ := ((((Below.refl w.heap.size w).alloc (Nat.le_refl _) (.cells (pv lx ly false).toArray 43)).alloc (by simp) (.cells (pv mx my true).toArray 43)).alloc (by simp; omega) (.cells (pv (zeros 4) (zeros 4) false).toArray 43))
  go_enter Try.func39, Try.ntmps39
  go_wp2_with fail
  refine (Hc1.out _).mono ?_
  rintro e w1 ⟨rfl, hbw1⟩
  have C2 := Lib.hid (B0_.out.gr hbw1)
  clear B0_
  have C3 := Lib.hid (B1_.out.gr hbw1)
  clear B1_
  have C4 := Lib.hid (B2_.out.gr hbw1)
  clear B2_
  have hbel5 := bel_.trans (Below.mono hbw1 bel_.size)
  clear bel_
  clear hbw1
  go_wp2_with (first | (refine stB rfl 24 (.tmp 5) (.tmp 12) rfl w1.heap.size rfl (natsV .u64 lp) rfl 24 (natsV .u64 (zeros 4)) (Blk.new w1 24 (natsV .u64 (zeros 4))) (i24 L_lp.out) (lenEq (show (natsV .u64 (zeros 4)).length = 4 from rfl) (by rw [natsV_length, L_lp.out])) (natsV_one _ _) ?_; generalize hW : World.setRow _ _ _ = w6; obtain ⟨hgw6, hnw6⟩ := newfacts hW; clear hW; have C9 := Lib.hid (C2.out.gr hgw6); clear C2; have C10 := Lib.hid (C3.out.gr hgw6); clear C3; have C11 := Lib.hid (C4.out.gr hgw6); clear C4; have hbel12 := hbel5.trans (Below.mono hgw6 hbel5.size); clear hbel5; have D8 := Lib.hid hnw6; have szw6 := hgw6.size; clear hnw6 hgw6 szw6; generalize w1.heap.size = G7 at *; have ci13 := pv_i C9.out L_lx.out L_ly.out; have ci14 := pv_i C10.out L_mx.out L_my.out) | (refine wpList_load_mid rfl 43 (.tmp 2) rfl w.heap.size 0 rfl (pv lx ly false) _ (blk_all (C9.out)) Try.underlying43 rfl (i43 L_lx.out L_ly.out) ?_) | (refine stB rfl 43 (.tmp 4) (.tmp 18) rfl (w.heap.size + 1 + 1) rfl (pv lx ly false) rfl 43 (pv (zeros 4) (zeros 4) false) C11.out (i43 L_lx.out L_ly.out) (lenEq (show (pv (zeros 4) (zeros 4) false).length = 9 from rfl) (pv_len L_lx.out L_ly.out)) (pv_one _ _ _) ?_))
  refine bodyPost_ret (v := .agg (pv lx ly false).toArray) ?_ rfl ⟨rfl, below_setRow' hbel12 (by first | exact Nat.le_refl _ | omega) _⟩
  exact results_cell_row Try.results39 _ _ (w.heap.size + 1 + 1) 43 _ (0, 0) _ rfl (C11.out.setRow _) Try.underlying43 rfl (by simpa using (i43 L_lx.out L_ly.out))
set_option maxRecDepth 100000 in
set_option maxHeartbeats 6400000 in
theorem dadd_c {lx ly my lp sy : List Nat} (hlx : lx.length = 4) (hly : ly.length = 4) (hmy : my.length = 4) (hlp : lp.length = 4) (hsy : sy.length = 4)
    (c1 : ∀ w, Calls Try.prog 56 #[] w fun e w' => e = .returned (.agg (natsV .u64 lp).toArray) ∧ Below w.heap.size w w')
    (c2 : ∀ w, Calls Try.prog 46 #[.agg (natsV .u64 ly).toArray, .agg (natsV .u64 my).toArray, .agg (natsV .u64 lp).toArray] w fun e w' => e = .returned (.agg (natsV .u64 sy).toArray) ∧ Below w.heap.size w w') (h4 : sy = zeros 4) (w : World) :
    Calls Try.prog 39 #[.agg (pv lx ly false).toArray, .agg (pv lx my false).toArray] w fun e w' => e = .returned (.agg (pv (zeros 4) (zeros 4) true).toArray) ∧ Below w.heap.size w w' := by
  have L_lx := Lib.hid hlx
  clear hlx
  have L_ly := Lib.hid hly
  clear hly
  have L_my := Lib.hid hmy
  clear hmy
  have L_lp := Lib.hid hlp
  clear hlp
  have L_sy := Lib.hid hsy
  clear hsy
  have Hc1 := Lib.hid c1
  clear c1
  have Hc2 := Lib.hid c2
  clear c2
  have Q3 := Lib.hid (fun w => (eql24 lx lx L_lx.out L_lx.out w).trans (by rw [decide_eq_true rfl]))
  have Q4 := Lib.hid (fun w => (eqZ24 sy L_sy.out w).trans (by rw [decide_eq_true h4]))
  clear h4
  have B0_ := Lib.hid (((Blk.new w  43 (pv lx ly false)).alloc (.cells (pv lx my false).toArray 43)).alloc (.cells (pv (zeros 4) (zeros 4) false).toArray 43))
  have B1_ := Lib.hid ((Blk.new2 w (.cells (pv lx ly false).toArray 43) 43 (pv lx my false)).alloc (.cells (pv (zeros 4) (zeros 4) false).toArray 43))
  have B2_ := Lib.hid (Blk.new3 w (.cells (pv lx ly false).toArray 43) (.cells (pv lx my false).toArray 43) 43 (pv (zeros 4) (zeros 4) false))
  have bel_ := ((((Below.refl w.heap.size w).alloc (Nat.le_refl _) (.cells (pv lx ly false).toArray 43)).alloc (by simp) (.cells (pv lx my false).toArray 43)).alloc (by simp; omega) (.cells (pv (zeros 4) (zeros 4) false).toArray 43))
  go_enter Try.func39, Try.ntmps39
  have qf3 := Q3.out
  have qf4 := Q4.out
  go_wp2_with fail
  refine (Hc1.out _).mono ?_
  rintro e w1 ⟨rfl, hbw1⟩
  have C2 := Lib.hid (B0_.out.gr hbw1)
  clear B0_
  have C3 := Lib.hid (B1_.out.gr hbw1)
  clear B1_
  have C4 := Lib.hid (B2_.out.gr hbw1)
  clear B2_
  have hbel5 := bel_.trans (Below.mono hbw1 bel_.size)
  clear bel_
  clear hbw1
  go_wp2_with (first | (refine stB rfl 24 (.tmp 5) (.tmp 12) rfl w1.heap.size rfl (natsV .u64 lp) rfl 24 (natsV .u64 (zeros 4)) (Blk.new w1 24 (natsV .u64 (zeros 4))) (i24 L_lp.out) (lenEq (show (natsV .u64 (zeros 4)).length = 4 from rfl) (by rw [natsV_length, L_lp.out])) (natsV_one _ _) ?_; generalize hW : World.setRow _ _ _ = w6; obtain ⟨hgw6, hnw6⟩ := newfacts hW; clear hW; have C9 := Lib.hid (C2.out.gr hgw6); clear C2; have C10 := Lib.hid (C3.out.gr hgw6); clear C3; have C11 := Lib.hid (C4.out.gr hgw6); clear C4; have hbel12 := hbel5.trans (Below.mono hgw6 hbel5.size); clear hbel5; have D8 := Lib.hid hnw6; have szw6 := hgw6.size; clear hnw6 hgw6 szw6; generalize w1.heap.size = G7 at *; have ci13 := pv_i C9.out L_lx.out L_ly.out; have ci14 := pv_i C10.out L_lx.out L_my.out) | (refine wpList_load_mid rfl 24 (.tmp 19) rfl w.heap.size 0 rfl (natsV .u64 lx) _ (pv_x (C9.out)) Try.underlying24 rfl (i24 L_lx.out) ?_) | (refine wpList_load_mid rfl 24 (.tmp 21) rfl (w.heap.size + 1) 0 rfl (natsV .u64 lx) _ (pv_x (C10.out)) Try.underlying24 rfl (i24 L_lx.out) ?_) | (refine ldwM 24 (.tmp 25) rfl w.heap.size 4 rfl (natsV .u64 ly) _ (pv_y (C9.out) L_lx.out) Try.underlying24 rfl (i24 L_ly.out) 5 true rfl 24 rfl rfl ?_) | (refine ldwM 24 (.tmp 27) rfl (w.heap.size + 1) 4 rfl (natsV .u64 my) _ (pv_y (C10.out) L_lx.out) Try.underlying24 rfl (i24 L_my.out) 5 true rfl 24 rfl rfl ?_) | (refine ldwM 24 (.tmp 5) rfl G7 0 rfl (natsV .u64 lp) _ (blk_all (D8.out)) Try.underlying24 rfl (i24 L_lp.out) 5 true rfl 24 rfl rfl ?_))
  refine (Hc2.out _).mono ?_
  rintro e w15 ⟨rfl, hbw15⟩
  have C16 := Lib.hid (C9.out.gr hbw15)
  clear C9
  have C17 := Lib.hid (C10.out.gr hbw15)
  clear C10
  have C18 := Lib.hid (C11.out.gr hbw15)
  clear C11
  have C19 := Lib.hid (D8.out.gr hbw15)
  clear D8
  have hbel20 := hbel12.trans (Below.mono hbw15 hbel12.size)
  clear hbel12
  clear hbw15
  go_wp2_with (first | (refine stB rfl 43 (.tmp 4) (.tmp 34) rfl (w.heap.size + 1 + 1) rfl (pv (zeros 4) (zeros 4) true) rfl 43 (pv (zeros 4) (zeros 4) false) C18.out (i43 rfl rfl) (lenEq (show (pv (zeros 4) (zeros 4) false).length = 9 from rfl) (show (pv (zeros 4) (zeros 4) true).length = 9 from rfl)) (pv_one _ _ _) ?_))
  refine bodyPost_ret (v := .agg (pv (zeros 4) (zeros 4) true).toArray) ?_ rfl ⟨rfl, below_setRow' hbel20 (by first | exact Nat.le_refl _ | omega) _⟩
  exact results_cell_row Try.results39 _ _ (w.heap.size + 1 + 1) 43 _ (0, 0) _ rfl (C18.out.setRow _) Try.underlying43 rfl (by simpa using (i43 rfl rfl))
end Go.Proofs.Ytfffmoolkgheaaa
