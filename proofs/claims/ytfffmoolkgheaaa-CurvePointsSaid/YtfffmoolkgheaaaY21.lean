/- Parts of proofs of statements, each text behind those that it stands on. No condition of its own. -/
import Derived.Test.YtfffmoolkgheaaaY17
namespace Go.Proofs.Ytfffmoolkgheaaa
open Go.RowKit
set_option linter.unusedVariables false
set_option linter.unusedSimpArgs false
set_option maxRecDepth 100000 in
set_option maxHeartbeats 1600000 in
theorem dec_form_a {A : Option Addr} {n c : Nat} (w : World) 
    (h1 : n ≠ 65)
    (h2 : n ≠ 33) :
    Calls Try.prog 36 #[.slice A n c] w fun e w' => e = .returned (.tuple #[.agg (pv (zeros 4) (zeros 4) false).toArray, .int .i64 61]) ∧ Below w.heap.size w w' := by
  have e1 : ((n : Int) == 65) = false := by rw [beq_eq_false_iff_ne]; omega
  have e2 : ((n : Int) == 33) = false := by rw [beq_eq_false_iff_ne]; omega
  clear h1 h2
  have B0_ := Lib.hid (Blk.new w  43 (pv (zeros 4) (zeros 4) false))
  have bel_ := ((Below.refl w.heap.size w).alloc (Nat.le_refl _) (.cells (pv (zeros 4) (zeros 4) false).toArray 43))
  go_enter Try.func36, Try.ntmps36
  go_wp2_with (first | (refine stB rfl 43 (.tmp 2) (.tmp 44) rfl w.heap.size rfl (pv (zeros 4) (zeros 4) false) rfl 43 (pv (zeros 4) (zeros 4) false) B0_.out (i43 rfl rfl) (lenEq (show (pv (zeros 4) (zeros 4) false).length = 9 from rfl) (show (pv (zeros 4) (zeros 4) false).length = 9 from rfl)) (pv_one _ _ _) ?_))
  refine bodyPost_ret (v := .tuple #[.agg (pv (zeros 4) (zeros 4) false).toArray, .int .i64 61]) ?_ rfl ⟨rfl, below_setRow' bel_ (by first | exact Nat.le_refl _ | omega) _⟩
  exact results_two Try.results36 _ _ w.heap.size 43 _ (0, 0) _ _ rfl rfl (B0_.out.setRow _) Try.underlying43 rfl (by simpa using (i43 rfl rfl))
set_option maxRecDepth 100000 in
set_option maxHeartbeats 1600000 in
theorem dec_form_b {b o c x : Nat} {l : List Nat} (w : World) 
    (hB : BIn w (some ⟨b, o, none⟩) 65 c l)
    (h0 : l.getD 0 0 = x)
    (h1 : x ≠ 4) :
    Calls Try.prog 36 #[.slice (some ⟨b, o, none⟩) 65 c] w fun e w' => e = .returned (.tuple #[.agg (pv (zeros 4) (zeros 4) false).toArray, .int .i64 61]) ∧ Below w.heap.size w w' := by
  have cB := Lib.hid (fun (W : World) (h : Below w.heap.size w W) => bin_cell hB h 0 (by decide))
  clear hB
  rw [h0] at cB
  clear h0
  have e1 : ((x : Int) == 4) = false := by rw [beq_eq_false_iff_ne]; omega
  clear h1
  have B0_ := Lib.hid (Blk.new w  43 (pv (zeros 4) (zeros 4) false))
  have bel_ := ((Below.refl w.heap.size w).alloc (Nat.le_refl _) (.cells (pv (zeros 4) (zeros 4) false).toArray 43))
  go_enter Try.func36, Try.ntmps36
  have c0 : (w.alloc (.cells #[.int .u64 0, .int .u64 0, .int .u64 0, .int .u64 0, .int .u64 0, .int .u64 0, .int .u64 0, .int .u64 0, .bool false] 43)).cell? ⟨b, o, none⟩ = some (.int .u8 (x : Nat)) := cB.out _ bel_
  go_wp2_with (first | (refine stB rfl 43 (.tmp 2) (.tmp 44) rfl w.heap.size rfl (pv (zeros 4) (zeros 4) false) rfl 43 (pv (zeros 4) (zeros 4) false) B0_.out (i43 rfl rfl) (lenEq (show (pv (zeros 4) (zeros 4) false).length = 9 from rfl) (show (pv (zeros 4) (zeros 4) false).length = 9 from rfl)) (pv_one _ _ _) ?_))
  refine bodyPost_ret (v := .tuple #[.agg (pv (zeros 4) (zeros 4) false).toArray, .int .i64 61]) ?_ rfl ⟨rfl, below_setRow' bel_ (by first | exact Nat.le_refl _ | omega) _⟩
  exact results_two Try.results36 _ _ w.heap.size 43 _ (0, 0) _ _ rfl rfl (B0_.out.setRow _) Try.underlying43 rfl (by simpa using (i43 rfl rfl))
set_option maxRecDepth 100000 in
set_option maxHeartbeats 1600000 in
theorem dec_form_c {b o c x : Nat} {l : List Nat} (w : World) 
    (hB : BIn w (some ⟨b, o, none⟩) 33 c l)
    (h0 : l.getD 0 0 = x)
    (h1 : x ≠ 2)
    (h2 : x ≠ 3) :
    Calls Try.prog 36 #[.slice (some ⟨b, o, none⟩) 33 c] w fun e w' => e = .returned (.tuple #[.agg (pv (zeros 4) (zeros 4) false).toArray, .int .i64 61]) ∧ Below w.heap.size w w' := by
  have cB := Lib.hid (fun (W : World) (h : Below w.heap.size w W) => bin_cell hB h 0 (by decide))
  clear hB
  rw [h0] at cB
  clear h0
  have e1 : ((x : Int) == 2) = false := by rw [beq_eq_false_iff_ne]; omega
  have e2 : ((x : Int) == 3) = false := by rw [beq_eq_false_iff_ne]; omega
  clear h1 h2
  have B0_ := Lib.hid (Blk.new w  43 (pv (zeros 4) (zeros 4) false))
  have bel_ := ((Below.refl w.heap.size w).alloc (Nat.le_refl _) (.cells (pv (zeros 4) (zeros 4) false).toArray 43))
  go_enter Try.func36, Try.ntmps36
  have c0 : (w.alloc (.cells #[.int .u64 0, .int .u64 0, .int .u64 0, .int .u64 0, .int .u64 0, .int .u64 0, .int .u64 0, .int .u64 0, .bool false] 43)).cell? ⟨b, o, none⟩ = some (.int .u8 (x : Nat)) := cB.out _ bel_
  go_wp2_with (first | (refine stB rfl 43 (.tmp 2) (.tmp 44) rfl w.heap.size rfl (pv (zeros 4) (zeros 4) false) rfl 43 (pv (zeros 4) (zeros 4) false) B0_.out (i43 rfl rfl) (lenEq (show (pv (zeros 4) (zeros 4) false).length = 9 from rfl) (show (pv (zeros 4) (zeros 4) false).length = 9 from rfl)) (pv_one _ _ _) ?_))
  refine bodyPost_ret (v := .tuple #[.agg (pv (zeros 4) (zeros 4) false).toArray, .int .i64 61]) ?_ rfl ⟨rfl, below_setRow' bel_ (by first | exact Nat.le_refl _ | omega) _⟩
  exact results_two Try.results36 _ _ w.heap.size 43 _ (0, 0) _ _ rfl rfl (B0_.out.setRow _) Try.underlying43 rfl (by simpa using (i43 rfl rfl))
end Go.Proofs.Ytfffmoolkgheaaa
namespace Go.Proofs.Ytfffmoolkgheaaa
open Go.RowKit
set_option linter.unusedVariables false
set_option linter.unusedSimpArgs false
set_option maxRecDepth 100000 in
set_option maxHeartbeats 3200000 in
theorem ddec_even {lp lx rs ly : List Nat} {b o c x : Nat} {l : List Nat} {y0 : Nat} (w : World) (hlp : lp.length = 4) (hlx : lx.length = 4) (hrs : rs.length = 4) (hly : ly.length = 4)
    (hB : BIn w (some ⟨b, o, none⟩) 33 c l)
    (h0 : l.getD 0 0 = x)
    (hx : x = 2)
    (hy : ly[0]? = some y0)
    (hp : y0 % 2 = 0)
    (c1 : ∀ w, Calls Try.prog 56 #[] w fun e w' => e = .returned (.agg (natsV .u64 lp).toArray) ∧ Below w.heap.size w w')
    (c2 : ∀ W, Below w.heap.size w W → Calls Try.prog 78 #[.slice (some ⟨b, o + 1, none⟩) 32 (c - 1)] W fun e w' => e = .returned (.agg (natsV .u64 lx).toArray) ∧ Below W.heap.size W w')
    (c3 : ∀ w, Calls Try.prog 64 #[.agg (natsV .u64 lx).toArray, .agg (natsV .u64 lp).toArray] w fun e w' => e = .returned (.bool true) ∧ Below w.heap.size w w')
    (c4 : ∀ w, Calls Try.prog 66 #[.agg (natsV .u64 lx).toArray] w fun e w' => e = .returned (.agg (natsV .u64 rs).toArray) ∧ Below w.heap.size w w')
    (c5 : ∀ w, Calls Try.prog 79 #[.agg (natsV .u64 rs).toArray] w fun e w' => e = .returned (.tuple #[.agg (natsV .u64 ly).toArray, .bool true]) ∧ Below w.heap.size w w') :
    Calls Try.prog 37 #[.slice (some ⟨b, o, none⟩) 33 c] w fun e w' => e = .returned (.tuple #[.agg (pv lx ly false).toArray, .int .i64 0]) ∧ Below w.heap.size w w' := by
  have L_lp := Lib.hid hlp
  clear hlp
  have L_lx := Lib.hid hlx
  clear hlx
  have L_rs := Lib.hid hrs
  clear hrs
  have L_ly := Lib.hid hly
  clear hly
  have Hc1 := Lib.hid c1
  clear c1
  have Hc2 := Lib.hid c2
  clear c2
  have Hc3 := Lib.hid c3
  clear c3
  have Hc4 := Lib.hid c4
  clear c4
  have Hc5 := Lib.hid c5
  clear c5
  have hc1 := hB.2.1
  have hc2 := hB.2.2.1
  unfold maxLen at hc2
  have h1c : ¬ (c = 1) := by omega
  have h33c : ¬ (c = 33) ∨ True := .inr trivial
  have cB := Lib.hid (fun (W : World) (h : Below w.heap.size w W) => bin_cell hB h 0 (by decide))
  clear hB
  rw [h0] at cB
  clear h0
  subst hx
  have B0_ := Lib.hid (Blk.new w  43 (pv (zeros 4) (zeros 4) false))
  have bel_ := ((Below.refl w.heap.size w).alloc (Nat.le_refl _) (.cells (pv (zeros 4) (zeros 4) false).toArray 43))
  go_enter Try.func37, Try.ntmps37
  go_wp2_with fail
  refine (Hc1.out _).mono ?_
  rintro e w1 ⟨rfl, hbw1⟩
  have C2 := Lib.hid (B0_.out.gr hbw1)
  clear B0_
  have hbel3 := bel_.trans (Below.mono hbw1 bel_.size)
  clear bel_
  clear hbw1
  go_wp2_with (first | (refine stB rfl 24 (.tmp 4) (.tmp 10) rfl w1.heap.size rfl (natsV .u64 lp) rfl 24 (natsV .u64 (zeros 4)) (Blk.new w1 24 (natsV .u64 (zeros 4))) (i24 L_lp.out) (lenEq (show (natsV .u64 (zeros 4)).length = 4 from rfl) (by rw [natsV_length, L_lp.out])) (natsV_one _ _) ?_; generalize hW : World.setRow _ _ _ = w4; obtain ⟨hgw4, hnw4⟩ := newfacts hW; clear hW; have NE7 := Lib.hid (Nat.ne_of_lt (C2.out.lt)); have GE8 := Lib.hid hbel3.size; have C9 := Lib.hid (C2.out.gr hgw4); clear C2; have hbel10 := hbel3.trans (Below.mono hgw4 hbel3.size); clear hbel3; have D6 := Lib.hid hnw4; have szw4 := hgw4.size; clear hnw4 hgw4 szw4; generalize w1.heap.size = G5 at *) | (refine stB rfl 43 (.tmp 5) (.tmp 11) rfl w4.heap.size rfl (pv (zeros 4) (zeros 4) false) rfl 43 (pv (zeros 4) (zeros 4) false) (Blk.new w4 43 (pv (zeros 4) (zeros 4) false)) (i43 (show (zeros 4).length = 4 from rfl) (show (zeros 4).length = 4 from rfl)) (lenEq (show (pv (zeros 4) (zeros 4) false).length = 9 from rfl) (pv_len (show (zeros 4).length = 4 from rfl) (show (zeros 4).length = 4 from rfl))) (pv_one _ _ _) ?_; generalize hW : World.setRow _ _ _ = w11; obtain ⟨hgw11, hnw11⟩ := newfacts hW; clear hW; have NE14 := Lib.hid (Nat.ne_of_lt (C9.out.lt)); have NE15 := Lib.hid (Nat.ne_of_lt (D6.out.lt)); have GE16 := Lib.hid hbel10.size; have C17 := Lib.hid (C9.out.gr hgw11); clear C9; have C18 := Lib.hid (D6.out.gr hgw11); clear D6; have hbel19 := hbel10.trans (Below.mono hgw11 hbel10.size); clear hbel10; have D13 := Lib.hid hnw11; have szw11 := hgw11.size; clear hnw11 hgw11 szw11; generalize w4.heap.size = G12 at *; have cc20 : w11.cell? ⟨b, o, none⟩ = some (.int .u8 2) := cB.out _ hbel19))
  refine (Hc2.out _ hbel19).mono ?_
  rintro e w21 ⟨rfl, hbw21⟩
  have C22 := Lib.hid (C17.out.gr hbw21)
  clear C17
  have C23 := Lib.hid (C18.out.gr hbw21)
  clear C18
  have C24 := Lib.hid (D13.out.gr hbw21)
  clear D13
  have hbel25 := hbel19.trans (Below.mono hbw21 hbel19.size)
  clear hbel19
  clear hbw21
  go_wp2_with (first | (refine stM rfl 24 (.tmp 54) (.tmp 53) rfl G12 0 rfl (natsV .u64 lx) rfl 43 (pv (zeros 4) (zeros 4) false) (pv lx (zeros 4) false) C24.out (pv_setX (show (zeros 4).length = 4 from rfl) (show (zeros 4).length = 4 from rfl) L_lx.out) (pv_fitX (show (zeros 4).length = 4 from rfl) (show (zeros 4).length = 4 from rfl) L_lx.out) (i24 L_lx.out) (natsV_one _ _) ?_; intro w26 hgw26 hnw26; have E27 := Lib.hid (C22.out.grown hgw26 (fun e => NE14.out (Option.some.inj e))); clear C22; have E28 := Lib.hid (C23.out.grown hgw26 (fun e => NE15.out (Option.some.inj e))); clear C23; have D29 := Lib.hid hnw26; clear hnw26 C24; have hbel30 := belStore hbel25 hgw26 (GE16.out); clear hgw26; clear hbel25; have cc31 : w26.cell? ⟨b, o, none⟩ = some (.int .u8 2) := cB.out _ hbel30) | (refine wpList_load_mid rfl 24 (.tmp 55) rfl G12 0 rfl (natsV .u64 lx) _ (pv_x (D29.out)) Try.underlying24 rfl (i24 L_lx.out) ?_) | (refine wpList_load_mid rfl 24 (.tmp 4) rfl G5 0 rfl (natsV .u64 lp) _ (blk_all (E28.out)) Try.underlying24 rfl (i24 L_lp.out) ?_))
  refine (Hc3.out _).mono ?_
  rintro e w32 ⟨rfl, hbw32⟩
  have C33 := Lib.hid (E27.out.gr hbw32)
  clear E27
  have C34 := Lib.hid (E28.out.gr hbw32)
  clear E28
  have C35 := Lib.hid (D29.out.gr hbw32)
  clear D29
  have hbel36 := hbel30.trans (Below.mono hbw32 hbel30.size)
  clear hbel30
  clear hbw32
  go_wp2_with (first | (refine wpList_load_mid rfl 24 (.tmp 63) rfl G12 0 rfl (natsV .u64 lx) _ (pv_x (C35.out)) Try.underlying24 rfl (i24 L_lx.out) ?_))
  refine (Hc4.out _).mono ?_
  rintro e w37 ⟨rfl, hbw37⟩
  have C38 := Lib.hid (C33.out.gr hbw37)
  clear C33
  have C39 := Lib.hid (C34.out.gr hbw37)
  clear C34
  have C40 := Lib.hid (C35.out.gr hbw37)
  clear C35
  have hbel41 := hbel36.trans (Below.mono hbw37 hbel36.size)
  clear hbel36
  clear hbw37
  go_wp2_with fail
  refine (Hc5.out _).mono ?_
  rintro e w42 ⟨rfl, hbw42⟩
  have C43 := Lib.hid (C38.out.gr hbw42)
  clear C38
  have C44 := Lib.hid (C39.out.gr hbw42)
  clear C39
  have C45 := Lib.hid (C40.out.gr hbw42)
  clear C40
  have hbel46 := hbel41.trans (Below.mono hbw42 hbel41.size)
  clear hbel41
  clear hbw42
  go_wp2_with (first | (refine stB rfl 24 (.tmp 8) (.tmp 67) rfl w42.heap.size rfl (natsV .u64 ly) rfl 24 (natsV .u64 (zeros 4)) (Blk.new w42 24 (natsV .u64 (zeros 4))) (i24 L_ly.out) (lenEq (show (natsV .u64 (zeros 4)).length = 4 from rfl) (by rw [natsV_length, L_ly.out])) (natsV_one _ _) ?_; generalize hW : World.setRow _ _ _ = w47; obtain ⟨hgw47, hnw47⟩ := newfacts hW; clear hW; have NE50 := Lib.hid (Nat.ne_of_lt (C44.out.lt)); have NE51 := Lib.hid (Nat.ne_of_lt (C45.out.lt)); have C52 := Lib.hid (C43.out.gr hgw47); clear C43; have C53 := Lib.hid (C44.out.gr hgw47); clear C44; have C54 := Lib.hid (C45.out.gr hgw47); clear C45; have hbel55 := hbel46.trans (Below.mono hgw47 hbel46.size); clear hbel46; have D49 := Lib.hid hnw47; have szw47 := hgw47.size; clear hnw47 hgw47 szw47; generalize w42.heap.size = G48 at *; have cc56 : w47.cell? ⟨b, o, none⟩ = some (.int .u8 2) := cB.out _ hbel55) | (refine wpList_load_mid rfl 24 (.tmp 8) rfl G48 0 rfl (natsV .u64 ly) _ (blk_all (D49.out)) Try.underlying24 rfl (i24 L_ly.out) ?_) | (refine stM rfl 24 (.tmp 73) (.tmp 72) rfl G12 4 rfl (natsV .u64 ly) rfl 43 (pv lx (zeros 4) false) (pv lx ly false) C54.out (pv_setY L_lx.out (show (zeros 4).length = 4 from rfl) L_ly.out) (pv_fitY L_lx.out (show (zeros 4).length = 4 from rfl) L_ly.out) (i24 L_ly.out) (natsV_one _ _) ?_; intro w57 hgw57 hnw57; have E58 := Lib.hid (C52.out.grown hgw57 (fun e => NE14.out (Option.some.inj e))); clear C52; have E59 := Lib.hid (C53.out.grown hgw57 (fun e => NE15.out (Option.some.inj e))); clear C53; have E60 := Lib.hid (D49.out.grown hgw57 (fun e => (Ne.symm NE51.out) (Option.some.inj e))); clear D49; have D61 := Lib.hid hnw57; clear hnw57 C54; have hbel62 := belStore hbel55 hgw57 (GE16.out); clear hgw57; clear hbel55; have cc63 : w57.cell? ⟨b, o, none⟩ = some (.int .u8 2) := cB.out _ hbel62))
  have c2 : w57.cell? ⟨b, o, none⟩ = some (.int .u8 2) := cB.out _ hbel62
  have c3 : w57.cell? ⟨G12, 4, none⟩ = some (.int .u64 (y0 : Nat)) := pv_y0 D61.out L_lx.out hy
  have f3 := D61.out.free 4
  have m3 : ((y0 : Int)) % 2 = 0 := by omega
  clear hy hp
  go_quiet (fail)
  have hne : ((y0 : Int).tmod 2 != (IntKind.u64.wrap 2).tmod 2) = false := by rw [Int.tmod_eq_emod_of_nonneg (by omega), m3]; decide
  clear c2 c3 f3 m3
  have Q65 := Lib.hid (E58.out.drewN nq)
  clear E58
  have Q66 := Lib.hid (E59.out.drewN nq)
  clear E59
  have Q67 := Lib.hid (D61.out.drewN nq)
  clear D61
  have Q68 := Lib.hid (E60.out.drewN nq)
  clear E60
  have hbel69 := below_drewN hbel62 nq
  clear hbel62
  generalize w57.drewN nq = w64 at *
  go_wp2_with (first | (refine wpList_load_mid rfl 43 (.tmp 5) rfl G12 0 rfl (pv lx ly false) _ (blk_all (Q67.out)) Try.underlying43 rfl (i43 L_lx.out L_ly.out) ?_) | (refine stB rfl 43 (.tmp 2) (.tmp 94) rfl w.heap.size rfl (pv lx ly false) rfl 43 (pv (zeros 4) (zeros 4) false) Q65.out (i43 L_lx.out L_ly.out) (lenEq (show (pv (zeros 4) (zeros 4) false).length = 9 from rfl) (pv_len L_lx.out L_ly.out)) (pv_one _ _ _) ?_))
  refine bodyPost_ret (v := .tuple #[.agg (pv lx ly false).toArray, .int .i64 0]) ?_ rfl ⟨rfl, below_setRow' hbel69 (by first | exact Nat.le_refl _ | omega) _⟩
  exact results_two Try.results37 _ _ w.heap.size 43 _ (0, 0) _ _ rfl rfl (Q65.out.setRow _) Try.underlying43 rfl (by simpa using (i43 L_lx.out L_ly.out))
set_option maxRecDepth 100000 in
set_option maxHeartbeats 3200000 in
theorem ddec_odd {lp lx rs lr ly : List Nat} {b o c x : Nat} {l : List Nat} {y0 : Nat} (w : World) (hlp : lp.length = 4) (hlx : lx.length = 4) (hrs : rs.length = 4) (hlr : lr.length = 4) (hly : ly.length = 4)
    (hB : BIn w (some ⟨b, o, none⟩) 33 c l)
    (h0 : l.getD 0 0 = x)
    (hx : x = 3)
    (hy : ly[0]? = some y0)
    (hp : y0 % 2 = 1)
    (c1 : ∀ w, Calls Try.prog 56 #[] w fun e w' => e = .returned (.agg (natsV .u64 lp).toArray) ∧ Below w.heap.size w w')
    (c2 : ∀ W, Below w.heap.size w W → Calls Try.prog 78 #[.slice (some ⟨b, o + 1, none⟩) 32 (c - 1)] W fun e w' => e = .returned (.agg (natsV .u64 lx).toArray) ∧ Below W.heap.size W w')
    (c3 : ∀ w, Calls Try.prog 64 #[.agg (natsV .u64 lx).toArray, .agg (natsV .u64 lp).toArray] w fun e w' => e = .returned (.bool true) ∧ Below w.heap.size w w')
    (c4 : ∀ w, Calls Try.prog 66 #[.agg (natsV .u64 lx).toArray] w fun e w' => e = .returned (.agg (natsV .u64 rs).toArray) ∧ Below w.heap.size w w')
    (c5 : ∀ w, Calls Try.prog 79 #[.agg (natsV .u64 rs).toArray] w fun e w' => e = .returned (.tuple #[.agg (natsV .u64 lr).toArray, .bool true]) ∧ Below w.heap.size w w')
    (c6 : ∀ w, Calls Try.prog 74 #[.agg (natsV .u64 (zeros 4)).toArray, .agg (natsV .u64 lr).toArray, .agg (natsV .u64 lp).toArray] w fun e w' => e = .returned (.agg (natsV .u64 ly).toArray) ∧ Below w.heap.size w w') :
    Calls Try.prog 37 #[.slice (some ⟨b, o, none⟩) 33 c] w fun e w' => e = .returned (.tuple #[.agg (pv lx ly false).toArray, .int .i64 0]) ∧ Below w.heap.size w w' := by
  have L_lp := Lib.hid hlp
  clear hlp
  have L_lx := Lib.hid hlx
  clear hlx
  have L_rs := Lib.hid hrs
  clear hrs
  have L_lr := Lib.hid hlr
  clear hlr
  have L_ly := Lib.hid hly
  clear hly
  have Hc1 := Lib.hid c1
  clear c1
  have Hc2 := Lib.hid c2
  clear c2
  have Hc3 := Lib.hid c3
  clear c3
  have Hc4 := Lib.hid c4
  clear c4
  have Hc5 := Lib.hid c5
  clear c5
  have Hc6 := Lib.hid c6
  clear c6
  have hc1 := hB.2.1
  have hc2 := hB.2.2.1
  unfold maxLen at hc2
  have h1c : ¬ (c = 1) := by omega
  have h33c : ¬ (c = 33) ∨ True := .inr trivial
  have cB := Lib.hid (fun (W : World) (h : Below w.heap.size w W) => bin_cell hB h 0 (by decide))
  clear hB
  rw [h0] at cB
  clear h0
  subst hx
  have B0_ := Lib.hid (Blk.new w  43 (pv (zeros 4) (zeros 4) false))
  have bel_ := ((Below.refl w.heap.size w).alloc (Nat.le_refl _) (.cells (pv (zeros 4) (zeros 4) false).toArray 43))
  go_enter Try.func37, Try.ntmps37
  go_wp2_with fail
  refine (Hc1.out _).mono ?_
  rintro e w1 ⟨rfl, hbw1⟩
  have C2 := Lib.hid (B0_.out.gr hbw1)
  clear B0_
  have hbel3 := bel_.trans (Below.mono hbw1 bel_.size)
  clear bel_
  clear hbw1
  go_wp2_with (first | (refine stB rfl 24 (.tmp 4) (.tmp 10) rfl w1.heap.size rfl (natsV .u64 lp) rfl 24 (natsV .u64 (zeros 4)) (Blk.new w1 24 (natsV .u64 (zeros 4))) (i24 L_lp.out) (lenEq (show (natsV .u64 (zeros 4)).length = 4 from rfl) (by rw [natsV_length, L_lp.out])) (natsV_one _ _) ?_; generalize hW : World.setRow _ _ _ = w4; obtain ⟨hgw4, hnw4⟩ := newfacts hW; clear hW; have NE7 := Lib.hid (Nat.ne_of_lt (C2.out.lt)); have GE8 := Lib.hid hbel3.size; have C9 := Lib.hid (C2.out.gr hgw4); clear C2; have hbel10 := hbel3.trans (Below.mono hgw4 hbel3.size); clear hbel3; have D6 := Lib.hid hnw4; have szw4 := hgw4.size; clear hnw4 hgw4 szw4; generalize w1.heap.size = G5 at *) | (refine stB rfl 43 (.tmp 5) (.tmp 11) rfl w4.heap.size rfl (pv (zeros 4) (zeros 4) false) rfl 43 (pv (zeros 4) (zeros 4) false) (Blk.new w4 43 (pv (zeros 4) (zeros 4) false)) (i43 (show (zeros 4).length = 4 from rfl) (show (zeros 4).length = 4 from rfl)) (lenEq (show (pv (zeros 4) (zeros 4) false).length = 9 from rfl) (pv_len (show (zeros 4).length = 4 from rfl) (show (zeros 4).length = 4 from rfl))) (pv_one _ _ _) ?_; generalize hW : World.setRow _ _ _ = w11; obtain ⟨hgw11, hnw11⟩ := newfacts hW; clear hW; have NE14 := Lib.hid (Nat.ne_of_lt (C9.out.lt)); have NE15 := Lib.hid (Nat.ne_of_lt (D6.out.lt)); have GE16 := Lib.hid hbel10.size; have C17 := Lib.hid (C9.out.gr hgw11); clear C9; have C18 := Lib.hid (D6.out.gr hgw11); clear D6; have hbel19 := hbel10.trans (Below.mono hgw11 hbel10.size); clear hbel10; have D13 := Lib.hid hnw11; have szw11 := hgw11.size; clear hnw11 hgw11 szw11; generalize w4.heap.size = G12 at *; have cc20 : w11.cell? ⟨b, o, none⟩ = some (.int .u8 3) := cB.out _ hbel19))
  refine (Hc2.out _ hbel19).mono ?_
  rintro e w21 ⟨rfl, hbw21⟩
  have C22 := Lib.hid (C17.out.gr hbw21)
  clear C17
  have C23 := Lib.hid (C18.out.gr hbw21)
  clear C18
  have C24 := Lib.hid (D13.out.gr hbw21)
  clear D13
  have hbel25 := hbel19.trans (Below.mono hbw21 hbel19.size)
  clear hbel19
  clear hbw21
  go_wp2_with (first | (refine stM rfl 24 (.tmp 54) (.tmp 53) rfl G12 0 rfl (natsV .u64 lx) rfl 43 (pv (zeros 4) (zeros 4) false) (pv lx (zeros 4) false) C24.out (pv_setX (show (zeros 4).length = 4 from rfl) (show (zeros 4).length = 4 from rfl) L_lx.out) (pv_fitX (show (zeros 4).length = 4 from rfl) (show (zeros 4).length = 4 from rfl) L_lx.out) (i24 L_lx.out) (natsV_one _ _) ?_; intro w26 hgw26 hnw26; have E27 := Lib.hid (C22.out.grown hgw26 (fun e => NE14.out (Option.some.inj e))); clear C22; have E28 := Lib.hid (C23.out.grown hgw26 (fun e => NE15.out (Option.some.inj e))); clear C23; have D29 := Lib.hid hnw26; clear hnw26 C24; have hbel30 := belStore hbel25 hgw26 (GE16.out); clear hgw26; clear hbel25; have cc31 : w26.cell? ⟨b, o, none⟩ = some (.int .u8 3) := cB.out _ hbel30) | (refine wpList_load_mid rfl 24 (.tmp 55) rfl G12 0 rfl (natsV .u64 lx) _ (pv_x (D29.out)) Try.underlying24 rfl (i24 L_lx.out) ?_) | (refine wpList_load_mid rfl 24 (.tmp 4) rfl G5 0 rfl (natsV .u64 lp) _ (blk_all (E28.out)) Try.underlying24 rfl (i24 L_lp.out) ?_))
  refine (Hc3.out _).mono ?_
  rintro e w32 ⟨rfl, hbw32⟩
  have C33 := Lib.hid (E27.out.gr hbw32)
  clear E27
  have C34 := Lib.hid (E28.out.gr hbw32)
  clear E28
  have C35 := Lib.hid (D29.out.gr hbw32)
  clear D29
  have hbel36 := hbel30.trans (Below.mono hbw32 hbel30.size)
  clear hbel30
  clear hbw32
  go_wp2_with (first | (refine wpList_load_mid rfl 24 (.tmp 63) rfl G12 0 rfl (natsV .u64 lx) _ (pv_x (C35.out)) Try.underlying24 rfl (i24 L_lx.out) ?_))
  refine (Hc4.out _).mono ?_
  rintro e w37 ⟨rfl, hbw37⟩
  have C38 := Lib.hid (C33.out.gr hbw37)
  clear C33
  have C39 := Lib.hid (C34.out.gr hbw37)
  clear C34
  have C40 := Lib.hid (C35.out.gr hbw37)
  clear C35
  have hbel41 := hbel36.trans (Below.mono hbw37 hbel36.size)
  clear hbel36
  clear hbw37
  go_wp2_with fail
  refine (Hc5.out _).mono ?_
  rintro e w42 ⟨rfl, hbw42⟩
  have C43 := Lib.hid (C38.out.gr hbw42)
  clear C38
  have C44 := Lib.hid (C39.out.gr hbw42)
  clear C39
  have C45 := Lib.hid (C40.out.gr hbw42)
  clear C40
  have hbel46 := hbel41.trans (Below.mono hbw42 hbel41.size)
  clear hbel41
  clear hbw42
  go_wp2_with (first | (refine stB rfl 24 (.tmp 8) (.tmp 67) rfl w42.heap.size rfl (natsV .u64 lr) rfl 24 (natsV .u64 (zeros 4)) (Blk.new w42 24 (natsV .u64 (zeros 4))) (i24 L_lr.out) (lenEq (show (natsV .u64 (zeros 4)).length = 4 from rfl) (by rw [natsV_length, L_lr.out])) (natsV_one _ _) ?_; generalize hW : World.setRow _ _ _ = w47; obtain ⟨hgw47, hnw47⟩ := newfacts hW; clear hW; have NE50 := Lib.hid (Nat.ne_of_lt (C44.out.lt)); have NE51 := Lib.hid (Nat.ne_of_lt (C45.out.lt)); have C52 := Lib.hid (C43.out.gr hgw47); clear C43; have C53 := Lib.hid (C44.out.gr hgw47); clear C44; have C54 := Lib.hid (C45.out.gr hgw47); clear C45; have hbel55 := hbel46.trans (Below.mono hgw47 hbel46.size); clear hbel46; have D49 := Lib.hid hnw47; have szw47 := hgw47.size; clear hnw47 hgw47 szw47; generalize w42.heap.size = G48 at *; have cc56 : w47.cell? ⟨b, o, none⟩ = some (.int .u8 3) := cB.out _ hbel55) | (refine wpList_load_mid rfl 24 (.tmp 8) rfl G48 0 rfl (natsV .u64 lr) _ (blk_all (D49.out)) Try.underlying24 rfl (i24 L_lr.out) ?_) | (refine stM rfl 24 (.tmp 73) (.tmp 72) rfl G12 4 rfl (natsV .u64 lr) rfl 43 (pv lx (zeros 4) false) (pv lx lr false) C54.out (pv_setY L_lx.out (show (zeros 4).length = 4 from rfl) L_lr.out) (pv_fitY L_lx.out (show (zeros 4).length = 4 from rfl) L_lr.out) (i24 L_lr.out) (natsV_one _ _) ?_; intro w57 hgw57 hnw57; have E58 := Lib.hid (C52.out.grown hgw57 (fun e => NE14.out (Option.some.inj e))); clear C52; have E59 := Lib.hid (C53.out.grown hgw57 (fun e => NE15.out (Option.some.inj e))); clear C53; have E60 := Lib.hid (D49.out.grown hgw57 (fun e => (Ne.symm NE51.out) (Option.some.inj e))); clear D49; have D61 := Lib.hid hnw57; clear hnw57 C54; have hbel62 := belStore hbel55 hgw57 (GE16.out); clear hgw57; clear hbel55; have cc63 : w57.cell? ⟨b, o, none⟩ = some (.int .u8 3) := cB.out _ hbel62) | (refine wpList_load_mid rfl 24 (.tmp 8) rfl G48 0 rfl (natsV .u64 lr) _ (blk_all (E60.out)) Try.underlying24 rfl (i24 L_lr.out) ?_) | (refine wpList_load_mid rfl 24 (.tmp 4) rfl G5 0 rfl (natsV .u64 lp) _ (blk_all (E59.out)) Try.underlying24 rfl (i24 L_lp.out) ?_))
  refine (Hc6.out _).mono ?_
  rintro e w64 ⟨rfl, hbw64⟩
  have C65 := Lib.hid (E58.out.gr hbw64)
  clear E58
  have C66 := Lib.hid (E59.out.gr hbw64)
  clear E59
  have C67 := Lib.hid (D61.out.gr hbw64)
  clear D61
  have C68 := Lib.hid (E60.out.gr hbw64)
  clear E60
  have hbel69 := hbel62.trans (Below.mono hbw64 hbel62.size)
  clear hbel62
  clear hbw64
  go_wp2_with (first | (refine stM rfl 24 (.tmp 82) (.tmp 81) rfl G12 4 rfl (natsV .u64 ly) rfl 43 (pv lx lr false) (pv lx ly false) C67.out (pv_setY L_lx.out L_lr.out L_ly.out) (pv_fitY L_lx.out L_lr.out L_ly.out) (i24 L_ly.out) (natsV_one _ _) ?_; intro w70 hgw70 hnw70; have E71 := Lib.hid (C65.out.grown hgw70 (fun e => NE14.out (Option.some.inj e))); clear C65; have E72 := Lib.hid (C66.out.grown hgw70 (fun e => NE15.out (Option.some.inj e))); clear C66; have E73 := Lib.hid (C68.out.grown hgw70 (fun e => (Ne.symm NE51.out) (Option.some.inj e))); clear C68; have D74 := Lib.hid hnw70; clear hnw70 C67; have hbel75 := belStore hbel69 hgw70 (GE16.out); clear hgw70; clear hbel69; have cc76 : w70.cell? ⟨b, o, none⟩ = some (.int .u8 3) := cB.out _ hbel75))
  have c2 : w70.cell? ⟨b, o, none⟩ = some (.int .u8 3) := cB.out _ hbel75
  have c3 : w70.cell? ⟨G12, 4, none⟩ = some (.int .u64 (y0 : Nat)) := pv_y0 D74.out L_lx.out hy
  have f3 := D74.out.free 4
  have m3 : ((y0 : Int)) % 2 = 1 := by omega
  clear hy hp
  go_quiet (fail)
  have hne : ((y0 : Int).tmod 2 != (IntKind.u64.wrap 3).tmod 2) = false := by rw [Int.tmod_eq_emod_of_nonneg (by omega), m3]; decide
  clear c2 c3 f3 m3
  have Q78 := Lib.hid (E71.out.drewN nq)
  clear E71
  have Q79 := Lib.hid (E72.out.drewN nq)
  clear E72
  have Q80 := Lib.hid (D74.out.drewN nq)
  clear D74
  have Q81 := Lib.hid (E73.out.drewN nq)
  clear E73
  have hbel82 := below_drewN hbel75 nq
  clear hbel75
  generalize w70.drewN nq = w77 at *
  go_wp2_with (first | (refine wpList_load_mid rfl 43 (.tmp 5) rfl G12 0 rfl (pv lx ly false) _ (blk_all (Q80.out)) Try.underlying43 rfl (i43 L_lx.out L_ly.out) ?_) | (refine stB rfl 43 (.tmp 2) (.tmp 94) rfl w.heap.size rfl (pv lx ly false) rfl 43 (pv (zeros 4) (zeros 4) false) Q78.out (i43 L_lx.out L_ly.out) (lenEq (show (pv (zeros 4) (zeros 4) false).length = 9 from rfl) (pv_len L_lx.out L_ly.out)) (pv_one _ _ _) ?_))
  refine bodyPost_ret (v := .tuple #[.agg (pv lx ly false).toArray, .int .i64 0]) ?_ rfl ⟨rfl, below_setRow' hbel82 (by first | exact Nat.le_refl _ | omega) _⟩
  exact results_two Try.results37 _ _ w.heap.size 43 _ (0, 0) _ _ rfl rfl (Q78.out.setRow _) Try.underlying43 rfl (by simpa using (i43 L_lx.out L_ly.out))
end Go.Proofs.Ytfffmoolkgheaaa
