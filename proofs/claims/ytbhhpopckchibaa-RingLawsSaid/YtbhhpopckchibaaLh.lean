/- RingHints: the walk. Condition: the numbers are 32-bit numbers. -/
import Derived.Test.YtbhhpopckchibaaAw
import Derived.Test.YtbhhpopckchibaaOp
namespace Go.Proofs.Ytbhhpopckchibaa
open Go.RowKit
set_option linter.unusedVariables false
set_option linter.unusedSimpArgs false
/-- a constant polynomial -/
def oneP (x : FQ) (i : Nat) : FQ := if i = 0 then x else 0
theorem zerI_tell : zerI = tellI (fun _ => 0) 256 := by
  conv => lhs; rw [← tellI_self zerI, zerI_length]
  exact tellI_congr fun i _ => zerI_get i
theorem set_one (x : FQ) : (iv zerI).set 0 (.int .i32 (x.val : Int)) = iv (PL (oneP x)) := by
  rw [iv_set, zerI_tell, tellI_set]
  refine congrArg iv (tellI_congr fun i _ => ?_)
  unfold oneP
  by_cases h : i = 0
  · rw [if_pos h, if_pos h]
  · rw [if_neg h, if_neg h]; rfl
def twoI (a b : Int) : List Int := (zerI.set 0 a).set 1 b
theorem twoI_len (a b : Int) : (twoI a b).length = 256 := by unfold twoI; rw [List.length_set, List.length_set, zerI_length]
theorem twoI_get (a b : Int) (i : Nat) (hi : i < 256) : (twoI a b).getD i 0 = if i = 1 then b else if i = 0 then a else 0 := by
  unfold twoI
  rw [zerI_tell, tellI_set, tellI_set, tellI_get _ _ _ hi]
theorem twoI_P {a b : Int} (ha : -2147483648 ≤ a ∧ a ≤ 2147483647) (hb : -2147483648 ≤ b ∧ b ≤ 2147483647) : IsP (twoI a b) := ⟨twoI_len a b, fun i hi => by
  rw [twoI_get a b i hi]; split
  · exact hb
  · split
    · exact ha
    · omega⟩
def sngI (a : Int) : List Int := zerI.set 0 a
theorem sngI_len (a : Int) : (sngI a).length = 256 := by unfold sngI; rw [List.length_set, zerI_length]
theorem sngI_get (a : Int) (i : Nat) (hi : i < 256) : (sngI a).getD i 0 = if i = 0 then a else 0 := by
  unfold sngI
  rw [zerI_tell, tellI_set, tellI_get _ _ _ hi]
theorem sngI_P {a : Int} (ha : -2147483648 ≤ a ∧ a ≤ 2147483647) : IsP (sngI a) := ⟨sngI_len a, fun i hi => by
  rw [sngI_get a i hi]; split
  · exact ha
  · omega⟩
/-- the hint tells the high part of the sum -/
theorem hint_ok (r z : Int) (hr : IsQ r) (hz : -261888 ≤ z ∧ z ≤ 261888) : uH (mkH (z % 8380417) r) r = dcH ((r + z % 8380417) % 8380417) := by
  obtain ⟨h1, h2⟩ := hr
  have e : (r + z % 8380417) % 8380417 = (r + z) % 8380417 := by omega
  unfold mkH
  rw [e]
  by_cases hd : dcH ((r + z) % 8380417) = dcH r
  · rw [hd]; simp [uH]
  · rw [show (dcH ((r + z) % 8380417) != dcH r) = true by simp [hd]]
    unfold uH
    rw [if_pos rfl]
    have hs : (r + z) % 8380417 = r + z ∨ (r + z) % 8380417 = r + z + 8380417 ∨ (r + z) % 8380417 = r + z - 8380417 := by omega
    have hs1 : 0 ≤ (r + z) % 8380417 ∧ (r + z) % 8380417 < 8380417 := by omega
    generalize (r + z) % 8380417 = s at *
    clear e
    unfold dcH dcL ndH at *
    split <;> rename_i q1 <;> split <;> rename_i q2 <;> (try split at hd) <;> (try split at q1) <;> omega
theorem whole_ok (s : Int) (h : IsQ s) : ¬ (523776 * dcH s + dcL s = s) → dcH s = 0 ∧ dcL s < 0 ∧ dcL s + 8380417 = s := by
  obtain ⟨h1, h2⟩ := h
  unfold dcH dcL ndH
  split <;> omega
theorem p2_ok (r : Int) (h : IsQ r) : 8192 * p2h r + p2l r = r ∧ -4096 < p2l r ∧ p2l r ≤ 4096 := by
  obtain ⟨h1, h2⟩ := h
  unfold p2l p2h
  omega
theorem tmod_s (x : Int) : -261888 ≤ x.tmod 261889 ∧ x.tmod 261889 ≤ 261888 := by
  have h := Int.tmod_lt_of_pos x (show (0 : Int) < 261889 by decide)
  have h2 := Int.tmod_lt_of_pos (-x) (show (0 : Int) < 261889 by decide)
  rw [Int.neg_tmod] at h2
  omega
set_option maxRecDepth 100000 in
set_option maxHeartbeats 6400000 in
theorem hints_walk (r x : Int) (w : World) (hr : -2147483648 ≤ r ∧ r ≤ 2147483647) (hx : -2147483648 ≤ x ∧ x ≤ 2147483647) :
    Calls Try.prog 7 #[.int .i32 r, .int .i32 x] w fun e w' => e = .returned (.bool true) ∧ Below w.heap.size w w' := by
  have HA := Lib.hid awake_any
  have hzb := tmod_s x
  obtain ⟨R, hR⟩ : ∃ R : FQ, fz r = R := ⟨_, rfl⟩
  obtain ⟨Z, hZ⟩ : ∃ Z : FQ, fz (x.tmod 261889) = Z := ⟨_, rfl⟩
  have hRb := fq_bd R
  have hZb := fq_bd Z
  have HX := Lib.hid (fun w => Reduce_any (twoI r x) (twoI_P hr hx) w)
  have HY := Lib.hid (fun w => Reduce_any (sngI (x.tmod 261889)) (sngI_P ⟨by omega, by omega⟩) w)
  have HS := Lib.hid (fun w => Reduce_any (twoI ((R.val : Int) - 4000000) (x.tmod 261889)) (twoI_P ⟨by omega, by omega⟩ ⟨by omega, by omega⟩) w)
  have HAD := Lib.hid (fun w => Add_t (oneP R) (oneP Z) w)
  rw [← set_one, ← set_one] at HAD
  unfold twoI at HX HS
  unfold sngI at HY
  rw [← iv_set, ← iv_set] at HX HS
  rw [← iv_set] at HY
  have G1 := Lib.hid (show (PL (rdF ((zerI.set 0 r).set 1 x))).getD 0 0 = (R.val : Int) by
    rw [PL_get _ 0 (by decide), ← hR]; show ((fz ((twoI r x).getD 0 0)).val : Int) = _; rw [twoI_get r x 0 (by decide)]; rfl)
  have G2 := Lib.hid (show (PL (rdF (zerI.set 0 (x.tmod 261889)))).getD 0 0 = (Z.val : Int) by
    rw [PL_get _ 0 (by decide), ← hZ]; show ((fz ((sngI (x.tmod 261889)).getD 0 0)).val : Int) = _; rw [sngI_get _ 0 (by decide)]; rfl)
  have G3 := Lib.hid (show (PL (rdF ((zerI.set 0 ((R.val : Int) - 4000000)).set 1 (x.tmod 261889)))).getD 1 0 = (Z.val : Int) by
    rw [PL_get _ 1 (by decide), ← hZ]; show ((fz ((twoI ((R.val : Int) - 4000000) (x.tmod 261889)).getD 1 0)).val : Int) = _; rw [twoI_get _ _ 1 (by decide)]; rfl)
  obtain ⟨S, hS⟩ : ∃ S : Int, ((R.val : Int) + Z.val) % 8380417 = S := ⟨_, rfl⟩
  have G4 := Lib.hid (show (PL (fun i => oneP R i + oneP Z i)).getD 0 0 = S by
    rw [PL_get _ 0 (by decide), ← hS]; exact add_val' R Z)
  have hSq : IsQ S := by unfold IsQ; omega
  have hRq : IsQ (R.val : Int) := hRb
  have hZq : IsQ (Z.val : Int) := hZb
  have HM := Lib.hid (fun w => MakeHint_t (Z.val : Int) (R.val : Int) hZq hRq w)
  have HU := Lib.hid (fun w => UseHint_t (mkH (Z.val : Int) (R.val : Int)) (R.val : Int) hRq w)
  have HD := Lib.hid (fun w => Decompose_t S hSq w)
  have HP := Lib.hid (fun w => Power2Round_t (R.val : Int) hRq w)
  have hhint : uH (mkH (Z.val : Int) (R.val : Int)) (R.val : Int) = dcH S := by
    have h := hint_ok (R.val : Int) (x.tmod 261889) hRq hzb
    rw [← fz_val, hZ, hS] at h; exact h
  rw [hhint] at HU
  obtain ⟨m1, m2, m3⟩ := p2_ok (R.val : Int) hRq
  have mw := whole_ok S hSq
  have mh := dcH_bd hSq
  have ml := dcL_bd hSq
  have mp := p2h_bd hRq
  obtain ⟨hS1, hS2⟩ := hSq
  clear hS hhint hR hZ hRq hZq
  have L_X := Lib.hid (PL_length (rdF ((zerI.set 0 r).set 1 x)))
  have L_Y := Lib.hid (PL_length (rdF (zerI.set 0 (x.tmod 261889))))
  have L_T := Lib.hid (PL_length (rdF ((zerI.set 0 ((R.val : Int) - 4000000)).set 1 (x.tmod 261889))))
  have L_U := Lib.hid (PL_length (fun i => oneP R i + oneP Z i))
  generalize PL (rdF ((zerI.set 0 r).set 1 x)) = X at *
  generalize PL (rdF (zerI.set 0 (x.tmod 261889))) = Y at *
  generalize PL (rdF ((zerI.set 0 ((R.val : Int) - 4000000)).set 1 (x.tmod 261889))) = T at *
  generalize PL (fun i => oneP R i + oneP Z i) = U at *
  generalize mkH (Z.val : Int) (R.val : Int) = hb at *
  generalize p2h (R.val : Int) = c3 at *
  generalize p2l (R.val : Int) = c4 at *
  generalize dcH S = c1 at *
  generalize dcL S = c2 at *
  generalize (R.val : Int) = r1 at *
  generalize (Z.val : Int) = z1 at *
  have z23 := zero23
  have hidx : ∀ w, (Instr.index 23 (.agg (iv Y).toArray) (.int .i64 0)).run Try.prog w = .ok (.int .i32 z1) w := fun w => by
    have h := index23 w Y 0 (by decide) L_Y.out
    rw [G2.out] at h; exact h
  have bel_ := (Below.refl w.heap.size w)
  go_enter Try.func7, Try.ntmps7
  go_wp2_with fail
  refine (HA.out _).mono ?_
  rintro e w1 ⟨rfl, hbw1⟩
  have hbel2 := bel_.trans (Below.mono hbw1 bel_.size)
  clear bel_
  clear hbw1
  go_wp2_with fail
  refine (HX.out _).mono ?_
  rintro e w3 ⟨rfl, hbw3⟩
  have hbel4 := hbel2.trans (Below.mono hbw3 hbel2.size)
  clear hbel2
  clear hbw3
  go_wp2_with (first | (refine stB rfl 23 (.tmp 6) (.tmp 29) rfl w3.heap.size rfl (iv X) rfl 23 (iv zerI) (Blk.new w3 23 (iv zerI)) (i23 L_X.out) (lenEq (show (iv zerI).length = 256 by rw [iv_length, zerI_length]) (show (iv X).length = 256 by rw [iv_length, L_X.out])) (iv_one _) ?_; generalize hW : World.setRow _ _ _ = w5; obtain ⟨hgw5, hnw5⟩ := newfacts hW; clear hW; have hbel8 := hbel4.trans (Below.mono hgw5 hbel4.size); clear hbel4; have D7 := Lib.hid hnw5; have szw5 := hgw5.size; clear hnw5 hgw5 szw5; generalize w3.heap.size = G6 at *; have cq9 := D7.out.iv 0 (by rw [L_X.out]; decide); rw [G1.out] at cq9))
  refine (HY.out _).mono ?_
  rintro e w10 ⟨rfl, hbw10⟩
  have C11 := Lib.hid (D7.out.gr hbw10)
  clear D7
  have hbel12 := hbel8.trans (Below.mono hbw10 hbel8.size)
  clear hbel8
  clear hbw10
  have cq13 := C11.out.iv 0 (by rw [L_X.out]; decide)
  rw [G1.out] at cq13
  go_wp2_with fail
  refine (HS.out _).mono ?_
  rintro e w14 ⟨rfl, hbw14⟩
  have C15 := Lib.hid (C11.out.gr hbw14)
  clear C11
  have hbel16 := hbel12.trans (Below.mono hbw14 hbel12.size)
  clear hbel12
  clear hbw14
  have cq17 := C15.out.iv 0 (by rw [L_X.out]; decide)
  rw [G1.out] at cq17
  go_wp2_with (first | (refine stB rfl 23 (.tmp 9) (.tmp 42) rfl w14.heap.size rfl (iv T) rfl 23 (iv zerI) (Blk.new w14 23 (iv zerI)) (i23 L_T.out) (lenEq (show (iv zerI).length = 256 by rw [iv_length, zerI_length]) (show (iv T).length = 256 by rw [iv_length, L_T.out])) (iv_one _) ?_; generalize hW : World.setRow _ _ _ = w18; obtain ⟨hgw18, hnw18⟩ := newfacts hW; clear hW; have C21 := Lib.hid (C15.out.gr hgw18); clear C15; have hbel22 := hbel16.trans (Below.mono hgw18 hbel16.size); clear hbel16; have D20 := Lib.hid hnw18; have szw18 := hgw18.size; clear hnw18 hgw18 szw18; generalize w14.heap.size = G19 at *; have cq23 := C21.out.iv 0 (by rw [L_X.out]; decide); rw [G1.out] at cq23; have cq24 := D20.out.iv 1 (by rw [L_T.out]; decide); rw [G3.out] at cq24))
  refine (HAD.out _).mono ?_
  rintro e w25 ⟨rfl, hbw25⟩
  have C26 := Lib.hid (C21.out.gr hbw25)
  clear C21
  have C27 := Lib.hid (D20.out.gr hbw25)
  clear D20
  have hbel28 := hbel22.trans (Below.mono hbw25 hbel22.size)
  clear hbel22
  clear hbw25
  have cq29 := C26.out.iv 0 (by rw [L_X.out]; decide)
  rw [G1.out] at cq29
  have cq30 := C27.out.iv 1 (by rw [L_T.out]; decide)
  rw [G3.out] at cq30
  go_wp2_with (first | (refine stB rfl 23 (.tmp 10) (.tmp 49) rfl w25.heap.size rfl (iv U) rfl 23 (iv zerI) (Blk.new w25 23 (iv zerI)) (i23 L_U.out) (lenEq (show (iv zerI).length = 256 by rw [iv_length, zerI_length]) (show (iv U).length = 256 by rw [iv_length, L_U.out])) (iv_one _) ?_; generalize hW : World.setRow _ _ _ = w31; obtain ⟨hgw31, hnw31⟩ := newfacts hW; clear hW; have C34 := Lib.hid (C26.out.gr hgw31); clear C26; have C35 := Lib.hid (C27.out.gr hgw31); clear C27; have hbel36 := hbel28.trans (Below.mono hgw31 hbel28.size); clear hbel28; have D33 := Lib.hid hnw31; have szw31 := hgw31.size; clear hnw31 hgw31 szw31; generalize w25.heap.size = G32 at *; have cq37 := C34.out.iv 0 (by rw [L_X.out]; decide); rw [G1.out] at cq37; have cq38 := C35.out.iv 1 (by rw [L_T.out]; decide); rw [G3.out] at cq38; have cq39 := D33.out.iv 0 (by rw [L_U.out]; decide); rw [G4.out] at cq39))
  clear HA HX HY HS HAD hidx z23 G1 G2 G3 G4
  have e1 : (8192 * c3 + c4 == r1) = true := by rw [m1]; simp
  clear m1
  have HB := Lib.hid hbel36
  clear hbel36
  by_cases hw : 523776 * c1 + c2 = S
  · have e2 : (523776 * c1 + c2 == S) = true := by rw [hw]; simp
    clear hw mw
    go_wp2_with (first | (go_at_call 27; refine (HM.out _).mono ?_; rintro e w' ⟨rfl, rfl⟩) | (go_at_call 26; refine (HU.out _).mono ?_; rintro e w' ⟨rfl, rfl⟩) | (go_at_call 25; refine (HD.out _).mono ?_; rintro e w' ⟨rfl, rfl⟩) | (go_at_call 24; refine (HP.out _).mono ?_; rintro e w' ⟨rfl, rfl⟩))
    go_ret
    exact ⟨rfl, HB.out⟩
  · have e2 : (523776 * c1 + c2 == S) = false := beq_eq_false_iff_ne.2 hw
    obtain ⟨g1, g2, g3⟩ := mw hw
    have e3 : (c1 == 0) = true := by rw [g1]; rfl
    have e4 : (c2 + 8380417 == S) = true := by rw [g3]; simp
    clear hw mw g1 g3
    go_wp2_with (first | (go_at_call 27; refine (HM.out _).mono ?_; rintro e w' ⟨rfl, rfl⟩) | (go_at_call 26; refine (HU.out _).mono ?_; rintro e w' ⟨rfl, rfl⟩) | (go_at_call 25; refine (HD.out _).mono ?_; rintro e w' ⟨rfl, rfl⟩) | (go_at_call 24; refine (HP.out _).mono ?_; rintro e w' ⟨rfl, rfl⟩))
    go_ret
    exact ⟨rfl, HB.out⟩
end Go.Proofs.Ytbhhpopckchibaa
