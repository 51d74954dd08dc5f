/- RingParts and RingHints: the walks. Condition: the numbers are 32-bit numbers. -/
import Derived.Test.YtbhhpopckchibaaAw
import Derived.Test.YtbhhpopckchibaaPb
namespace Go.Proofs.Ytbhhpopckchibaa
open Go.RowKit
set_option linter.unusedVariables false
set_option linter.unusedSimpArgs false
set_option maxRecDepth 100000 in
set_option maxHeartbeats 3200000 in
theorem parts_no (r z : Int) (h : Bool) (w : World) (hr : -2147483648 ≤ r ∧ r ≤ 2147483647) (hz : -2147483648 ≤ z ∧ z ≤ 2147483647) (hq : ¬ IsQ r) :
    Calls Try.prog 5 #[.int .i32 r, .int .i32 z, .bool h] w fun e w' => e = .returned (.bool true) ∧ Below w.heap.size w w' := by
  have HA := Lib.hid awake_any
  have HP := Lib.hid (Power2Round_f r hq)
  have HD := Lib.hid (Decompose_f r hq)
  have HU := Lib.hid (UseHint_f h r hq)
  have HM := Lib.hid (MakeHint_f z r (fun k => hq k.2))
  by_cases h0 : 0 ≤ r
  · have h1 : 8380417 ≤ r := by unfold IsQ at hq; omega
    have hd : decide (r < 8380417) = false := decide_eq_false (by omega)
    clear hq
    go_enter Try.func5, Try.ntmps5
    go_wp2_with (first | (go_at_call 8; refine (HA.out _).mono ?_; rintro e wa ⟨rfl, hba⟩) | (go_at_call 24; (with_reducible refine (HP.out _).mono ?_); rintro e w' ⟨rfl, rfl⟩) | (go_at_call 25; (with_reducible refine (HD.out _).mono ?_); rintro e w' ⟨rfl, rfl⟩) | (go_at_call 26; (with_reducible refine (HU.out _).mono ?_); rintro e w' ⟨rfl, rfl⟩) | (go_at_call 27; (with_reducible refine (HM.out _).mono ?_); rintro e w' ⟨rfl, rfl⟩))
    go_ret
    exact ⟨rfl, hba⟩
  · clear hq
    go_enter Try.func5, Try.ntmps5
    go_wp2_with (first | (go_at_call 8; refine (HA.out _).mono ?_; rintro e wa ⟨rfl, hba⟩) | (go_at_call 24; (with_reducible refine (HP.out _).mono ?_); rintro e w' ⟨rfl, rfl⟩) | (go_at_call 25; (with_reducible refine (HD.out _).mono ?_); rintro e w' ⟨rfl, rfl⟩) | (go_at_call 26; (with_reducible refine (HU.out _).mono ?_); rintro e w' ⟨rfl, rfl⟩) | (go_at_call 27; (with_reducible refine (HM.out _).mono ?_); rintro e w' ⟨rfl, rfl⟩))
    go_ret
    exact ⟨rfl, hba⟩
set_option maxRecDepth 100000 in
set_option maxHeartbeats 3200000 in
theorem parts_yes (r z : Int) (h : Bool) (w : World) (hz : -2147483648 ≤ z ∧ z ≤ 2147483647) (hq : IsQ r) :
    Calls Try.prog 5 #[.int .i32 r, .int .i32 z, .bool h] w fun e w' => e = .returned (.bool true) ∧ Below w.heap.size w w' := by
  have HA := Lib.hid awake_any
  have HP := Lib.hid (Power2Round_t r hq)
  have HD := Lib.hid (Decompose_t r hq)
  have HU := Lib.hid (UseHint_t h r hq)
  have HP2 := Lib.hid (dPower2Round_any r hq)
  have HD2 := Lib.hid (dDecompose_any r hq)
  have HU2 := Lib.hid (dUseHint_any h r hq)
  by_cases hzq : IsQ z
  · have HM := Lib.hid (MakeHint_t z r hzq hq)
    have HD3 := Lib.hid (dDecompose_any ((r + z) % 8380417) ⟨by omega, by omega⟩)
    obtain ⟨a1, a2⟩ := hq
    obtain ⟨b1, b2⟩ := hzq
    have HMM := Lib.hid (fun w => Mod_any (r + z) w (by omega) (by omega))
    rw [show mkH z r = !(dcH ((r + z) % 8380417) == dcH r) from rfl] at HM
    generalize uH h r = u at *
    generalize dcH r = c1 at *
    generalize dcL r = c2 at *
    generalize p2h r = c3 at *
    generalize p2l r = c4 at *
    generalize (r + z) % 8380417 = s at *
    generalize dcH s = c5 at *
    generalize dcL s = c6 at *
    go_enter Try.func5, Try.ntmps5
    go_wp2_with (first | (go_at_call 8; refine (HA.out _).mono ?_; rintro e wa ⟨rfl, hba⟩) | (go_at_call 24; (with_reducible refine (HP.out _).mono ?_); rintro e w' ⟨rfl, rfl⟩) | (go_at_call 25; (with_reducible refine (HD.out _).mono ?_); rintro e w' ⟨rfl, rfl⟩) | (go_at_call 26; (with_reducible refine (HU.out _).mono ?_); rintro e w' ⟨rfl, rfl⟩) | (go_at_call 27; (with_reducible refine (HM.out _).mono ?_); rintro e w' ⟨rfl, rfl⟩) | (go_at_call 28; (with_reducible refine (HP2.out _).mono ?_); rintro e w' ⟨rfl, rfl⟩) | (go_at_call 29; first | ((with_reducible refine (HD2.out _).mono ?_); rintro e w' ⟨rfl, rfl⟩) | ((with_reducible refine (HD3.out _).mono ?_); rintro e w' ⟨rfl, rfl⟩)) | (go_at_call 30; (with_reducible refine (HU2.out _).mono ?_); rintro e w' ⟨rfl, rfl⟩) | (go_at_call 31; (with_reducible refine (HMM.out _).mono ?_); rintro e w' ⟨rfl, rfl⟩))
    go_ret
    exact ⟨by simp [bne], hba⟩
  · have HM := Lib.hid (MakeHint_f z r (fun k => hzq k.1))
    obtain ⟨a1, a2⟩ := hq
    generalize uH h r = u at *
    generalize dcH r = c1 at *
    generalize dcL r = c2 at *
    generalize p2h r = c3 at *
    generalize p2l r = c4 at *
    by_cases h0 : 0 ≤ z
    · have h1 : 8380417 ≤ z := by unfold IsQ at hzq; omega
      clear hzq
      go_enter Try.func5, Try.ntmps5
      go_wp2_with (first | (go_at_call 8; refine (HA.out _).mono ?_; rintro e wa ⟨rfl, hba⟩) | (go_at_call 24; (with_reducible refine (HP.out _).mono ?_); rintro e w' ⟨rfl, rfl⟩) | (go_at_call 25; (with_reducible refine (HD.out _).mono ?_); rintro e w' ⟨rfl, rfl⟩) | (go_at_call 26; (with_reducible refine (HU.out _).mono ?_); rintro e w' ⟨rfl, rfl⟩) | (go_at_call 27; (with_reducible refine (HM.out _).mono ?_); rintro e w' ⟨rfl, rfl⟩) | (go_at_call 28; (with_reducible refine (HP2.out _).mono ?_); rintro e w' ⟨rfl, rfl⟩) | (go_at_call 29; ((with_reducible refine (HD2.out _).mono ?_); rintro e w' ⟨rfl, rfl⟩)) | (go_at_call 30; (with_reducible refine (HU2.out _).mono ?_); rintro e w' ⟨rfl, rfl⟩))
      go_ret
      exact ⟨rfl, hba⟩
    · clear hzq
      go_enter Try.func5, Try.ntmps5
      go_wp2_with (first | (go_at_call 8; refine (HA.out _).mono ?_; rintro e wa ⟨rfl, hba⟩) | (go_at_call 24; (with_reducible refine (HP.out _).mono ?_); rintro e w' ⟨rfl, rfl⟩) | (go_at_call 25; (with_reducible refine (HD.out _).mono ?_); rintro e w' ⟨rfl, rfl⟩) | (go_at_call 26; (with_reducible refine (HU.out _).mono ?_); rintro e w' ⟨rfl, rfl⟩) | (go_at_call 27; (with_reducible refine (HM.out _).mono ?_); rintro e w' ⟨rfl, rfl⟩) | (go_at_call 28; (with_reducible refine (HP2.out _).mono ?_); rintro e w' ⟨rfl, rfl⟩) | (go_at_call 29; ((with_reducible refine (HD2.out _).mono ?_); rintro e w' ⟨rfl, rfl⟩)) | (go_at_call 30; (with_reducible refine (HU2.out _).mono ?_); rintro e w' ⟨rfl, rfl⟩))
      go_ret
      exact ⟨rfl, hba⟩
end Go.Proofs.Ytbhhpopckchibaa
