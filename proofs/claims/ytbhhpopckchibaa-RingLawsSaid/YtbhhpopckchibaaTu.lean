/- A place with its bits turned, as the project and as the document have it; powers. No condition. -/
import Derived.Test.YtbhhpopckchibaaSc
namespace Go.Proofs.Ytbhhpopckchibaa
open Go.RowKit
set_option linter.unusedVariables false
/-- the first k bits turned -/
def rvK (i : Nat) : Nat → Nat
  | 0 => 0
  | k + 1 => 2 * rvK i k + i / 2 ^ k % 2
theorem rvK_8 (i : Nat) : rvK i 8 = brv i := by
  unfold brv
  show 2 * (2 * (2 * (2 * (2 * (2 * (2 * (2 * 0 + i / 1 % 2) + i / 2 % 2) + i / 4 % 2) + i / 8 % 2) + i / 16 % 2) + i / 32 % 2) + i / 64 % 2) + i / 128 % 2 = _
  rw [Nat.div_one]
  generalize i % 2 = a
  generalize i / 2 % 2 = b
  generalize i / 4 % 2 = c
  generalize i / 8 % 2 = d
  generalize i / 16 % 2 = e
  generalize i / 32 % 2 = f
  generalize i / 64 % 2 = g
  generalize i / 128 % 2 = h
  omega
theorem rvK_lt (i : Nat) : ∀ k, rvK i k < 2 ^ k
  | 0 => Nat.zero_lt_one
  | k + 1 => by have := rvK_lt i k; rw [Nat.pow_succ]; show 2 * rvK i k + _ < _; omega
theorem rvK_le (i k : Nat) (hk : k ≤ 8) : rvK i k < 256 := Nat.lt_of_lt_of_le (rvK_lt i k) (Nat.pow_le_pow_right (by decide) hk)
theorem half (i k : Nat) : i / 2 ^ k / 2 = i / 2 ^ (k + 1) := by rw [Nat.div_div_eq_div_mul, Nat.pow_succ]
theorem dTurned_any (i : Nat) (hi : i < 256) (w : World) : Calls Try.prog 42 #[.int .i64 (i : Nat)] w fun e w' => e = .returned (.int .i64 (brv i : Nat)) ∧ w = w' := by
  have h8 := Lib.hid (rvK_8 i)
  go_enter Try.func42, Try.ntmps42
  go_wp2_with fail
  go_loop [0, 3, 4] (fun a b c => ∃ k : Nat, k ≤ 8 ∧ a = .int .i64 (i / 2 ^ k : Nat) ∧ b = .int .i64 (rvK i k : Nat) ∧ c = .int .i64 k) (fun _ _ c => 8 - (intOf c).toNat)
  case atStart => exact ⟨0, by omega, by simp, rfl, rfl⟩
  case round =>
    obtain ⟨k, hk, rfl, rfl, rfl⟩ := hrel
    by_cases h : k < 8
    · have hr := rvK_le i k (by omega)
      have hd : i / 2 ^ k < 256 := Nat.lt_of_le_of_lt (Nat.div_le_self _ _) hi
      have HV := Lib.hid (show rvK i (k + 1) = 2 * rvK i k + i / 2 ^ k % 2 from rfl)
      have HH := Lib.hid (half i k)
      generalize i / 2 ^ k = a at *
      generalize rvK i k = r at *
      go_wp2_with fail
      go_round
      case rel => exact ⟨k + 1, by omega, by rw [← HH.out]; go_num, by rw [HV.out]; go_num, by go_num⟩
      case measure => simp [intOf]; omega
    · obtain rfl : k = 8 := by omega
      go_wp2_with fail
      go_ret
      exact ⟨ret1 (by rw [h8.out]), rfl⟩
theorem and_one : ∀ a : Nat, a < 256 → bits .and .i64 (a : Int) 1 = ((a % 2 : Nat) : Int) := by decide +kernel
theorem or_low : ∀ a : Nat, a < 256 → ∀ b : Nat, b < 2 → bits .or .i64 ((a : Int) * 2) (b : Int) = ((2 * a + b : Nat) : Int) := by decide +kernel
theorem turned_any (i : Nat) (hi : i < 256) (w : World) : Calls Try.prog 49 #[.int .i64 (i : Nat)] w fun e w' => e = .returned (.int .i64 (brv i : Nat)) ∧ w = w' := by
  have h8 := Lib.hid (rvK_8 i)
  go_enter Try.func49, Try.ntmps49
  go_wp2_with fail
  go_loop [0, 3, 4] (fun a b c => ∃ k : Nat, k ≤ 8 ∧ a = .int .i64 (i / 2 ^ k : Nat) ∧ b = .int .i64 (rvK i k : Nat) ∧ c = .int .i64 k) (fun _ _ c => 8 - (intOf c).toNat)
  case atStart => exact ⟨0, by omega, by simp, rfl, rfl⟩
  case round =>
    obtain ⟨k, hk, rfl, rfl, rfl⟩ := hrel
    by_cases h : k < 8
    · have hr := rvK_le i k (by omega)
      have hd : i / 2 ^ k < 256 := Nat.lt_of_le_of_lt (Nat.div_le_self _ _) hi
      have HV := Lib.hid (show rvK i (k + 1) = 2 * rvK i k + i / 2 ^ k % 2 from rfl)
      have HH := Lib.hid (half i k)
      have hr2 : rvK i k < 256 := hr
      generalize i / 2 ^ k = a at *
      have q1 := and_one a hd
      have q2 := or_low _ hr2 (a % 2) (Nat.mod_lt _ (by decide))
      generalize a % 2 = a1 at *
      clear hr
      generalize rvK i k = r at *
      go_wp2_with fail
      go_round
      case rel => exact ⟨k + 1, by omega, by rw [← HH.out]; go_num, by rw [HV.out]; go_num, by go_num⟩
      case measure => simp [intOf]; omega
    · obtain rfl : k = 8 := by omega
      go_wp2_with fail
      go_ret
      exact ⟨ret1 (by rw [h8.out]), rfl⟩
end Go.Proofs.Ytbhhpopckchibaa
