/- No sponge: each function says so and does nothing. No condition. -/
import Derived.Test.YtlbfnmmankoddaaDoorKTop
namespace Go.Proofs.YtlbfnmmankoddaaDoor
open Go.RowKit
set_option linter.unusedVariables false
set_option maxHeartbeats 400000 in
theorem canAsk_any (n : Int) (hn : -9223372036854775808 ≤ n ∧ n ≤ 9223372036854775807) (w : World) : Calls Tryd.prog 43 #[.int .i64 n] w fun e w' => e = .returned (.bool (decide (0 ≤ n) && decide (n ≤ 65536))) ∧ ∃ q, w' = w.drewN q := by
  by_cases h0 : 0 ≤ n
  · by_cases h1 : n ≤ 65536
    · have e : (decide (0 ≤ n) && decide (n ≤ 65536)) = true := by simp [h0, h1]
      rw [e]
      go_enter Tryd.func43, Tryd.ntmps43
      go_wp2_with fail
      go_ret
      exact ⟨rfl, 0, rfl⟩
    · have e : (decide (0 ≤ n) && decide (n ≤ 65536)) = false := by simp [h1]
      have h2 : decide (n ≤ 65536) = false := by simpa using h1
      rw [e]
      go_enter Tryd.func43, Tryd.ntmps43
      go_wp2_with fail
      go_ret
      exact ⟨rfl, 0, rfl⟩
  · have e : (decide (0 ≤ n) && decide (n ≤ 65536)) = false := by simp [h0]
    have h2 : decide (0 ≤ n) = false := by simpa using h0
    rw [e]
    go_enter Tryd.func43, Tryd.ntmps43
    go_wp2_with fail
    go_ret
    exact ⟨rfl, 0, rfl⟩
set_option maxHeartbeats 400000 in
theorem read_nil (n : Int) (w : World) : Calls Tryd.prog 30 #[.pointer none, .int .i64 n] w fun e w' => e = .returned (.tuple #[.slice none 0 0, .int .i64 1]) ∧ w = w' := by
  go_enter Tryd.func30, Tryd.ntmps30
  go_wp2_with fail
  go_ret2
  exact ⟨rfl, rfl⟩
set_option maxHeartbeats 400000 in
theorem write_nil (a : Option Addr) (m c : Nat) (w : World) : Calls Tryd.prog 28 #[.pointer none, .slice a m c] w fun e w' => e = .returned (.int .i64 1) ∧ w = w' := by
  go_enter Tryd.func28, Tryd.ntmps28
  go_wp2_with fail
  go_ret
  exact ⟨rfl, rfl⟩
end Go.Proofs.YtlbfnmmankoddaaDoor
