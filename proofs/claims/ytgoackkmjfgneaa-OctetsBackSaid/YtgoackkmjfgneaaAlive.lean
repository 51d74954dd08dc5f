/- The statements' live question is answered with true. No condition. -/
import Derived.Test.YtgoackkmjfgneaaGet
import Derived.Test.YtgoackkmjfgneaaHex
namespace Go.Proofs.Ytgoackkmjfgneaa
open Go.RowKit
set_option linter.unusedVariables false

theorem get_alive (w : World) :
    Calls Try.prog 11 #[.slice (some ⟨w.heap.size, 0, none⟩) 3 3, .int .i64 1, .int .i64 2, .bool true] (w.alloc (.cells #[.int .u8 1, .int .u8 2, .int .u8 3] 5)) fun e w' => e = .returned (.tuple #[.int .u64 515, .int .i64 0]) ∧ (w.alloc (.cells #[.int .u8 1, .int .u8 2, .int .u8 3] 5)) = w' := by
  have h := get11_ok (some ⟨w.heap.size, 0, none⟩) 3 3 1 2 true [1, 2, 3] (w.alloc (.cells #[.int .u8 1, .int .u8 2, .int .u8 3] 5))
    ⟨rfl, by decide, by decide, .inr ⟨_, _, rfl, fun i hi => by
      have : i = 0 ∨ i = 1 ∨ i = 2 := by omega
      rcases this with rfl | rfl | rfl <;> simp⟩⟩ (by decide) (.inr (.inl rfl)) (by decide)
  exact h
theorem hex_alive (w : World) (n : Nat) (hn : n = w.heap.size) :
    Calls Try.prog 30 #[.slice (some ⟨n, 0, none⟩) 1 1] (w.alloc (.cells #[.int .u8 175] 5)) fun e w' => e = .returned (.string ⟨#[97, 102]⟩) ∧ Below (w.heap.size + 1) (w.alloc (.cells #[.int .u8 175] 5)) w' := by
  subst hn
  have h := hex30 (some ⟨w.heap.size, 0, none⟩) 1 1 [175] (w.alloc (.cells #[.int .u8 175] 5))
    ⟨rfl, by decide, by decide, .inr ⟨_, _, rfl, fun i hi => by
      have : i = 0 := by omega
      subst this; simp⟩⟩ (by decide)
  have e : strV (hexL [175]) = ⟨#[97, 102]⟩ := rfl
  rw [e] at h
  simpa using h

set_option maxHeartbeats 400000 in
theorem alive17 (w : World) : Calls Try.prog 17 #[] w fun e w' => e = .returned (.bool true) ∧ Below w.heap.size w w' := by
  go_enter Try.func17, Try.ntmps17
  go_wp2_with fail
  refine (get_alive w).mono ?_
  rintro e w' ⟨rfl, rfl⟩
  go_wp2_with fail
  refine (hex_alive _ _ (by simp)).mono ?_
  rintro e w' ⟨rfl, hb⟩
  go_wp2
  go_ret
  refine ⟨rfl, ?_⟩
  have h2 : Below w.heap.size w ((w.alloc (.cells #[.int .u8 1, .int .u8 2, .int .u8 3] 5)).alloc (.cells #[.int .u8 175] 5)) := ((Below.refl _ _).alloc (Nat.le_refl _) _).alloc (by simp) _
  exact h2.trans (hb.mono (by simp; omega))
end Go.Proofs.Ytgoackkmjfgneaa
