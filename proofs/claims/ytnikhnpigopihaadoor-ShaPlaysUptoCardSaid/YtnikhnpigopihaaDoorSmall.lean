/- The small functions of both sides: sizes by kind, the document's turn, cut and sums of three. No condition. -/
import Derived.Test.YtnikhnpigopihaaDoorMem
namespace Go.Proofs.YtnikhnpigopihaaDoor
open Go.RowKit
set_option linter.unusedVariables false

/-- bytes of a word, bits of a word, bytes of the digest, of the kinds 1, 2, 3 -/
def wB (k : Nat) : Nat := if k = 1 then 4 else 8
def wW (k : Nat) : Nat := if k = 1 then 32 else 64
def dgB (k : Nat) : Nat := if k = 1 then 32 else if k = 2 then 48 else 64
def IsKind (k : Nat) : Prop := k = 1 ∨ k = 2 ∨ k = 3
theorem wW_or (k : Nat) : wW k = 32 ∨ wW k = 64 := by unfold wW; split <;> simp

set_option maxHeartbeats 400000 in
theorem wordSize_any (k : Nat) (hk : IsKind k) (w : World) : Calls Tryd.prog 41 #[.int .u8 (k : Nat)] w fun e w' => e = .returned (.int .i64 (wB k : Nat)) ∧ w = w' := by
  rcases hk with rfl | rfl | rfl
  all_goals
    go_enter Tryd.func41, Tryd.ntmps41
    go_wp2_with fail
    go_ret
    exact ⟨rfl, rfl⟩
set_option maxHeartbeats 400000 in
theorem blockSize_any (k : Nat) (hk : IsKind k) (w : World) : Calls Tryd.prog 52 #[.int .u8 (k : Nat)] w fun e w' => e = .returned (.int .i64 (16 * wB k : Nat)) ∧ w = w' := by
  have hb : wB k ≤ 8 := by unfold wB; split <;> omega
  have h := Lib.hid (wordSize_any k hk w)
  generalize wB k = b at *
  go_enter Tryd.func52, Tryd.ntmps52
  go_wp2_with fail
  refine h.out.mono ?_
  rintro e w' ⟨rfl, rfl⟩
  go_wp2_with fail
  go_ret
  exact ⟨rfl, rfl⟩
set_option maxHeartbeats 400000 in
theorem digestSize_any (k : Nat) (hk : IsKind k) (w : World) : Calls Tryd.prog 47 #[.int .u8 (k : Nat)] w fun e w' => e = .returned (.int .i64 (dgB k : Nat)) ∧ w = w' := by
  rcases hk with rfl | rfl | rfl
  all_goals
    go_enter Tryd.func47, Tryd.ntmps47
    go_wp2_with fail
    go_ret
    exact ⟨rfl, rfl⟩
/-- what the document's function on kinds answers -/
def KindV (k : Nat) : Value := .tuple #[.int .u64 (wW k : Nat), .int .i64 (16 * wB k : Nat), .int .i64 (rounds (wW k) : Nat), .int .i64 (dgB k : Nat)]
set_option maxHeartbeats 400000 in
theorem Kind_1 (w : World) : Calls Tryd.prog 32 #[.int .i64 1] w fun e w' => e = .returned (.tuple #[.int .u64 32, .int .i64 64, .int .i64 64, .int .i64 32]) ∧ w = w' := by
  go_enter Tryd.func32, Tryd.ntmps32
  go_wp2_with fail
  exact bodyPost_ret (by simp [results, Tryd.results32, go_sem]) rfl ⟨rfl, rfl⟩
set_option maxHeartbeats 400000 in
theorem Kind_2 (w : World) : Calls Tryd.prog 32 #[.int .i64 2] w fun e w' => e = .returned (.tuple #[.int .u64 64, .int .i64 128, .int .i64 80, .int .i64 48]) ∧ w = w' := by
  go_enter Tryd.func32, Tryd.ntmps32
  go_wp2_with fail
  exact bodyPost_ret (by simp [results, Tryd.results32, go_sem]) rfl ⟨rfl, rfl⟩
set_option maxHeartbeats 400000 in
theorem Kind_3 (w : World) : Calls Tryd.prog 32 #[.int .i64 3] w fun e w' => e = .returned (.tuple #[.int .u64 64, .int .i64 128, .int .i64 80, .int .i64 64]) ∧ w = w' := by
  go_enter Tryd.func32, Tryd.ntmps32
  go_wp2_with fail
  exact bodyPost_ret (by simp [results, Tryd.results32, go_sem]) rfl ⟨rfl, rfl⟩
theorem Kind_any (k : Nat) (hk : IsKind k) (w : World) : Calls Tryd.prog 32 #[.int .i64 (k : Nat)] w fun e w' => e = .returned (KindV k) ∧ w = w' := by
  rcases hk with rfl | rfl | rfl
  · exact Kind_1 w
  · exact Kind_2 w
  · exact Kind_3 w
end Go.Proofs.YtnikhnpigopihaaDoor
