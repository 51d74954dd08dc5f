/- Plain: bytes asked for in pieces are the bytes asked for at once. No condition. -/
import Derived.Test.YtidnlaibfkjgpaaDoorKTop
namespace Go.Proofs.YtidnlaibfkjgpaaDoor
open Go.RowKit
set_option linter.unusedVariables false
theorem sqS_add (r : Nat) (p : List Nat × Nat) (i : Nat) : ∀ j, sqS r p (i + j) = sqS r (sqS r p i) j
  | 0 => rfl
  | j + 1 => by
    show stepN r (sqS r p (i + j)) = stepN r (sqS r (sqS r p i) j)
    rw [sqS_add r p i j]
theorem tell_add (f : Nat → Nat) (i : Nat) : ∀ j, tell f (i + j) = tell f i ++ tell (fun x => f (i + x)) j
  | 0 => by simp [tell]
  | j + 1 => by
    rw [← Nat.add_assoc, tell_succ, tell_add f i j, tell_succ, List.append_assoc]
theorem sqB_add (r : Nat) (p : List Nat × Nat) (i j : Nat) : sqB r p (i + j) = sqB r p i ++ sqB r (sqS r p i) j := by
  unfold sqB
  rw [tell_add]
  congr 2
  funext x
  rw [sqS_add]
/-- fewer are the beginning of more -/
theorem allK_take (k : Nat) (l : List Nat) (n d : Nat) : (allK k l (n + d)).take n = allK k l n := by
  unfold allK
  rw [sqB_add, List.take_append_of_le_length (by rw [sqB_length]; exact Nat.le_refl _), List.take_of_length_le (by rw [sqB_length]; exact Nat.le_refl _)]
end Go.Proofs.YtidnlaibfkjgpaaDoor
