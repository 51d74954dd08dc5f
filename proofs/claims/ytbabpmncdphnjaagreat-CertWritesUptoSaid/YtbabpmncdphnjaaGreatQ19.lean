/- Parts of proofs of statements, each text behind those that it stands on. No condition of its own. -/
import Derived.Test.YtbabpmncdphnjaaGreatQ05
namespace Go.Proofs.YtbabpmncdphnjaaGreat
open Go.RowKit
set_option linter.unusedVariables false
set_option maxRecDepth 100000
def LenAt (R : Except Nat (Nat × List Nat)) (en : Nat) (w : World) (e : Ending) (w' : World) : Prop :=
  Below w.heap.size w w' ∧ match R with
  | .error c => e = .returned (.tuple #[.int .i64 0, .int .i64 0, .int .i64 (c : Nat)])
  | .ok (v, r) => e = .returned (.tuple #[.int .i64 (v : Nat), .int .i64 ((en - r.length : Nat) : Int), .int .i64 0])
theorem LenAt.err {R : Except Nat (Nat × List Nat)} {en c : Nat} {w w' : World} (h : R = .error c) (hb : Below w.heap.size w w') : LenAt R en w (.returned (.tuple #[.int .i64 0, .int .i64 0, .int .i64 (c : Nat)])) w' := by subst h; exact ⟨hb, rfl⟩
theorem LenAt.good {R : Except Nat (Nat × List Nat)} {en v : Nat} {r : List Nat} {w w' : World} {x : Int} (h : R = .ok (v, r)) (hb : Below w.heap.size w w') (hx : ((en - r.length : Nat) : Int) = x) : LenAt R en w (.returned (.tuple #[.int .i64 (v : Nat), .int .i64 x, .int .i64 0])) w' := by subst h hx; exact ⟨hb, rfl⟩
end Go.Proofs.YtbabpmncdphnjaaGreat
