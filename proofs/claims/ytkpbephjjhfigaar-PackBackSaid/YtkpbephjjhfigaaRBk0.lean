/- A polynomial is itself. No condition. -/
import Derived.Test.YtkpbephjjhfigaaRBq
import Derived.Test.YtkpbephjjhfigaaRLp
namespace Go.Proofs.YtkpbephjjhfigaaR
open Go.RowKit
set_option linter.unusedVariables false
set_option linter.unusedSimpArgs false
theorem eqQ (l : List Int) (h : l.length = 256) (w : World) : (binOp .eql 23 (.agg (iv l).toArray) (.agg (iv l).toArray)).run Try.prog w = .ok (.bool true) w := (eql23 l l h h w).trans (by simp)
theorem neQ (l : List Int) (h : l.length = 256) (w : World) : (binOp .neq 23 (.agg (iv l).toArray) (.agg (iv l).toArray)).run Try.prog w = .ok (.bool false) w := by
  have he := eqQ l h w
  rw [run_eql_struct] at he
  rw [run_neq_struct]
  cases hq : (Op.equalIn 10000 23 (.agg (iv l).toArray) (.agg (iv l).toArray)).run Try.prog w with
  | ok b w' => rw [hq] at he; simp [Result.andThen] at he; obtain ⟨rfl, rfl⟩ := he; rfl
  | _ => rw [hq] at he; simp [Result.andThen] at he
end Go.Proofs.YtkpbephjjhfigaaR
