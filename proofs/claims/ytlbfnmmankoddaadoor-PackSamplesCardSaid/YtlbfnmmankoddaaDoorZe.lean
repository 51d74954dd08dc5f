/- New polynomials are 0. No condition. -/
import Derived.Test.YtlbfnmmankoddaaDoorG0
namespace Go.Proofs.YtlbfnmmankoddaaDoor
open Go.RowKit
set_option linter.unusedVariables false
theorem zero23 (w : World) : (zeroValue 25).run Tryd.prog w = .ok (.agg (iv zerI).toArray) w := by kernel_rfl
/-- 256 numbers of 64 bits -/
def jv (l : List Int) : List Value := l.map (Value.int .i64)
theorem built0 : Tryd.prog.built 25 [] = some (iv zerI).toArray := by kernel_rfl
theorem build0 (w : World) : (Instr.build 25 #[]).run Tryd.prog w = .ok (.agg (iv zerI).toArray) w := by
  have := run_build (P := Tryd.prog) w 25 #[] (iv zerI).toArray built0
  exact this
end Go.Proofs.YtlbfnmmankoddaaDoor
