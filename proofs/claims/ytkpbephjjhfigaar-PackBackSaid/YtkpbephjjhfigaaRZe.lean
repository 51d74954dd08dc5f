/- New polynomials are 0. No condition. -/
import Derived.Test.YtkpbephjjhfigaaRG0
namespace Go.Proofs.YtkpbephjjhfigaaR
open Go.RowKit
set_option linter.unusedVariables false
theorem zero23 (w : World) : (zeroValue 23).run Try.prog w = .ok (.agg (iv zerI).toArray) w := by kernel_rfl
theorem zero22 (w : World) : (zeroValue 22).run Try.prog w = .ok (.agg (iv zerI).toArray) w := by kernel_rfl
theorem alloc23 (w : World) : (Instr.alloc 23 true (.tuple #[])).run Try.prog w = .ok (.pointer (some ⟨w.heap.size, 0, none⟩)) (w.alloc (.cells (iv zerI).toArray 23)) := by simp [Instr.alloc, Sem.run_bind, zero23]; rfl
theorem alloc22 (w : World) : (Instr.alloc 22 true (.tuple #[])).run Try.prog w = .ok (.pointer (some ⟨w.heap.size, 0, none⟩)) (w.alloc (.cells (iv zerI).toArray 22)) := by simp [Instr.alloc, Sem.run_bind, zero22]; rfl
/-- 256 numbers of 64 bits -/
def jv (l : List Int) : List Value := l.map (Value.int .i64)
theorem zero42 (w : World) : (zeroValue 42).run Try.prog w = .ok (.agg (jv zerI).toArray) w := by kernel_rfl
theorem built0 : Try.prog.built 23 [] = some (iv zerI).toArray := by kernel_rfl
theorem build0 (w : World) : (Instr.build 23 #[]).run Try.prog w = .ok (.agg (iv zerI).toArray) w := by
  have := run_build (P := Try.prog) w 23 #[] (iv zerI).toArray built0
  exact this
end Go.Proofs.YtkpbephjjhfigaaR
