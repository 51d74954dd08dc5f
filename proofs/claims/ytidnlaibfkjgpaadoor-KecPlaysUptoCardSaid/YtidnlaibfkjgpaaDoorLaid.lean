/- From each row's condition on the table to what the walks ask of memory; and that a start meets it. No condition besides. -/
import Derived.Test.YtidnlaibfkjgpaaDoorFrame
import Derived.Test.YtidnlaibfkjgpaaDoorKTop
import Derived.Lib.LaidTab
import Derived.LaidMore
import Derived.Stop.Joined
import Derived.ProofKit
namespace Go.Proofs.YtidnlaibfkjgpaaDoor
open Go.ChangeShapes Go.WideShapes Go.ChangeAt Go.RowKit
set_option linter.unusedVariables false
abbrev laid1 : List (String × DataW Unit) := [("barbican/keccak.constants", Rows.laid_barbican_keccak_constants)]
theorem gCons : Tryd.prog.globalNamed "barbican/keccak.constants" = some 0 := by kernel_rfl
theorem tCons : (Tryd.prog.globals[0]?).map (·.type) = some 61 := by kernel_rfl
theorem dCons : (Rows.laid_barbican_keccak_constants : DataW Unit) = Lib.tabData .u64 (rcT.map Nat.cast) := by kernel_rfl
theorem cast_getD (l : List Nat) (i : Nat) (hi : i < l.length) : ((l.map Nat.cast : List Int).map fun z => Value.int .u64 z)[i]? = some (.int .u64 (l.getD i 0 : Nat)) := by
  simp [List.getD_eq_getElem?_getD, hi]
theorem tabs_of_laid {W : World} (h : laidMetH Tryd.prog laid1 W) : Tabs W := by
  rw [MakeChecks.laidMetH_plain _ _ _ (by kernel_rfl)] at h
  obtain ⟨ps, ⟨g0, t0, cs0, f0, p0, q0, hg0, ht0, hv0, hd0, _, _⟩, _, _⟩ := h
  obtain rfl := Option.some.inj (gCons.symm.trans hg0)
  obtain rfl := Option.some.inj (tCons.symm.trans ht0)
  rw [dCons] at hd0
  have e0 := Lib.cells_of_tab Tryd.underlying61 Tryd.underlying22 (by kernel_rfl) (by kernel_rfl) hd0
  intro i hi
  rw [World.var?_cell hg0 hv0 i, ← Array.getElem?_toList, e0, cast_getD _ _ hi]
/-- The door's own heap meets the condition. -/
theorem door_met (os : Os) (args : Array Value) : laidMetH Tryd.prog laid1 ((World.doorLaid Tryd.prog 400 os).forCall (fun _ _ => 0) ⟨#[], args, []⟩).memory :=
  laidMetH_of_parts3 (fuel := 8) (laidMet_of_run' 8 (by kernel_rfl) (by kernel_rfl)) (by kernel_rfl) (by kernel_rfl)
end Go.Proofs.YtidnlaibfkjgpaaDoor
