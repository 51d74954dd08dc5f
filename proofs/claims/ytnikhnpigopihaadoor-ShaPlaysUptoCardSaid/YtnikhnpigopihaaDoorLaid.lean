/- From each row's condition on the two tables to what the walks ask of memory; and that a start meets it. No condition besides. -/
import Derived.Test.YtnikhnpigopihaaDoorFrame
import Derived.Test.YtnikhnpigopihaaDoorShared
import Derived.Lib.LaidTab
import Derived.LaidMore
import Derived.Stop.Joined
import Derived.ProofKit
namespace Go.Proofs.YtnikhnpigopihaaDoor
open Go.ChangeShapes Go.WideShapes Go.ChangeAt Go.RowKit
set_option linter.unusedVariables false
abbrev laid2 : List (String × DataW Unit) := [("barbican/sha2.roots", Rows.laid_barbican_sha2_roots), ("barbican/sha2.constants", Rows.laid_barbican_sha2_constants)]
theorem gRoots : Tryd.prog.globalNamed "barbican/sha2.roots" = some 0 := by kernel_rfl
theorem gCubes : Tryd.prog.globalNamed "barbican/sha2.constants" = some 1 := by kernel_rfl
theorem tRoots : (Tryd.prog.globals[0]?).map (·.type) = some 85 := by kernel_rfl
theorem tCubes : (Tryd.prog.globals[1]?).map (·.type) = some 92 := by kernel_rfl
theorem dRoots : (Rows.laid_barbican_sha2_roots : DataW Unit) = Lib.tabData .u64 (rootsN.map Nat.cast) := by kernel_rfl
theorem dCubes : (Rows.laid_barbican_sha2_constants : DataW Unit) = Lib.tabData .u64 (cubesN.map Nat.cast) := by kernel_rfl
theorem cast_getD (l : List Nat) (i : Nat) (hi : i < l.length) : ((l.map Nat.cast : List Int).map fun z => Value.int .u64 z)[i]? = some (.int .u64 (l.getD i 0 : Nat)) := by
  simp [List.getD_eq_getElem?_getD, hi]
theorem tabs_of_laid {W : World} (h : laidMetH Tryd.prog laid2 W) : Tabs W := by
  rw [MakeChecks.laidMetH_plain _ _ _ (by kernel_rfl)] at h
  obtain ⟨ps, ⟨g0, t0, cs0, f0, p0, q0, hg0, ht0, hv0, hd0, ⟨g1, t1, cs1, f1, p1, q1, hg1, ht1, hv1, hd1, _, _⟩, _⟩, _, _⟩ := h
  obtain rfl := Option.some.inj (gRoots.symm.trans hg0)
  obtain rfl := Option.some.inj (gCubes.symm.trans hg1)
  obtain rfl := Option.some.inj (tRoots.symm.trans ht0)
  obtain rfl := Option.some.inj (tCubes.symm.trans ht1)
  rw [dRoots] at hd0
  rw [dCubes] at hd1
  have e0 := Lib.cells_of_tab Tryd.underlying85 Tryd.underlying48 (by kernel_rfl) (by kernel_rfl) hd0
  have e1 := Lib.cells_of_tab Tryd.underlying92 Tryd.underlying48 (by kernel_rfl) (by kernel_rfl) hd1
  constructor
  · intro i hi
    rw [World.var?_cell hg0 hv0 i, ← Array.getElem?_toList, e0, cast_getD _ _ hi]
  · intro i hi
    rw [World.var?_cell hg1 hv1 i, ← Array.getElem?_toList, e1, cast_getD _ _ hi]
/-- The door's own heap meets the condition. -/
theorem door_met (os : Os) (args : Array Value) : laidMetH Tryd.prog laid2 ((World.doorLaid Tryd.prog 400 os).forCall (fun _ _ => 0) ⟨#[], args, []⟩).memory :=
  laidMetH_of_parts3 (fuel := 8) (laidMet_of_run' 8 (by kernel_rfl) (by kernel_rfl)) (by kernel_rfl) (by kernel_rfl)
theorem door_shaped (os : Os) : True := trivial
end Go.Proofs.YtnikhnpigopihaaDoor
