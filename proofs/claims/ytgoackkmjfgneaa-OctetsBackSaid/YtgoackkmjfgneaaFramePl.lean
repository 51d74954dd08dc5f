/- A Place that came in by value, opened into its five fields. No condition. -/
import Derived.Test.YtgoackkmjfgneaaFrameB
import Derived.Lib.SmallJoins
namespace Go.Proofs.Ytgoackkmjfgneaa
open Go.ChangeShapes Go.WideShapes Go.ChangeAt Go.RowKit Go.Joins

theorem cells25 : Try.prog.cellsOf 25 = 5 := by kernel_rfl

theorem one22 : Try.prog.cellsOf 22 = 1 := by kernel_rfl
theorem one3 : Try.prog.cellsOf 3 = 1 := by kernel_rfl
theorem one4 : Try.prog.cellsOf 4 = 1 := by kernel_rfl
theorem one23 : Try.prog.cellsOf 23 = 1 := by kernel_rfl

/-- The five fields, each with its own reading. -/
theorem open_place {H : Type} {enc : TypeId × Value → H} {W : World} {r : Reach} {b0 : Nat} {v : Value} {d : DataW H} {p : List MemPlace}
    (hv : Value.okWide Try.prog W r b0 25 v) (h : DataW.Trod enc Try.prog W 0 (fun _ => true) true 25 v d p) :
    ∃ (v0 v1 v2 v3 v4 : Value) (y0 y1 y2 y3 y4 : DataW H × List MemPlace) (m : Nat), v = .agg #[v0, v1, v2, v3, v4] ∧ d = .agg [y0.1, y1.1, y2.1, y3.1, y4.1] ∧
      DataW.trod enc Try.prog W 0 (fun _ => true) true m 22 [v0] = some y0 ∧ DataW.trod enc Try.prog W 0 (fun _ => true) true m 3 [v1] = some y1 ∧
      DataW.trod enc Try.prog W 0 (fun _ => true) true m 3 [v2] = some y2 ∧ DataW.trod enc Try.prog W 0 (fun _ => true) true m 4 [v3] = some y3 ∧ DataW.trod enc Try.prog W 0 (fun _ => true) true m 23 [v4] = some y4 := by
  obtain ⟨⟨cells⟩, rfl, hsize⟩ := okWide_struct Try.underlying25 hv
  obtain ⟨fuel, hread⟩ := h
  obtain ⟨ys, m, _, hd, _, hnum, heach⟩ := DataW.trod_struct Try.underlying25 hread
  match cells, hsize.trans cells25 with
  | [v0, v1, v2, v3, v4], _ =>
    match ys, hnum with
    | [y0, y1, y2, y3, y4], _ =>
      exact ⟨v0, v1, v2, v3, v4, y0, y1, y2, y3, y4, m, rfl, by simpa using (Prod.mk.inj hd).1, by simpa [Value.cells, one22] using heach 0 _ rfl, by simpa [Value.cells, one3] using heach 1 _ rfl,
        by simpa [Value.cells, one3] using heach 2 _ rfl, by simpa [Value.cells, one4] using heach 3 _ rfl, by simpa [Value.cells, one23] using heach 4 _ rfl⟩
end Go.Proofs.Ytgoackkmjfgneaa
