/- A flash's content, and a window, that came in. No condition. -/
import Derived.Test.YtlgpaglkhgomiaaFo
namespace Go.Proofs.Ytlgpaglkhgomiaa
open Go.Deep Go.ChangeShapes Go.WideShapes Go.ChangeAt Go.RowKit
set_option linter.unusedVariables false
set_option maxRecDepth 100000
set_option linter.unusedSimpArgs false
theorem cells24 : Try.prog.cellsOf 24 = 3 := by kernel_rfl
theorem cells60 : Try.prog.cellsOf 60 = 7 := by kernel_rfl
theorem cellsBl : Try.prog.cellsOf 22 = 1 := by kernel_rfl
/-- three cells that were read as a content -/
theorem cells_content {H : Type} {enc : TypeId × Value → H} {W : World} (fuel : Nat) (cs : List Value) (x : DataW H × List MemPlace)
    (h : DataW.trod enc Try.prog W 0 (fun _ => true) true fuel 24 cs = some x) (hw : ∀ k ∈ DataW.weights Try.prog 24 x.1, k ≤ reachBytes) :
    ∃ (cb : Int) (P : Option Addr) (k cp : Nat) (raw : Bool) (bs : List BlkR), cs = [.int .i64 cb, .slice P k cp, .bool raw] ∧ I64 cb ∧ LIn W P k bs ∧ k ≤ 140737488351232 := by
  obtain ⟨xs, m, rfl, rfl, hl, hlen, hf⟩ := DataW.trod_struct Try.underlying24 h
  rw [cells24] at hl
  match xs, hlen, cs, hl with
  | [y0, y1, y2], _, [v0, v1, v2], _ =>
    have g0 := hf 0 _ rfl
    have g1 := hf 1 _ rfl
    have g2 := hf 2 _ rfl
    simp [cellsI, cellsB, cellsBl] at g0 g1 g2
    have hw1 : ∀ k ∈ DataW.weights Try.prog 22 y1.1, k ≤ reachBytes := fun k hk => hw k (by
      simp only [DataW.weights, Try.underlying24]
      exact DataW.weights_mem_each (j := 1) rfl rfl k hk)
    obtain ⟨z0, hv0, _, hz0⟩ := DataW.trod_int Try.underlying3 g0
    obtain ⟨b2, hv2, _⟩ := DataW.trod_bool Try.underlying4 g2
    obtain ⟨P, k, cp, bs, rfl, hl2, hk⟩ := blocks_in g1 hw1
    simp at hv0 hv2
    subst hv0 hv2
    exact ⟨z0, P, k, cp, b2, bs, rfl, bounds_i64 hz0, hl2, hk⟩
theorem content_in {H : Type} {enc : TypeId × Value → H} {W : World} {base : Nat} {v : Value} {d : DataW H} {p : List MemPlace} (hv : Value.okWide Try.prog W .any base 24 v)
    (h : DataW.Trod enc Try.prog W 0 (fun _ => true) true 24 v d p) (hw : ∀ k ∈ DataW.weights Try.prog 24 d, k ≤ reachBytes) :
    ∃ (cb : Int) (P : Option Addr) (k cp : Nat) (raw : Bool) (bs : List BlkR), v = .agg #[.int .i64 cb, .slice P k cp, .bool raw] ∧ I64 cb ∧ LIn W P k bs ∧ k ≤ 140737488351232 := by
  have hv' : ∃ cs, v = .agg cs := by
    have := hv
    simp only [Value.okWide, Try.underlying24] at this
    obtain ⟨cs, h, _⟩ := this
    exact ⟨cs, h⟩
  obtain ⟨cs, rfl⟩ := hv'
  obtain ⟨fuel, hf⟩ := h
  obtain ⟨cb, P, k, cp, raw, bs, hcs, h1, h2, h3⟩ := cells_content fuel _ _ hf hw
  refine ⟨cb, P, k, cp, raw, bs, ?_, h1, h2, h3⟩
  have : cs.toList = [.int .i64 cb, .slice P k cp, .bool raw] := hcs
  exact congrArg Value.agg (by rw [← Array.toArray_toList (xs := cs), this])
theorem window_in {H : Type} {enc : TypeId × Value → H} {W : World} {base : Nat} {v : Value} {d : DataW H} {p : List MemPlace} (hv : Value.okWide Try.prog W .any base 60 v)
    (h : DataW.Trod enc Try.prog W 0 (fun _ => true) true 60 v d p) (hw : ∀ k ∈ DataW.weights Try.prog 60 d, k ≤ reachBytes) :
    ∃ (cb : Int) (P : Option Addr) (k cp : Nat) (raw : Bool) (fi bl fr sz : Int) (bs : List BlkR), v = .agg #[.int .i64 cb, .slice P k cp, .bool raw, .int .i64 fi, .int .i64 bl, .int .i64 fr, .int .i64 sz] ∧ I64 cb ∧ LIn W P k bs ∧ k ≤ 140737488351232 ∧ I64 fi ∧ I64 bl ∧ I64 fr ∧ I64 sz := by
  have hv' : ∃ cs, v = .agg cs := by
    have := hv
    simp only [Value.okWide, Try.underlying60] at this
    obtain ⟨cs, h, _⟩ := this
    exact ⟨cs, h⟩
  obtain ⟨cs, rfl⟩ := hv'
  obtain ⟨fuel, hf0⟩ := h
  obtain ⟨xs, m, rfl, hd, hl, hlen, hf⟩ := DataW.trod_struct Try.underlying60 hf0
  rw [cells60] at hl
  have hcs : ∃ L : List Value, cs = L.toArray := ⟨cs.toList, by simp⟩
  obtain ⟨L, rfl⟩ := hcs
  simp only [Value.cells] at hl hf
  simp only [Prod.mk.injEq] at hd
  obtain ⟨rfl, _⟩ := hd
  match xs, hlen, L, hl with
  | [y0, y1, y2, y3, y4], _, [v0, v1, v2, v3, v4, v5, v6], _ =>
    have g0 := hf 0 _ rfl
    have g1 := hf 1 _ rfl
    have g2 := hf 2 _ rfl
    have g3 := hf 3 _ rfl
    have g4 := hf 4 _ rfl
    simp [cells24, cellsI] at g0 g1 g2 g3 g4
    have hw0 : ∀ k ∈ DataW.weights Try.prog 24 y0.1, k ≤ reachBytes := fun k hk => hw k (by
      simp only [DataW.weights, Try.underlying60]
      exact DataW.weights_mem_each (j := 0) rfl rfl k hk)
    obtain ⟨cb, P, k, cp, raw, bs, hc, h1, h2, h3⟩ := cells_content _ _ _ g0 hw0
    simp only [List.cons.injEq, and_true] at hc
    obtain ⟨rfl, rfl, rfl⟩ := hc
    obtain ⟨z1, hv1, _, hz1⟩ := DataW.trod_int Try.underlying3 g1
    obtain ⟨z2, hv2, _, hz2⟩ := DataW.trod_int Try.underlying3 g2
    obtain ⟨z3, hv3, _, hz3⟩ := DataW.trod_int Try.underlying3 g3
    obtain ⟨z4, hv4, _, hz4⟩ := DataW.trod_int Try.underlying3 g4
    simp at hv1 hv2 hv3 hv4
    subst hv1 hv2 hv3 hv4
    exact ⟨cb, P, k, cp, raw, z1, z2, z3, z4, bs, rfl, h1, h2, h3, bounds_i64 hz1, bounds_i64 hz2, bounds_i64 hz3, bounds_i64 hz4⟩
end Go.Proofs.Ytlgpaglkhgomiaa
