/- What each statement's frame asks of the program as a whole; how polynomials that came in are told to the walks. No condition. -/
import Derived.Test.YtbhhpopckchibaaRows
import Derived.Test.YtbhhpopckchibaaRa
import Derived.OpenShut
import Derived.ChangeOld
import Derived.Below
import Derived.SizedLaws
namespace Go.Proofs.Ytbhhpopckchibaa
open Go.ChangeShapes Go.WideShapes Go.ChangeAt Go.RowKit
set_option linter.unusedVariables false
set_option linter.unusedSimpArgs false
theorem own : ownKnob Try.prog.godebug = none := by kernel_rfl
theorem laidOut : laidOutB Try.prog = true := by kernel_rfl
/-- a polynomial that came in -/
theorem poly_in {H : Type} {enc : TypeId × Value → H} {W : World} {base : Nat} {v : Value} {d : DataW H} {p : List MemPlace} (hv : Value.okWide Try.prog W .any base 23 v)
    (h : DataW.Trod enc Try.prog W 0 (fun _ => true) true 23 v d p) : ∃ l, IsP l ∧ v = .agg (iv l).toArray := by
  have hv' : ∃ cs, v = .agg cs ∧ cs.size = Try.prog.cellsOf 23 ∧ Row.okWide Try.prog W .any base 23 cs := by
    have := hv
    simp only [Value.okWide, Try.underlying23] at this
    exact this
  obtain ⟨cs, rfl, hsz, _⟩ := hv'
  obtain ⟨fuel, hf⟩ := h
  obtain ⟨xs, m, rfl, hx, hl, hxl, hel⟩ := DataW.trod_array Try.underlying23 hf
  have c23 : Try.prog.cellsOf 23 = 256 := by kernel_rfl
  rw [c23] at hsz
  have each : ∀ i, i < 256 → ∃ z : Int, (-2147483648 ≤ z ∧ z ≤ 2147483647) ∧ cs[i]? = some (.int .i32 z) := by
    intro i hi
    have h1 := hel i hi
    rw [cells21, Nat.mul_one] at h1
    have hcl : cs.toList.length = 256 := by simpa using hsz
    have e1 : ((Value.agg cs).cells.toList.drop i).take 1 = [cs.toList[i]'(by omega)] := by
      show (cs.toList.drop i).take 1 = _
      rw [List.drop_eq_getElem_cons (by omega)]; rfl
    rw [e1] at h1
    have hxi : xs[i]? = some (xs[i]'(by omega)) := List.getElem?_eq_getElem (by omega)
    rw [hxi] at h1
    obtain ⟨z, hz1, _, hwf⟩ := DataW.trod_int Try.underlying21 h1
    refine ⟨z, bounds_i32 hwf, ?_⟩
    have : cs.toList[i]'(by omega) = .int .i32 z := by simpa using hz1
    rw [← Array.getElem?_toList, List.getElem?_eq_getElem (by omega), this]
  have hint : ∃ f : Nat → Int, ∀ i, i < 256 → (-2147483648 ≤ f i ∧ f i ≤ 2147483647) ∧ cs[i]? = some (.int .i32 (f i)) := by
    refine ⟨fun i => if h : i < 256 then (each i h).choose else 0, fun i hi => ?_⟩
    simp only [hi, dif_pos]
    exact (each i hi).choose_spec
  obtain ⟨f, hfn⟩ := hint
  refine ⟨tellI f 256, ⟨tellI_length _ _, fun i hi => ?_⟩, ?_⟩
  · rw [tellI_get _ _ _ hi]; exact (hfn i hi).1
  · congr 1
    apply Array.ext
    · rw [hsz, iv_size, tellI_length]
    · intro i h1 h2
      have h25 : i < 256 := by omega
      have := (hfn i h25).2
      rw [Array.getElem?_eq_getElem h1] at this
      have e2 := iv_get (tellI f 256) i (by rw [tellI_length]; exact h25)
      rw [tellI_get _ _ _ h25, ← Option.some.inj this, List.getElem?_eq_getElem (by simpa using h2)] at e2
      simpa using (Option.some.inj e2).symm
end Go.Proofs.Ytbhhpopckchibaa
