/- A number that came in is a number of 256 bits. No condition. -/
import Derived.Test.YtfffmoolkgheaaaFrame
import Derived.Test.YtfffmoolkgheaaaA
namespace Go.Proofs.Ytfffmoolkgheaaa
open Go.ChangeShapes Go.WideShapes Go.ChangeAt Go.RowKit
set_option linter.unusedVariables false
set_option linter.unusedSimpArgs false
set_option maxRecDepth 100000
/-- an array of four words that came in -/
theorem num_in {H : Type} {enc : TypeId × Value → H} {W : World} {base : Nat} {v : Value} {d : DataW H} {p : List MemPlace} (hv : Value.okWide Try.prog W .any base 24 v)
    (h : DataW.Trod enc Try.prog W 0 (fun _ => true) true 24 v d p) : ∃ x, x < 2 ^ 256 ∧ v = .agg (natsV .u64 (wds 4 x)).toArray := by
  have hv' : ∃ cs, v = .agg cs ∧ cs.size = Try.prog.cellsOf 24 ∧ Row.okWide Try.prog W .any base 24 cs := by
    have := hv
    simp only [Value.okWide, Try.underlying24] at this
    exact this
  obtain ⟨cs, rfl, hsz, _⟩ := hv'
  obtain ⟨fuel, hf⟩ := h
  obtain ⟨xs, m, rfl, hx, hl, hxl, hel⟩ := DataW.trod_array Try.underlying24 hf
  have c25 : Try.prog.cellsOf 24 = 4 := by kernel_rfl
  rw [c25] at hsz
  have each : ∀ i, i < 4 → ∃ z : Nat, z < 2 ^ 64 ∧ cs[i]? = some (.int .u64 (z : Int)) := by
    intro i hi
    have h1 := hel i hi
    rw [cells23, Nat.mul_one] at h1
    have hcl : cs.toList.length = 4 := by simpa using hsz
    have e1 : ((Value.agg cs).cells.toList.drop i).take 1 = [cs.toList[i]'(by omega)] := by
      show (cs.toList.drop i).take 1 = _
      rw [List.drop_eq_getElem_cons (by omega)]; rfl
    rw [e1] at h1
    have hxi : xs[i]? = some (xs[i]'(by omega)) := List.getElem?_eq_getElem (by omega)
    rw [hxi] at h1
    obtain ⟨z, hz1, _, hwf⟩ := DataW.trod_int Try.underlying22 h1
    have hb := bounds_u64 hwf
    obtain ⟨n, rfl⟩ := Int.eq_ofNat_of_zero_le hb.1
    refine ⟨n, by have := hb.2; omega, ?_⟩
    have : cs.toList[i]'(by omega) = .int .u64 (n : Int) := by simpa using hz1
    rw [← Array.getElem?_toList, List.getElem?_eq_getElem (by omega), this]
  have hnat : ∃ f : Nat → Nat, ∀ i, i < 4 → f i < 2 ^ 64 ∧ cs[i]? = some (.int .u64 (f i : Nat)) := by
    refine ⟨fun i => if h : i < 4 then (each i h).choose else 0, fun i hi => ?_⟩
    simp only [hi, dif_pos]
    exact (each i hi).choose_spec
  obtain ⟨f, hfn⟩ := hnat
  have hlt : ∀ x ∈ tell f 4, x < 2 ^ 64 := by
    intro x hx
    obtain ⟨i, hi, rfl⟩ := List.mem_map.1 hx
    exact (hfn i (List.mem_range.1 hi)).1
  have hw := wds_of (tell f 4) hlt
  rw [tell_length] at hw
  refine ⟨val (2 ^ 64) (tell f 4), ?_, ?_⟩
  · have := val_lt (tell f 4) hlt
    rw [tell_length, ← Nat.pow_mul] at this
    exact this
  · rw [hw]
    congr 1
    apply Array.ext
    · rw [hsz, size_nats, tell_length]
    · intro i h1 h2
      have h25 : i < 4 := by omega
      have := (hfn i h25).2
      rw [Array.getElem?_eq_getElem h1] at this
      have e2 := natsV_get .u64 (tell f 4) i (by rw [tell_length]; exact h25)
      rw [tell_getD _ _ _ h25, ← Option.some.inj this, List.getElem?_eq_getElem (by simpa using h2)] at e2
      simpa using (Option.some.inj e2).symm
end Go.Proofs.Ytfffmoolkgheaaa
