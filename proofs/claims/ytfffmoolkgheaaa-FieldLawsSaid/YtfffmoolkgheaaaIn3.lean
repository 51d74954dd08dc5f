/- Three numbers that came in are three numbers of 256 bits. No condition. -/
import Derived.Test.YtfffmoolkgheaaaIn
namespace Go.Proofs.Ytfffmoolkgheaaa
open Go.ChangeShapes Go.WideShapes Go.ChangeAt Go.RowKit
set_option maxRecDepth 100000
set_option linter.unusedVariables false
set_option linter.unusedSimpArgs false
theorem words_of_trod {H : Type} {enc : TypeId × Value → H} {W : World} {base fuel : Nat} {spare : Nat → Bool} {held : Bool} {cs : List Value} {x : DataW H × List MemPlace}
    (h : DataW.trod enc Try.prog W base spare held fuel 24 cs = some x) : ∃ v, v < 2 ^ 256 ∧ cs = natsV .u64 (wds 4 v) := by
  obtain ⟨xs, m, rfl, hx, hl, hxl, hel⟩ := DataW.trod_array Try.underlying24 h
  have c25 : Try.prog.cellsOf 24 = 4 := by kernel_rfl
  rw [c25] at hl
  have each : ∀ i, i < 4 → ∃ z : Nat, z < 2 ^ 64 ∧ cs[i]? = some (.int .u64 (z : Int)) := by
    intro i hi
    have h1 := hel i hi
    rw [cells23, Nat.mul_one] at h1
    have e1 : (cs.drop i).take 1 = [cs[i]'(by omega)] := by
      rw [List.drop_eq_getElem_cons (by omega)]; rfl
    rw [e1] at h1
    have hxi : xs[i]? = some (xs[i]'(by omega)) := List.getElem?_eq_getElem (by omega)
    rw [hxi] at h1
    obtain ⟨z, hz1, _, hwf⟩ := DataW.trod_int Try.underlying22 h1
    have hb := bounds_u64 hwf
    obtain ⟨n, rfl⟩ := Int.eq_ofNat_of_zero_le hb.1
    refine ⟨n, by have := hb.2; omega, ?_⟩
    have : cs[i]'(by omega) = .int .u64 (n : Int) := by simpa using hz1
    rw [List.getElem?_eq_getElem (by omega), this]
  have hnat : ∃ f : Nat → Nat, ∀ i, i < 4 → f i < 2 ^ 64 ∧ cs[i]? = some (.int .u64 (f i : Nat)) := by
    refine ⟨fun i => if h : i < 4 then (each i h).choose else 0, fun i hi => ?_⟩
    simp only [hi, dif_pos]
    exact (each i hi).choose_spec
  obtain ⟨f, hfn⟩ := hnat
  have hlt : ∀ x ∈ tell f 4, x < 2 ^ 64 := by
    intro x hx
    obtain ⟨i, hi, rfl⟩ := List.mem_map.1 hx
    exact (hfn i (List.mem_range.1 hi)).1
  have hw := wds_of (tell f 4) hlt
  rw [tell_length] at hw
  refine ⟨val (2 ^ 64) (tell f 4), ?_, ?_⟩
  · have := val_lt (tell f 4) hlt
    rw [tell_length, ← Nat.pow_mul] at this
    exact this
  · rw [hw]
    apply List.ext_getElem?
    intro i
    rcases Nat.lt_or_ge i 4 with hi | hi
    · have e2 := natsV_get .u64 (tell f 4) i (by rw [tell_length]; exact hi)
      rw [tell_getD _ _ _ hi] at e2
      rw [e2]; exact (hfn i hi).2
    · rw [List.getElem?_eq_none (by omega), List.getElem?_eq_none (by rw [natsV_length, tell_length]; exact hi)]
/-- an array of three numbers that came in -/
theorem num3_in {H : Type} {enc : TypeId × Value → H} {W : World} {base : Nat} {v : Value} {d : DataW H} {p : List MemPlace} (hv : Value.okWide Try.prog W .any base 36 v)
    (h : DataW.Trod enc Try.prog W 0 (fun _ => true) true 36 v d p) : ∃ x y z, x < 2 ^ 256 ∧ y < 2 ^ 256 ∧ z < 2 ^ 256 ∧ v = .agg (natsV .u64 (wds 4 x ++ wds 4 y ++ wds 4 z)).toArray := by
  have hv' : ∃ cs, v = .agg cs ∧ cs.size = Try.prog.cellsOf 36 ∧ Row.okWide Try.prog W .any base 36 cs := by
    have := hv
    simp only [Value.okWide, Try.underlying36] at this
    exact this
  obtain ⟨cs, rfl, hsz, _⟩ := hv'
  obtain ⟨fuel, hf⟩ := h
  obtain ⟨xs, m, rfl, hx, hl, hxl, hel⟩ := DataW.trod_array Try.underlying36 hf
  have c53 : Try.prog.cellsOf 36 = 12 := by kernel_rfl
  have c24 : Try.prog.cellsOf 24 = 4 := by kernel_rfl
  rw [c53] at hsz
  rw [c24] at hel
  have one : ∀ i, i < 3 → ∃ v, v < 2 ^ 256 ∧ (cs.toList.drop (i * 4)).take 4 = natsV .u64 (wds 4 v) := by
    intro i hi
    have h1 := hel i hi
    have hxi : xs[i]? = some (xs[i]'(by omega)) := List.getElem?_eq_getElem (by omega)
    rw [hxi] at h1
    exact words_of_trod h1
  obtain ⟨x, hx1, ex⟩ := one 0 (by omega)
  obtain ⟨y, hy1, ey⟩ := one 1 (by omega)
  obtain ⟨z, hz1, ez⟩ := one 2 (by omega)
  refine ⟨x, y, z, hx1, hy1, hz1, ?_⟩
  have hcl : cs.toList.length = 12 := by simpa using hsz
  have e : cs.toList = natsV .u64 (wds 4 x ++ wds 4 y ++ wds 4 z) := by
    rw [natsV_append, natsV_append, ← ex, ← ey, ← ez]
    rw [show 0 * 4 = 0 from rfl, show 1 * 4 = 4 from rfl, show 2 * 4 = 8 from rfl, List.drop_zero]
    have h8 : (cs.toList.drop 8).take 4 = cs.toList.drop 8 := List.take_of_length_le (by rw [List.length_drop]; omega)
    have h4 : cs.toList.drop 8 = (cs.toList.drop 4).drop 4 := by rw [List.drop_drop]
    rw [h8, h4, List.append_assoc, List.take_append_drop, List.take_append_drop]
  congr 1
  rw [← e]
end Go.Proofs.Ytfffmoolkgheaaa
