/- Parts of proofs of statements, each text behind those that it stands on. No condition of its own. -/
import Derived.Below
import Derived.ChangeOld
import Derived.OpenShut
import Derived.ShutString
import Derived.SizedLaws
import Derived.Test.YtfffmoolkgheaaaRows
import Derived.Test.YtfffmoolkgheaaaZ02
namespace Go.Proofs.Ytfffmoolkgheaaa
open Go.ChangeShapes Go.WideShapes Go.ChangeAt Go.RowKit
theorem own : ownKnob Try.prog.godebug = none := by kernel_rfl
theorem laidOut : laidOutB Try.prog = true := by kernel_rfl
end Go.Proofs.Ytfffmoolkgheaaa
namespace Go.Proofs.Ytfffmoolkgheaaa
open Go.ChangeShapes Go.WideShapes Go.ChangeAt Go.RowKit
set_option linter.unusedVariables false
set_option linter.unusedSimpArgs false
set_option maxRecDepth 100000
theorem num_in {H : Type} {enc : TypeId × Value → H} {W : World} {base : Nat} {v : Value} {d : DataW H} {p : List MemPlace} (hv : Value.okWide Try.prog W .any base 24 v)
    (h : DataW.Trod enc Try.prog W 0 (fun _ => true) true 24 v d p) : ∃ x, x < 2 ^ 256 ∧ v = .agg (natsV .u64 (wds 4 x)).toArray := by
  have hv' : ∃ cs, v = .agg cs ∧ cs.size = Try.prog.cellsOf 24 ∧ Row.okWide Try.prog W .any base 24 cs := by
    have := hv
    simp only [Value.okWide, Try.underlying24] at this
    exact this
  obtain ⟨cs, rfl, hsz, _⟩ := hv'
  obtain ⟨fuel, hf⟩ := h
  obtain ⟨xs, m, rfl, hx, hl, hxl, hel⟩ := DataW.trod_array Try.underlying24 hf
  have c25 : Try.prog.cellsOf 24 = 4 := by kernel_rfl
  rw [c25] at hsz
  have each : ∀ i, i < 4 → ∃ z : Nat, z < 2 ^ 64 ∧ cs[i]? = some (.int .u64 (z : Int)) := by
    intro i hi
    have h1 := hel i hi
    rw [cells23, Nat.mul_one] at h1
    have hcl : cs.toList.length = 4 := by simpa using hsz
    have e1 : ((Value.agg cs).cells.toList.drop i).take 1 = [cs.toList[i]'(by omega)] := by
      show (cs.toList.drop i).take 1 = _
      rw [List.drop_eq_getElem_cons (by omega)]; rfl
    rw [e1] at h1
    have hxi : xs[i]? = some (xs[i]'(by omega)) := List.getElem?_eq_getElem (by omega)
    rw [hxi] at h1
    obtain ⟨z, hz1, _, hwf⟩ := DataW.trod_int Try.underlying22 h1
    have hb := bounds_u64 hwf
    obtain ⟨n, rfl⟩ := Int.eq_ofNat_of_zero_le hb.1
    refine ⟨n, by have := hb.2; omega, ?_⟩
    have : cs.toList[i]'(by omega) = .int .u64 (n : Int) := by simpa using hz1
    rw [← Array.getElem?_toList, List.getElem?_eq_getElem (by omega), this]
  have hnat : ∃ f : Nat → Nat, ∀ i, i < 4 → f i < 2 ^ 64 ∧ cs[i]? = some (.int .u64 (f i : Nat)) := by
    refine ⟨fun i => if h : i < 4 then (each i h).choose else 0, fun i hi => ?_⟩
    simp only [hi, dif_pos]
    exact (each i hi).choose_spec
  obtain ⟨f, hfn⟩ := hnat
  have hlt : ∀ x ∈ tell f 4, x < 2 ^ 64 := by
    intro x hx
    obtain ⟨i, hi, rfl⟩ := List.mem_map.1 hx
    exact (hfn i (List.mem_range.1 hi)).1
  have hw := wds_of (tell f 4) hlt
  rw [tell_length] at hw
  refine ⟨val (2 ^ 64) (tell f 4), ?_, ?_⟩
  · have := val_lt (tell f 4) hlt
    rw [tell_length, ← Nat.pow_mul] at this
    exact this
  · rw [hw]
    congr 1
    apply Array.ext
    · rw [hsz, size_nats, tell_length]
    · intro i h1 h2
      have h25 : i < 4 := by omega
      have := (hfn i h25).2
      rw [Array.getElem?_eq_getElem h1] at this
      have e2 := natsV_get .u64 (tell f 4) i (by rw [tell_length]; exact h25)
      rw [tell_getD _ _ _ h25, ← Option.some.inj this, List.getElem?_eq_getElem (by simpa using h2)] at e2
      simpa using (Option.some.inj e2).symm
end Go.Proofs.Ytfffmoolkgheaaa
namespace Go.Proofs.Ytfffmoolkgheaaa
open Go.ChangeShapes Go.WideShapes Go.ChangeAt Go.RowKit
set_option maxRecDepth 100000
set_option linter.unusedVariables false
set_option linter.unusedSimpArgs false
theorem words_of_trod {H : Type} {enc : TypeId × Value → H} {W : World} {base fuel : Nat} {spare : Nat → Bool} {held : Bool} {cs : List Value} {x : DataW H × List MemPlace}
    (h : DataW.trod enc Try.prog W base spare held fuel 24 cs = some x) : ∃ v, v < 2 ^ 256 ∧ cs = natsV .u64 (wds 4 v) := by
  obtain ⟨xs, m, rfl, hx, hl, hxl, hel⟩ := DataW.trod_array Try.underlying24 h
  have c25 : Try.prog.cellsOf 24 = 4 := by kernel_rfl
  rw [c25] at hl
  have each : ∀ i, i < 4 → ∃ z : Nat, z < 2 ^ 64 ∧ cs[i]? = some (.int .u64 (z : Int)) := by
    intro i hi
    have h1 := hel i hi
    rw [cells23, Nat.mul_one] at h1
    have e1 : (cs.drop i).take 1 = [cs[i]'(by omega)] := by
      rw [List.drop_eq_getElem_cons (by omega)]; rfl
    rw [e1] at h1
    have hxi : xs[i]? = some (xs[i]'(by omega)) := List.getElem?_eq_getElem (by omega)
    rw [hxi] at h1
    obtain ⟨z, hz1, _, hwf⟩ := DataW.trod_int Try.underlying22 h1
    have hb := bounds_u64 hwf
    obtain ⟨n, rfl⟩ := Int.eq_ofNat_of_zero_le hb.1
    refine ⟨n, by have := hb.2; omega, ?_⟩
    have : cs[i]'(by omega) = .int .u64 (n : Int) := by simpa using hz1
    rw [List.getElem?_eq_getElem (by omega), this]
  have hnat : ∃ f : Nat → Nat, ∀ i, i < 4 → f i < 2 ^ 64 ∧ cs[i]? = some (.int .u64 (f i : Nat)) := by
    refine ⟨fun i => if h : i < 4 then (each i h).choose else 0, fun i hi => ?_⟩
    simp only [hi, dif_pos]
    exact (each i hi).choose_spec
  obtain ⟨f, hfn⟩ := hnat
  have hlt : ∀ x ∈ tell f 4, x < 2 ^ 64 := by
    intro x hx
    obtain ⟨i, hi, rfl⟩ := List.mem_map.1 hx
    exact (hfn i (List.mem_range.1 hi)).1
  have hw := wds_of (tell f 4) hlt
  rw [tell_length] at hw
  refine ⟨val (2 ^ 64) (tell f 4), ?_, ?_⟩
  · have := val_lt (tell f 4) hlt
    rw [tell_length, ← Nat.pow_mul] at this
    exact this
  · rw [hw]
    apply List.ext_getElem?
    intro i
    rcases Nat.lt_or_ge i 4 with hi | hi
    · have e2 := natsV_get .u64 (tell f 4) i (by rw [tell_length]; exact hi)
      rw [tell_getD _ _ _ hi] at e2
      rw [e2]; exact (hfn i hi).2
    · rw [List.getElem?_eq_none (by omega), List.getElem?_eq_none (by rw [natsV_length, tell_length]; exact hi)]
end Go.Proofs.Ytfffmoolkgheaaa
namespace Go.Proofs.Ytfffmoolkgheaaa
open Go.ChangeShapes Go.WideShapes Go.ChangeAt Go.RowKit
set_option maxRecDepth 100000
set_option linter.unusedVariables false
set_option linter.unusedSimpArgs false
theorem pt_in {H : Type} {enc : TypeId × Value → H} {W : World} {base : Nat} {v : Value} {d : DataW H} {p : List MemPlace} (hv : Value.okWide Try.prog W .any base 43 v)
    (h : DataW.Trod enc Try.prog W 0 (fun _ => true) true 43 v d p) : ∃ x y i, x < 2 ^ 256 ∧ y < 2 ^ 256 ∧ v = .agg (pv (wds 4 x) (wds 4 y) i).toArray := by
  have hv' : ∃ cs, v = .agg cs ∧ cs.size = Try.prog.cellsOf 43 ∧ Row.okWide Try.prog W .any base 43 cs := by
    have := hv
    simp only [Value.okWide, Try.underlying43] at this
    exact this
  obtain ⟨cs, rfl, hsz, _⟩ := hv'
  obtain ⟨fuel, hf⟩ := h
  obtain ⟨xs, m, rfl, hx, hl, hxl, hel⟩ := DataW.trod_struct Try.underlying43 hf
  have c43 : Try.prog.cellsOf 43 = 9 := by kernel_rfl
  have c24 : Try.prog.cellsOf 24 = 4 := by kernel_rfl
  have c4 : Try.prog.cellsOf 4 = 1 := by kernel_rfl
  rw [c43] at hsz
  have hxl3 : xs.length = 3 := hxl
  have h0 : DataW.trod enc Try.prog W 0 (fun _ => true) true m 24 ((cs.toList.drop 0).take (Try.prog.cellsOf 24)) = xs[0]? := hel 0 _ rfl
  have h1 : DataW.trod enc Try.prog W 0 (fun _ => true) true m 24 ((cs.toList.drop 4).take (Try.prog.cellsOf 24)) = xs[1]? := hel 1 _ rfl
  have h2 : DataW.trod enc Try.prog W 0 (fun _ => true) true m 4 ((cs.toList.drop 8).take (Try.prog.cellsOf 4)) = xs[2]? := hel 2 _ rfl
  rw [List.getElem?_eq_getElem (show 0 < xs.length by omega)] at h0
  rw [List.getElem?_eq_getElem (show 1 < xs.length by omega)] at h1
  rw [List.getElem?_eq_getElem (show 2 < xs.length by omega)] at h2
  rw [c24] at h0 h1
  rw [c4] at h2
  obtain ⟨x, hx1, ex⟩ := words_of_trod h0
  obtain ⟨y, hy1, ey⟩ := words_of_trod h1
  obtain ⟨i, ei, _⟩ := DataW.trod_bool Try.underlying4 h2
  refine ⟨x, y, i, hx1, hy1, ?_⟩
  have hcl : cs.toList.length = 9 := by simpa using hsz
  have e : cs.toList = pv (wds 4 x) (wds 4 y) i := by
    have ex' : (cs.toList.drop 0).take 4 = natsV .u64 (wds 4 x) := ex
    have ey' : (cs.toList.drop 4).take 4 = natsV .u64 (wds 4 y) := ey
    have ei' : (cs.toList.drop 8).take 1 = [.bool i] := ei
    unfold pv
    rw [← ex', ← ey', ← ei', List.drop_zero]
    have h8 : (cs.toList.drop 8).take 1 = cs.toList.drop 8 := List.take_of_length_le (by rw [List.length_drop]; omega)
    have h4 : cs.toList.drop 8 = (cs.toList.drop 4).drop 4 := by rw [List.drop_drop]
    rw [h8, h4, List.take_append_drop, List.take_append_drop]
  congr 1
  rw [← e]
theorem three_in {H : Type} {enc : TypeId × Value → H} {W : World} {base : Nat} {v : Value} {d : DataW H} {p : List MemPlace} (hv : Value.okWide Try.prog W .any base 64 v)
    (h : DataW.Trod enc Try.prog W 0 (fun _ => true) true 64 v d p) : ∃ x y z, x < 2 ^ 256 ∧ y < 2 ^ 256 ∧ z < 2 ^ 256 ∧ v = .agg (tv (wds 4 x) (wds 4 y) (wds 4 z)).toArray := by
  have hv' : ∃ cs, v = .agg cs ∧ cs.size = Try.prog.cellsOf 64 ∧ Row.okWide Try.prog W .any base 64 cs := by
    have := hv
    simp only [Value.okWide, Try.underlying64] at this
    exact this
  obtain ⟨cs, rfl, hsz, _⟩ := hv'
  obtain ⟨fuel, hf⟩ := h
  obtain ⟨xs, m, rfl, hx, hl, hxl, hel⟩ := DataW.trod_struct Try.underlying64 hf
  have c43 : Try.prog.cellsOf 64 = 12 := by kernel_rfl
  have c24 : Try.prog.cellsOf 24 = 4 := by kernel_rfl
  rw [c43] at hsz
  have hxl3 : xs.length = 3 := hxl
  have h0 : DataW.trod enc Try.prog W 0 (fun _ => true) true m 24 ((cs.toList.drop 0).take (Try.prog.cellsOf 24)) = xs[0]? := hel 0 _ rfl
  have h1 : DataW.trod enc Try.prog W 0 (fun _ => true) true m 24 ((cs.toList.drop 4).take (Try.prog.cellsOf 24)) = xs[1]? := hel 1 _ rfl
  have h2 : DataW.trod enc Try.prog W 0 (fun _ => true) true m 24 ((cs.toList.drop 8).take (Try.prog.cellsOf 24)) = xs[2]? := hel 2 _ rfl
  rw [List.getElem?_eq_getElem (show 0 < xs.length by omega)] at h0
  rw [List.getElem?_eq_getElem (show 1 < xs.length by omega)] at h1
  rw [List.getElem?_eq_getElem (show 2 < xs.length by omega)] at h2
  rw [c24] at h0 h1 h2
  obtain ⟨x, hx1, ex⟩ := words_of_trod h0
  obtain ⟨y, hy1, ey⟩ := words_of_trod h1
  obtain ⟨z, hz1, ez⟩ := words_of_trod h2
  refine ⟨x, y, z, hx1, hy1, hz1, ?_⟩
  have hcl : cs.toList.length = 12 := by simpa using hsz
  have e : cs.toList = tv (wds 4 x) (wds 4 y) (wds 4 z) := by
    have ex' : (cs.toList.drop 0).take 4 = natsV .u64 (wds 4 x) := ex
    have ey' : (cs.toList.drop 4).take 4 = natsV .u64 (wds 4 y) := ey
    have ez' : (cs.toList.drop 8).take 4 = natsV .u64 (wds 4 z) := ez
    unfold tv
    rw [← ex', ← ey', ← ez', List.drop_zero]
    have h8 : (cs.toList.drop 8).take 4 = cs.toList.drop 8 := List.take_of_length_le (by rw [List.length_drop]; omega)
    have h4 : cs.toList.drop 8 = (cs.toList.drop 4).drop 4 := by rw [List.drop_drop]
    rw [h8, h4, List.take_append_drop, List.take_append_drop]
  congr 1
  rw [← e]
end Go.Proofs.Ytfffmoolkgheaaa
