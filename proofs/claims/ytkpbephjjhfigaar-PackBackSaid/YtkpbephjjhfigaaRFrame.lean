/- What each statement's frame asks of the program as a whole, and how slices of bytes that came in are told to the walks. No condition. -/
import Derived.Test.YtkpbephjjhfigaaRRows
import Derived.Test.YtkpbephjjhfigaaRRd
import Derived.OpenShut
import Derived.ShutString
import Derived.ChangeOld
import Derived.Below
import Derived.SizedLaws
namespace Go.Proofs.YtkpbephjjhfigaaR
open Go.ChangeShapes Go.WideShapes Go.ChangeAt Go.RowKit
set_option linter.unusedVariables false
set_option linter.unusedSimpArgs false

theorem own : ownKnob Try.prog.godebug = none := by kernel_rfl

theorem laidOut : laidOutB Try.prog = true := by kernel_rfl

theorem u8_bounds {n : Int} (h : (Lit.int .u8 n).wf = true) : 0 ≤ n ∧ n < 256 := by
  have := bounds_u8 h; omega

theorem u32_bounds {n : Int} (h : (Lit.int .u32 n).wf = true) : 0 ≤ n ∧ n < 4294967296 := by
  have := bounds_u32 h; omega

/-- A slice of bytes that came in leads to bytes. -/
theorem byteRow_in {H : Type} {enc : TypeId × Value → H} {W : World} {a : Option Addr} {len cap fuel : Nat} {x : DataW H × List MemPlace}
    (h : DataW.trod enc Try.prog W 0 (fun _ => true) true fuel 25 [Value.slice a len cap] = some x) : ∃ l, ByteRow W a len l := by
  rcases open_ints Try.underlying25 Try.underlying5 (by kernel_rfl) h with ⟨hcs, _⟩ | ⟨y, l, c, zs, hcs, _, hl, hm, hz, _, hcell, hwz⟩
  · simp only [List.cons.injEq, Value.slice.injEq, and_true] at hcs
    obtain ⟨rfl, rfl, rfl⟩ := hcs
    exact ⟨[], rfl, Nat.zero_le _, by simp, .inl rfl⟩
  · simp only [List.cons.injEq, Value.slice.injEq, and_true] at hcs
    obtain ⟨rfl, rfl, rfl⟩ := hcs
    simp only [if_true] at hz
    refine ⟨(zs.take len).map Int.toNat, by simp; omega, by omega, ?_, ?_⟩
    · intro n hn
      obtain ⟨z, hz1, rfl⟩ := List.mem_map.1 hn
      have := u8_bounds (hwz z (List.mem_of_mem_take hz1))
      omega
    · by_cases h0 : len = 0
      · exact .inl h0
      right
      obtain ⟨b, off, spot⟩ := y
      have hs := World.cell?_spot (hcell 0 (by omega))
      simp only [Addr.add] at hs
      subst hs
      refine ⟨b, off, rfl, fun i hi => ?_⟩
      have hc := hcell i (by omega)
      have ha : (Addr.mk b off none).add i = Addr.mk b (off + i) none := by
        simp only [Addr.add]; split
        · rename_i h; subst h; rfl
        · rfl
      rw [ha] at hc
      rw [hc]
      have hzi : zs.getD i 0 ∈ zs := by
        rw [List.getD_eq_getElem?_getD, List.getElem?_eq_getElem (by omega)]; exact List.getElem_mem _
      have hb := u8_bounds (hwz _ hzi)
      have e : ((zs.take len).map Int.toNat).getD i 0 = (zs.getD i 0).toNat := by
        simp only [List.getD_eq_getElem?_getD, List.getElem?_map, List.getElem?_take]
        rw [if_pos hi, List.getElem?_eq_getElem (by omega)]; rfl
      rw [e, Int.toNat_of_nonneg hb.1]

theorem bytes5 : Try.prog.bytesOf 5 = 1 := by kernel_rfl

theorem bin_in {H : Type} {enc : TypeId × Value → H} {W : World} {v : Value} {fuel : Nat} {x : DataW H × List MemPlace}
    (h : DataW.trod enc Try.prog W 0 (fun _ => true) true fuel 25 [v] = some x) (hr : ∀ k ∈ DataW.weights Try.prog 25 x.1, k ≤ reachBytes) :
    ∃ a n c l, v = .slice a n c ∧ BIn W a n c l ∧ n ≤ 140737488351232 := by
  rcases open_ints Try.underlying25 Try.underlying5 (by kernel_rfl) h with ⟨hcs, _⟩ | ⟨y, n, c, zs, hcs, _, hl, hm, hz, hx, hcell, hwz⟩
  · simp only [List.cons.injEq, and_true] at hcs
    subst hcs
    exact ⟨none, 0, 0, [], rfl, ⟨⟨rfl, Nat.zero_le _, by simp, .inl rfl⟩, Nat.le_refl _, Nat.zero_le _, by omega, fun _ => rfl⟩, by omega⟩
  · simp only [List.cons.injEq, and_true] at hcs
    subst hcs
    obtain ⟨l, hrow⟩ := byteRow_in h
    simp only [if_true] at hz
    have hb : c ≤ 140737488351232 := by
      have := hr (zs.length * 1) (by
        rw [hx]
        simp only [DataW.weights, Try.underlying25, bytes5]
        refine List.mem_cons.2 (.inl ?_)
        simp [lits]
        omega)
      rw [hz] at this
      simp only [reachBytes] at this
      omega
    exact ⟨some y, n, c, l, rfl, ⟨hrow, hl, hm, by omega, fun h => by cases h⟩, by omega⟩

theorem bulk_one {H : Type} (d : DataW H) : 1 ≤ Rows.uptoBulk d := by
  cases d with
  | lit l => cases l <;> simp [Rows.uptoBulk]
  | nil => simp [Rows.uptoBulk]
  | ptr d => simp [Rows.uptoBulk]
  | slice elems spare => simp [Rows.uptoBulk]
  | agg parts => simp [Rows.uptoBulk]
  | iface t d => simp [Rows.uptoBulk]
  | map entries => simp [Rows.uptoBulk]
  | held h => simp [Rows.uptoBulk]

theorem bulk_length {H : Type} (l : List (DataW H)) : l.length ≤ Rows.uptoBulkAll l := by
  induction l with
  | nil => simp [Rows.uptoBulkAll]
  | cons x r ih => have := bulk_one x; simp only [Rows.uptoBulkAll, List.length_cons]; omega

theorem bin_bulk {H : Type} {enc : TypeId × Value → H} {W : World} {v : Value} {fuel : Nat} {x : DataW H × List MemPlace}
    (h : DataW.trod enc Try.prog W 0 (fun _ => true) true fuel 25 [v] = some x) (hr : Rows.uptoBulk x.1 ≤ 1048576) :
    ∃ a n c l, v = .slice a n c ∧ BIn W a n c l ∧ n ≤ Rows.uptoBulk x.1 := by
  rcases open_ints Try.underlying25 Try.underlying5 (by kernel_rfl) h with ⟨hcs, _⟩ | ⟨y, n, c, zs, hcs, _, hl, hm, hz, hx, hcell, hwz⟩
  · simp only [List.cons.injEq, and_true] at hcs
    subst hcs
    exact ⟨none, 0, 0, [], rfl, ⟨⟨rfl, Nat.zero_le _, by simp, .inl rfl⟩, Nat.le_refl _, Nat.zero_le _, by omega, fun _ => rfl⟩, by omega⟩
  · simp only [List.cons.injEq, and_true] at hcs
    subst hcs
    obtain ⟨l, hrow⟩ := byteRow_in h
    simp only [if_true] at hz
    have hb : n ≤ Rows.uptoBulk x.1 := by
      rw [hx]
      simp only [Rows.uptoBulk]
      have h1 := bulk_length (lits (H := H) .u8 (zs.take n))
      have h2 : (lits (H := H) .u8 (zs.take n)).length = n := by simp [lits]; omega
      omega
    exact ⟨some y, n, c, l, rfl, ⟨hrow, hl, hm, by omega, fun h => by cases h⟩, hb⟩
/-- a polynomial that came in -/
theorem poly_in {H : Type} {enc : TypeId × Value → H} {W : World} {base : Nat} {v : Value} {d : DataW H} {p : List MemPlace} (hv : Value.okWide Try.prog W .any base 23 v)
    (h : DataW.Trod enc Try.prog W 0 (fun _ => true) true 23 v d p) : ∃ l, IsP l ∧ v = .agg (iv l).toArray := by
  have hv' : ∃ cs, v = .agg cs ∧ cs.size = Try.prog.cellsOf 23 ∧ Row.okWide Try.prog W .any base 23 cs := by
    have := hv
    simp only [Value.okWide, Try.underlying23] at this
    exact this
  obtain ⟨cs, rfl, hsz, _⟩ := hv'
  obtain ⟨fuel, hf⟩ := h
  obtain ⟨xs, m, rfl, hx, hl, hxl, hel⟩ := DataW.trod_array Try.underlying23 hf
  have c23 : Try.prog.cellsOf 23 = 256 := by kernel_rfl
  rw [c23] at hsz
  have each : ∀ i, i < 256 → ∃ z : Int, (-2147483648 ≤ z ∧ z ≤ 2147483647) ∧ cs[i]? = some (.int .i32 z) := by
    intro i hi
    have h1 := hel i hi
    rw [cells21, Nat.mul_one] at h1
    have hcl : cs.toList.length = 256 := by simpa using hsz
    have e1 : ((Value.agg cs).cells.toList.drop i).take 1 = [cs.toList[i]'(by omega)] := by
      show (cs.toList.drop i).take 1 = _
      rw [List.drop_eq_getElem_cons (by omega)]; rfl
    rw [e1] at h1
    have hxi : xs[i]? = some (xs[i]'(by omega)) := List.getElem?_eq_getElem (by omega)
    rw [hxi] at h1
    obtain ⟨z, hz1, _, hwf⟩ := DataW.trod_int Try.underlying21 h1
    refine ⟨z, bounds_i32 hwf, ?_⟩
    have : cs.toList[i]'(by omega) = .int .i32 z := by simpa using hz1
    rw [← Array.getElem?_toList, List.getElem?_eq_getElem (by omega), this]
  have hint : ∃ f : Nat → Int, ∀ i, i < 256 → (-2147483648 ≤ f i ∧ f i ≤ 2147483647) ∧ cs[i]? = some (.int .i32 (f i)) := by
    refine ⟨fun i => if h : i < 256 then (each i h).choose else 0, fun i hi => ?_⟩
    simp only [hi, dif_pos]
    exact (each i hi).choose_spec
  obtain ⟨f, hfn⟩ := hint
  refine ⟨tellI f 256, ⟨tellI_length _ _, fun i hi => ?_⟩, ?_⟩
  · rw [tellI_get _ _ _ hi]; exact (hfn i hi).1
  · congr 1
    apply Array.ext
    · rw [hsz, iv_size, tellI_length]
    · intro i h1 h2
      have h25 : i < 256 := by omega
      have := (hfn i h25).2
      rw [Array.getElem?_eq_getElem h1] at this
      have e2 := iv_get (tellI f 256) i (by rw [tellI_length]; exact h25)
      rw [tellI_get _ _ _ h25, ← Option.some.inj this, List.getElem?_eq_getElem (by simpa using h2)] at e2
      simpa using (Option.some.inj e2).symm
end Go.Proofs.YtkpbephjjhfigaaR
