/- How slices of numbers that came in are told to the walks. No condition. -/
import Derived.Test.YtbabpmncdphnjaaFr
import Derived.Test.YtbabpmncdphnjaaWw
namespace Go.Proofs.Ytbabpmncdphnjaa
open Go.ChangeShapes Go.WideShapes Go.ChangeAt Go.RowKit
set_option linter.unusedVariables false
set_option maxRecDepth 100000
set_option linter.unusedSimpArgs false
theorem u64_bounds {n : Int} (h : (Lit.int .u64 n).wf = true) : 0 ≤ n ∧ n < 18446744073709551616 := by
  have := bounds_u64 h; omega
theorem bytes8 : Try.prog.bytesOf 39 = 8 := by kernel_rfl
theorem win_in {H : Type} {enc : TypeId × Value → H} {W : World} {v : Value} {fuel : Nat} {x : DataW H × List MemPlace}
    (h : DataW.trod enc Try.prog W 0 (fun _ => true) true fuel 47 [v] = some x) (hr : ∀ k ∈ DataW.weights Try.prog 47 x.1, k ≤ reachBytes) :
    ∃ a n c l, v = .slice a n c ∧ WIn W a n c l := by
  rcases open_ints Try.underlying47 Try.underlying39 (by kernel_rfl) h with ⟨hcs, _⟩ | ⟨y, n, c, zs, hcs, _, hl, hm, hz, hx, hcell, hwz⟩
  · simp only [List.cons.injEq, and_true] at hcs
    subst hcs
    exact ⟨none, 0, 0, [], rfl, ⟨rfl, Nat.le_refl _, Nat.zero_le _, by simp, by omega, fun _ => rfl, .inl rfl⟩⟩
  · simp only [List.cons.injEq, and_true] at hcs
    subst hcs
    simp only [if_true] at hz
    have hb : c ≤ 17592186044416 := by
      have := hr (zs.length * 8) (by
        rw [hx]
        simp only [DataW.weights, Try.underlying47, bytes8]
        refine List.mem_cons.2 (.inl ?_)
        simp [lits]
        omega)
      rw [hz] at this
      simp only [reachBytes] at this
      omega
    refine ⟨some y, n, c, (zs.take n).map Int.toNat, rfl, by simp; omega, hl, hm, ?_, by omega, (fun h => by cases h), ?_⟩
    · intro k hk
      obtain ⟨z, hz1, rfl⟩ := List.mem_map.1 hk
      have := u64_bounds (hwz z (List.mem_of_mem_take hz1))
      omega
    · by_cases h0 : n = 0
      · exact .inl h0
      right
      obtain ⟨b, off, spot⟩ := y
      have hs := World.cell?_spot (hcell 0 (by omega))
      simp only [Addr.add] at hs
      subst hs
      refine ⟨b, off, rfl, fun i hi => ?_⟩
      have hc := hcell i (by omega)
      have ha : (Addr.mk b off none).add i = Addr.mk b (off + i) none := by
        simp only [Addr.add]; split
        · rename_i h; subst h; rfl
        · rfl
      rw [ha] at hc
      rw [hc]
      have hzi : zs.getD i 0 ∈ zs := by
        rw [List.getD_eq_getElem?_getD, List.getElem?_eq_getElem (by omega)]; exact List.getElem_mem _
      have hb := u64_bounds (hwz _ hzi)
      have e : ((zs.take n).map Int.toNat).getD i 0 = (zs.getD i 0).toNat := by
        simp only [List.getD_eq_getElem?_getD, List.getElem?_map, List.getElem?_take]
        rw [if_pos hi, List.getElem?_eq_getElem (by omega)]; rfl
      rw [e, Int.toNat_of_nonneg hb.1]
end Go.Proofs.Ytbabpmncdphnjaa
