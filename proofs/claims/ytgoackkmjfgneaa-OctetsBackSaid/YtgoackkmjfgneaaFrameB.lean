/- How a slice of bytes that came in, in whatever place of an argument, is told to the walks, with the reach of its length. No condition. -/
import Derived.Test.YtgoackkmjfgneaaFrame
import Derived.Test.YtgoackkmjfgneaaMem
import Derived.SizedLaws
namespace Go.Proofs.Ytgoackkmjfgneaa
open Go.ChangeShapes Go.WideShapes Go.ChangeAt Go.RowKit

theorem bytes5 : Try.prog.bytesOf 5 = 1 := by kernel_rfl

theorem bin_in {H : Type} {enc : TypeId × Value → H} {W : World} {v : Value} {fuel : Nat} {x : DataW H × List MemPlace}
    (h : DataW.trod enc Try.prog W 0 (fun _ => true) true fuel 22 [v] = some x) (hr : ∀ k ∈ DataW.weights Try.prog 22 x.1, k ≤ reachBytes) :
    ∃ a n c l, v = .slice a n c ∧ BIn W a n c l ∧ n ≤ 140737488351232 := by
  rcases open_ints Try.underlying22 Try.underlying5 (by kernel_rfl) h with ⟨hcs, _⟩ | ⟨y, n, c, zs, hcs, _, hl, hm, hz, hx, hcell, hwz⟩
  · simp only [List.cons.injEq, and_true] at hcs
    subst hcs
    exact ⟨none, 0, 0, [], rfl, ⟨⟨rfl, Nat.zero_le _, by simp, .inl rfl⟩, Nat.le_refl _, Nat.zero_le _, by omega, fun _ => rfl⟩, by omega⟩
  · simp only [List.cons.injEq, and_true] at hcs
    subst hcs
    obtain ⟨l, hrow⟩ := byteRow_in h
    simp only [if_true] at hz
    have hb : c ≤ 140737488351232 := by
      have := hr (zs.length * 1) (by
        rw [hx]
        simp only [DataW.weights, Try.underlying22, bytes5]
        refine List.mem_cons.2 (.inl ?_)
        simp [lits]
        omega)
      rw [hz] at this
      simp only [reachBytes] at this
      omega
    exact ⟨some y, n, c, l, rfl, ⟨hrow, hl, hm, by omega, fun h => by cases h⟩, by omega⟩
end Go.Proofs.Ytgoackkmjfgneaa
