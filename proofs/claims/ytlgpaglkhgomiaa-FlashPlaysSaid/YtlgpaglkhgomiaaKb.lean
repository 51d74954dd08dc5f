/- How many blocks a content may have. No condition. -/
import Derived.Test.YtlgpaglkhgomiaaFp
namespace Go.Proofs.Ytlgpaglkhgomiaa
open Go.Deep Go.ChangeShapes Go.WideShapes Go.ChangeAt Go.RowKit
set_option linter.unusedVariables false
set_option maxRecDepth 100000
set_option linter.unusedSimpArgs false
theorem list_few {H : Type} {enc : TypeId × Value → H} {W : World} (s e : TypeId) (hu : Try.prog.underlying s = some (.slice e)) (by' : Nat) (hb : Try.prog.bytesOf e = by')
    {a : Option Addr} {n c fuel : Nat} {x : DataW H × List MemPlace} (h : DataW.trod enc Try.prog W 0 (fun _ => true) true fuel s [.slice a n c] = some x) (hr : ∀ n ∈ DataW.weights Try.prog s x.1, n ≤ reachBytes) : n * by' ≤ 140737488351232 := by
  rcases DataW.trod_slice hu h with ⟨h2, _⟩ | ⟨ad, len, cap, elems, rest, m, hm, h2, hx, _, hlc, hcm, hel, hall, _, _⟩
  · simp at h2
    obtain ⟨_, h2, _⟩ := h2
    subst h2
    omega
  · simp at h2
    obtain ⟨_, h2, _⟩ := h2
    subst h2
    have := hr ((elems.length + rest.length) * by') (by
      rw [hx]
      simp only [DataW.weights, hu, hb, List.length_map]
      exact List.mem_cons_self ..)
    simp only [reachBytes] at this
    have h3 : n * by' ≤ (elems.length + rest.length) * by' := Nat.mul_le_mul_right _ (by omega)
    omega
theorem content_few {H : Type} {enc : TypeId × Value → H} {W : World} {d : DataW H} {p : List MemPlace} {cb : Int} {P : Option Addr} {k cp : Nat} {raw : Bool}
    (h : DataW.Trod enc Try.prog W 0 (fun _ => true) true 24 (.agg #[.int .i64 cb, .slice P k cp, .bool raw]) d p) (hw : ∀ k ∈ DataW.weights Try.prog 24 d, k ≤ reachBytes) : k ≤ 4398046510976 := by
  obtain ⟨fuel, hf0⟩ := h
  obtain ⟨xs, m, rfl, hd, hl, hlen, hf⟩ := DataW.trod_struct Try.underlying24 hf0
  rw [cells24] at hl
  simp only [Value.cells] at hl hf
  simp only [Prod.mk.injEq] at hd
  obtain ⟨hd1, hd2⟩ := hd
  match xs, hlen with
  | [y0, y1, y2], _ =>
    have g1 := hf 1 _ rfl
    simp [cellsI, cellsB, cellsBl] at g1
    have hw1 : ∀ k ∈ DataW.weights Try.prog 22 y1.1, k ≤ reachBytes := fun k hk => hw k (by
      rw [hd1]
      simp only [DataW.weights, Try.underlying24]
      exact DataW.weights_mem_each (j := 1) rfl rfl k hk)
    have := list_few 22 62 Try.underlying22 32 bytes62 g1 hw1
    omega
end Go.Proofs.Ytlgpaglkhgomiaa
