/- What a list of lists of bytes and a list of numbers that came in give: where they lie, and that they are no larger than their bulk. No condition. -/
import Derived.Test.YtidnlaibfkjgpaaDoorFrame
import Derived.Test.YtidnlaibfkjgpaaDoorKPw
import Derived.Deep.Slices
namespace Go.Proofs.YtidnlaibfkjgpaaDoor
open Go.Deep Go.ChangeShapes Go.WideShapes Go.ChangeAt Go.RowKit
set_option linter.unusedVariables false
instance : Inhabited Piece := ⟨⟨none, 0, 0, []⟩⟩
theorem flat_bulk {H : Type} (D : Nat → DataW H) (G : Nat → Piece) (L : List Nat) (h : ∀ i ∈ L, (G i).l.length ≤ Rows.uptoBulk (D i)) :
    (((L.map G).map Piece.l).flatten).length ≤ Rows.uptoBulkAll (L.map D) := by
  induction L with
  | nil => simp
  | cons x r ih =>
    have h1 := h x List.mem_cons_self
    have h2 := ih (fun i hi => h i (List.mem_cons_of_mem _ hi))
    simp only [List.map_cons, List.flatten_cons, List.length_append, Rows.uptoBulkAll]
    omega
theorem bulk_mem {H : Type} {d : DataW H} {l : List (DataW H)} (h : d ∈ l) : Rows.uptoBulk d ≤ Rows.uptoBulkAll l := by
  induction l with
  | nil => cases h
  | cons x r ih =>
    simp only [Rows.uptoBulkAll]
    rcases List.mem_cons.1 h with e | e
    · subst e; omega
    · have := ih e; omega
theorem add_none (b off i : Nat) : (Addr.mk b off none).add i = Addr.mk b (off + i) none := by
  simp only [Addr.add]; split
  · rename_i h; subst h; rfl
  · rfl
theorem ps_in {H : Type} {enc : TypeId × Value → H} {W : World} {v : Value} {fuel : Nat} {x : DataW H × List MemPlace}
    (h : DataW.trod enc Tryd.prog W 0 (fun _ => true) true fuel 52 [v] = some x) (hr : Rows.uptoBulk x.1 ≤ 1048576) :
    ∃ P np cp ps, v = .slice P np cp ∧ PsIn W P np ps ∧ np ≤ 1048576 ∧ (flatP ps ps.length).length ≤ 1048576 := by
  rcases open_slice1 Tryd.underlying52 (by kernel_rfl) h with ⟨hcs, _⟩ | ⟨a, len, cap, m, n, V, D, Pl, hcs, _, hl, hm, hmm, rfl, hx⟩
  · simp only [List.cons.injEq, and_true] at hcs
    subst hcs
    exact ⟨none, 0, 0, [], rfl, ⟨rfl, by simp, .inl rfl⟩, by omega, by simp [flatP]⟩
  · simp only [List.cons.injEq, and_true] at hcs
    subst hcs
    simp only [if_true] at hmm
    subst hmm
    have hall : Rows.uptoBulkAll ((List.range len).map D) ≤ 1048576 := by
      simp only [Rows.uptoBulk] at hr
      omega
    have hlen : len ≤ 1048576 := by
      have := bulk_length ((List.range len).map D)
      simp only [List.length_map, List.length_range] at this
      omega
    have hone : ∀ i, i < len → Rows.uptoBulk (D i) ≤ 1048576 := fun i hi => by
      have := bulk_mem (d := D i) (l := (List.range len).map D) (List.mem_map.2 ⟨i, List.mem_range.2 hi, rfl⟩)
      omega
    obtain ⟨G, hG⟩ := choose_lt (α := Piece) (n := len) (p := fun i g => V i = .slice g.a g.n g.c ∧ BIn W g.a g.n g.c g.l ∧ g.n ≤ Rows.uptoBulk (D i)) (fun i hi => by
      obtain ⟨a1, n1, c1, l1, e1, h1, h2⟩ := bin_bulk (hx i (by omega)).2 (hone i hi)
      exact ⟨⟨a1, n1, c1, l1⟩, e1, h1, h2⟩)
    refine ⟨some a, len, m, (List.range len).map G, rfl, ⟨by simp, ?_, ?_⟩, hlen, ?_⟩
    · intro y hy
      obtain ⟨i, hi, rfl⟩ := List.mem_map.1 hy
      exact (hG i (List.mem_range.1 hi)).2.1
    · by_cases h0 : len = 0
      · exact .inl h0
      right
      obtain ⟨b, off, spot⟩ := a
      have hs := World.cell?_spot (hx 0 (by omega)).1
      simp only [Addr.add] at hs
      subst hs
      refine ⟨b, off, rfl, fun i y hy => ?_⟩
      have hi : i < len := by
        have := (List.getElem?_eq_some_iff.1 hy).1
        simpa using this
      have hyG : y = G i := by
        rw [List.getElem?_map, List.getElem?_range hi] at hy
        simpa using hy.symm
      subst hyG
      have hc := (hx i (by omega)).1
      rw [add_none] at hc
      rw [hc, (hG i hi).1]
    · unfold flatP
      rw [List.take_length]
      have := flat_bulk D G (List.range len) (fun i hi => by
        have h1 := (hG i (List.mem_range.1 hi)).2
        have h2 := h1.1.1.1
        omega)
      omega
theorem zs_in {H : Type} {enc : TypeId × Value → H} {W : World} {v : Value} {fuel : Nat} {x : DataW H × List MemPlace}
    (h : DataW.trod enc Tryd.prog W 0 (fun _ => true) true fuel 53 [v] = some x) (hr : Rows.uptoBulk x.1 ≤ 1048576) :
    ∃ Z no co zs, v = .slice Z no co ∧ ZsIn W Z no zs ∧ no ≤ 1048576 := by
  rcases open_ints Tryd.underlying53 Tryd.underlying3 (by kernel_rfl) h with ⟨hcs, _⟩ | ⟨a, len, cap, zs, hcs, _, hl, hm, hz, hx, hcell, hwz⟩
  · simp only [List.cons.injEq, and_true] at hcs
    subst hcs
    exact ⟨none, 0, 0, [], rfl, ⟨rfl, by simp, .inl rfl⟩, by omega⟩
  · simp only [List.cons.injEq, and_true] at hcs
    subst hcs
    simp only [if_true] at hz
    have hlen : len ≤ 1048576 := by
      rw [hx] at hr
      simp only [Rows.uptoBulk] at hr
      have h1 := bulk_length (lits (H := H) .i64 (zs.take len))
      have h2 : (lits (H := H) .i64 (zs.take len)).length = len := by simp [lits]; omega
      omega
    refine ⟨some a, len, cap, zs.take len, rfl, ⟨by simp; omega, fun z hz1 => bounds_i64 (hwz z (List.mem_of_mem_take hz1)), ?_⟩, hlen⟩
    by_cases h0 : len = 0
    · exact .inl h0
    right
    obtain ⟨b, off, spot⟩ := a
    have hs := World.cell?_spot (hcell 0 (by omega))
    simp only [Addr.add] at hs
    subst hs
    refine ⟨b, off, rfl, fun i z hz1 => ?_⟩
    have hi : i < len := by
      have := (List.getElem?_eq_some_iff.1 hz1).1
      simp only [List.length_take] at this
      omega
    rw [List.getElem?_take, if_pos hi] at hz1
    have hc := hcell i (by omega)
    rw [add_none, List.getD_eq_getElem?_getD, hz1] at hc
    exact hc
end Go.Proofs.YtidnlaibfkjgpaaDoor
