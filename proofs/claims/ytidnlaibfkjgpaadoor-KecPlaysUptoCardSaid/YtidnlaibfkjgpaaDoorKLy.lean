/- For KecPlays: a script that came in: where it lies, and that it is no larger than its bulk. No condition. -/
import Derived.Test.YtidnlaibfkjgpaaDoorKPy
import Derived.Test.YtidnlaibfkjgpaaDoorKLx
import Derived.Deep.Slices
import Derived.Deep.Strs
namespace Go.Proofs.YtidnlaibfkjgpaaDoor
open Go.Deep Go.ChangeShapes Go.WideShapes Go.ChangeAt Go.RowKit
set_option linter.unusedVariables false
instance : Inhabited OpR := ⟨⟨0, 0, none, 0, 0, []⟩⟩
theorem cells49 : Tryd.prog.cellsOf 49 = 3 := by kernel_rfl
theorem cells3 : Tryd.prog.cellsOf 3 = 1 := by kernel_rfl
theorem cells27 : Tryd.prog.cellsOf 27 = 1 := by kernel_rfl
theorem op_cells {H : Type} {enc : TypeId × Value → H} {W : World} {cs : List Value} {fuel : Nat} {x : DataW H × List MemPlace}
    (h : DataW.trod enc Tryd.prog W 0 (fun _ => true) true fuel 49 cs = some x) (hr : Rows.uptoBulk x.1 ≤ 1048576) : ∃ r : OpR, cs = r.cs ∧ (BIn W r.a r.n r.c r.l ∧ -9223372036854775808 ≤ r.bits ∧ r.bits ≤ 9223372036854775807) ∧ r.n ≤ Rows.uptoBulk x.1 := by
  obtain ⟨y0, y1, y2, n, rfl, hl, h0, h1, h2⟩ := trod_struct3 Tryd.underlying49 h
  rw [cells49] at hl
  match cs, hl with
  | [u0, u1, u2], _ =>
    have g0 : DataW.trod enc Tryd.prog W 0 (fun _ => true) true n 3 [u0] = some y0 := by simpa [cells3] using h0
    have g1 : DataW.trod enc Tryd.prog W 0 (fun _ => true) true n 3 [u1] = some y1 := by simpa [cells3] using h1
    have g2 : DataW.trod enc Tryd.prog W 0 (fun _ => true) true n 27 [u2] = some y2 := by simpa [cells27] using h2
    obtain ⟨k0, e0, _⟩ := DataW.trod_int Tryd.underlying3 g0
    obtain ⟨k1, e1, _, hwf⟩ := DataW.trod_int Tryd.underlying3 g1
    have hbd := bounds_i64 hwf
    have hb : Rows.uptoBulk y2.1 ≤ Rows.uptoBulk (DataW.agg [y0.1, y1.1, y2.1] : DataW H) := by
      simp only [Rows.uptoBulk, Rows.uptoBulkAll]
      omega
    obtain ⟨a, m, c, l, rfl, h3, h4⟩ := bin_bulk g2 (Nat.le_trans hb hr)
    simp only [List.cons.injEq, and_true] at e0 e1
    subst e0 e1
    exact ⟨⟨k0, k1, a, m, c, l⟩, rfl, ⟨h3, by show -9223372036854775808 ≤ k1; omega, by show k1 ≤ 9223372036854775807; omega⟩, Nat.le_trans h4 hb⟩
theorem sum_bulk {H : Type} (D : Nat → DataW H) (G : Nat → OpR) (L : List Nat) (h : ∀ i ∈ L, (G i).n ≤ Rows.uptoBulk (D i)) :
    ((L.map G).map OpR.n).sum ≤ Rows.uptoBulkAll (L.map D) := by
  induction L with
  | nil => simp
  | cons x r ih =>
    have h1 := h x List.mem_cons_self
    have h2 := ih (fun i hi => h i (List.mem_cons_of_mem _ hi))
    simp only [List.map_cons, List.sum_cons, Rows.uptoBulkAll]
    omega
theorem so_in {H : Type} {enc : TypeId × Value → H} {W : World} {v : Value} {fuel : Nat} {x : DataW H × List MemPlace}
    (h : DataW.trod enc Tryd.prog W 0 (fun _ => true) true fuel 39 [v] = some x) (hr : Rows.uptoBulk x.1 ≤ 1048576) :
    ∃ P np cp os, v = .slice P np cp ∧ SIn W P np os ∧ np ≤ 1048576 ∧ opsL os os.length ≤ 1048576 := by
  rcases open_slice Tryd.underlying39 h with ⟨hcs, _⟩ | ⟨a, len, cap, m, n, D, Pl, hcs, _, hl, hm, hmm, rfl, hx⟩
  · simp only [List.cons.injEq, and_true] at hcs
    subst hcs
    exact ⟨none, 0, 0, [], rfl, ⟨rfl, by simp, .inl rfl⟩, by omega, by simp [opsL]⟩
  · simp only [List.cons.injEq, and_true] at hcs
    subst hcs
    simp only [if_true] at hmm
    subst hmm
    rw [cells49] at hx
    have hall : Rows.uptoBulkAll ((List.range len).map D) ≤ 1048576 := by
      simp only [Rows.uptoBulk] at hr
      omega
    have hlen : len ≤ 1048576 := by
      have := bulk_length ((List.range len).map D)
      simp only [List.length_map, List.length_range] at this
      omega
    have hone : ∀ i, i < len → Rows.uptoBulk (D i) ≤ 1048576 := fun i hi => by
      have := bulk_mem (d := D i) (l := (List.range len).map D) (List.mem_map.2 ⟨i, List.mem_range.2 hi, rfl⟩)
      omega
    obtain ⟨G, hG⟩ := choose_lt (α := OpR) (n := len) (p := fun i g => W.cells? 0 (a.add (i * 3)) 3 = some g.cs ∧ (BIn W g.a g.n g.c g.l ∧ -9223372036854775808 ≤ g.bits ∧ g.bits ≤ 9223372036854775807) ∧ g.n ≤ Rows.uptoBulk (D i)) (fun i hi => by
      obtain ⟨cs', h1, h2⟩ := hx i (by omega)
      obtain ⟨r, rfl, h3, h4⟩ := op_cells h2 (hone i hi)
      exact ⟨r, h1, h3, h4⟩)
    refine ⟨some a, len, m, (List.range len).map G, rfl, ⟨by simp, ?_, ?_⟩, hlen, ?_⟩
    · intro y hy
      obtain ⟨i, hi, rfl⟩ := List.mem_map.1 hy
      exact (hG i (List.mem_range.1 hi)).2.1
    · by_cases h0 : len = 0
      · exact .inl h0
      right
      obtain ⟨b, off, spot⟩ := a
      have hc0 := (World.cells?_some (hG 0 (by omega)).1).2.2 0 (by omega)
      have hs := World.cell?_spot (hc0.trans (show (G 0).cs[0]? = some (.int .i64 (G 0).kd) from rfl))
      simp only [Addr.add] at hs
      have hs : spot = none := by simpa using hs
      subst hs
      refine ⟨b, off, rfl, fun i y hy => ?_⟩
      have hi : i < len := by
        have := (List.getElem?_eq_some_iff.1 hy).1
        simpa using this
      have hyG : y = G i := by
        rw [List.getElem?_map, List.getElem?_range hi] at hy
        simpa using hy.symm
      subst hyG
      intro j u hu
      have hj : j < 3 := (List.getElem?_eq_some_iff.1 hu).1
      have hc := (World.cells?_some (hG i hi).1).2.2 j hj
      rw [add_none, add_none] at hc
      exact hc.trans hu
    · unfold opsL
      rw [List.take_length]
      have := sum_bulk D G (List.range len) (fun i hi => (hG i (List.mem_range.1 hi)).2.2)
      omega
end Go.Proofs.YtidnlaibfkjgpaaDoor
