/- Pieces of lists of blocks; a block is put in where it belongs. No condition. -/
import Derived.Test.YtlgpaglkhgomiaaGa
import Derived.Test.YtlgpaglkhgomiaaFk
namespace Go.Proofs.Ytlgpaglkhgomiaa
open Go.RowKit
set_option linter.unusedVariables false
set_option maxRecDepth 100000
set_option linter.unusedSimpArgs false
theorem size62 : ∀ w' : World, (sizeOf 62).run Try.prog w' = .ok 2 w' := by
  obtain ⟨i0, hi0, hz0, hz1, hz2⟩ := info_parts info62p
  intro w'; simp [sizeOf, typeInfo, hi0, hz1]
theorem elem22 : Try.prog.elem 22 = 62 := by kernel_rfl
theorem slice_from {w : World} {a : Option Addr} {n c p : Nat} {bs : List BlkR} (h : CIn w a n bs) (hnc : n ≤ c) (hz : a = none → c = 0) (hp : p ≤ n) : ∃ a', (∀ w', (Instr.slice 22 (.slice a n c) (some (.int .i64 (p : Nat))) none none).run Try.prog w' = .ok (.slice a' (n - p) (c - p)) w') ∧ CIn w a' (n - p) (bs.drop p) ∧ (a' = none → c - p = 0) := by
  have hrun : ∀ w' : World, (Instr.slice 22 (.slice a n c) (some (.int .i64 (p : Nat))) none none).run Try.prog w' = .ok (sliced a p n c 2) w' := fun w' => by
    rw [run_slice_l w' 22 a n c (by rw [elem22]; exact Try.underlying22) .i64 p (by omega) (by omega), elem22, size62]
    rfl
  unfold sliced at hrun
  by_cases q : c = p
  · rw [if_pos q] at hrun
    refine ⟨a, hrun, ⟨by rw [List.length_drop, h.1], .inl (by omega)⟩, fun _ => by omega⟩
  · rw [if_neg q] at hrun
    refine ⟨_, hrun, ⟨by rw [List.length_drop, h.1], ?_⟩, fun e => ?_⟩
    · by_cases h0 : n - p = 0
      · exact .inl h0
      · obtain ⟨b, off, rfl, hc⟩ := h.2.resolve_left (by omega)
        refine .inr ⟨b, off + p * 2, by rw [Option.map_some, Addr.add_mid], fun i x hx => ?_⟩
        have := hc (p + i) x (by rw [List.getElem?_drop] at hx; exact hx)
        rw [show off + p * 2 + i * 2 = off + (p + i) * 2 by omega]
        exact this
    · rcases a with _ | ad
      · have := hz rfl; omega
      · cases e
theorem slice_to {w : World} {a : Option Addr} {n c p : Nat} {bs : List BlkR} (h : CIn w a n bs) (hnc : n ≤ c) (hp : p ≤ n) : ∃ a', (∀ w', (Instr.slice 22 (.slice a n c) none (some (.int .i64 (p : Nat))) (some (.int .i64 (p : Nat)))).run Try.prog w' = .ok (.slice a' p p) w') ∧ CIn w a' p (bs.take p) := by
  have hrun : ∀ w' : World, (Instr.slice 22 (.slice a n c) none (some (.int .i64 (p : Nat))) (some (.int .i64 (p : Nat)))).run Try.prog w' = .ok (sliced a 0 p p 2) w' := fun w' => by
    rw [run_slice_hm w' 22 a n c (by rw [elem22]; exact Try.underlying22) .i64 .i64 p p (by omega) (by omega) (by omega), elem22, size62]
    rfl
  unfold sliced at hrun
  have hl : (bs.take p).length = p := by rw [List.length_take, h.1]; omega
  by_cases q : p = 0
  · rw [if_pos q] at hrun
    exact ⟨a, hrun, hl, .inl q⟩
  · rw [if_neg q] at hrun
    refine ⟨_, hrun, hl, ?_⟩
    obtain ⟨b, off, rfl, hc⟩ := h.2.resolve_left (by omega)
    refine .inr ⟨b, off, by rw [Option.map_some, Addr.add_mid]; simp, fun i x hx => hc i x ?_⟩
    rw [List.getElem?_take] at hx
    split at hx
    · exact hx
    · cases hx
theorem zero_rowB (w : World) : (w.alloc (.cells #[] 62)).ownsRow w.heap.size 62 2 (.slice (some ⟨w.heap.size, 0, none⟩) 0 0) 0 (rowC []) :=
  ⟨rfl, .inr ⟨w.heap.size, 0, #[], rfl, Nat.le_refl _, heap_alloc_new w _, Nat.le_refl _, by unfold maxLen; omega, rfl, rfl⟩⟩
/-- where a block is put in -/
theorem rise_in {l : List Int} {p : Nat} {x : Int} (h : l.Pairwise (· < ·)) (hp : p ≤ l.length) (h1 : ∀ m y, m < p → l[m]? = some y → y < x) (h2 : ∀ y, l[p]? = some y → x < y) : (l.take p ++ [x] ++ l.drop p).Pairwise (· < ·) := by
  have ha : (l.take p ++ l.drop p).Pairwise (· < ·) := by rw [List.take_append_drop]; exact h
  obtain ⟨a1, a2, a3⟩ := List.pairwise_append.1 ha
  have t1 : ∀ y ∈ l.take p, y < x := fun y hy => by
    obtain ⟨m, hm, e⟩ := List.mem_take_iff_getElem.1 hy
    exact h1 m y (by omega) (by rw [List.getElem?_eq_getElem (by omega), e])
  have t2 : ∀ y ∈ l.drop p, x < y := fun y hy => by
    cases hd : l.drop p with
    | nil => rw [hd] at hy; cases hy
    | cons z r =>
      have hz : x < z := h2 z (by
        have := congrArg (fun q => q[0]?) hd
        simpa using this)
      rw [hd] at hy a2
      rcases List.mem_cons.1 hy with rfl | hy
      · exact hz
      · have := (List.pairwise_cons.1 a2).1 y hy; omega
  refine List.pairwise_append.2 ⟨List.pairwise_append.2 ⟨a1, List.pairwise_singleton _ _, fun y hy z hz => ?_⟩, a2, fun y hy z hz => ?_⟩
  · obtain rfl := List.mem_singleton.1 hz; exact t1 y hy
  · rcases List.mem_append.1 hy with hy | hy
    · have := t1 y hy; have := t2 z hz; omega
    · obtain rfl := List.mem_singleton.1 hy; exact t2 z hz
/-- what the document's flash tells -/
def hB (bs : List BlkR) (x : Int) : Bool := !decide (cOf bs x = zB)
theorem told_of {bs bsO : List BlkR} (hpw : bs.Pairwise (fun x y => x.N ≠ y.N)) (hI : ∀ x ∈ bs, I64 x.N) (h1 : (bsO.map BlkR.N).Pairwise (· < ·)) (h2 : ∀ y, y ∈ bsO.map BlkR.N ↔ ∃ x ∈ bs, x.N = y ∧ x.l ≠ zB) (h3 : ∀ b ∈ bsO, b.l = cOf bs b.N) : Told (hB bs) (cOf bs) bsO := by
  refine ⟨h1, fun y => ?_, h3⟩
  rw [h2 y]
  unfold hB
  constructor
  · rintro ⟨x, hx, rfl, hl⟩
    refine ⟨hI x hx, ?_⟩
    rw [cOf_at hpw hx, decide_eq_false hl]
    rfl
  · rintro ⟨hy, hc⟩
    have hc : cOf bs y ≠ zB := by simpa using hc
    by_cases he : ∃ x ∈ bs, x.N = y
    · obtain ⟨x, hx, rfl⟩ := he
      rw [cOf_at hpw hx] at hc
      exact ⟨x, hx, rfl, hc⟩
    · exact absurd (cOf_none (fun x hx e => he ⟨x, hx, e⟩)) hc
/-- blocks of the call's own, as a list that may be read -/
theorem own_lin {w : World} {base n c : Nat} {a : Option Addr} {bs : List BlkR} (h : w.ownsRow base 62 2 (.slice a n c) n (rowC bs)) (hn : bs.length = n) (hd : ∀ x ∈ bs, DOwn w base x ∧ I64 x.N) : LIn w a n bs :=
  ⟨hn, fun x hx => ⟨(hd x hx).1.bin, (hd x hx).2⟩, (own_cin h hn).2⟩
end Go.Proofs.Ytlgpaglkhgomiaa
