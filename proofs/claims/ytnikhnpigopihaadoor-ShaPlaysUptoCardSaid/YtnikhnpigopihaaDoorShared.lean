/- What the walks of this seat share besides: rows filled in order, the two tables. No condition. -/
import Derived.Test.YtnikhnpigopihaaDoorMem
namespace Go.Proofs.YtnikhnpigopihaaDoor
open Go.RowKit
set_option linter.unusedVariables false
theorem Blk.new2 (w : World) (o : Obj) (t : TypeId) (cs : List Value) : Blk ((w.alloc o).alloc (.cells cs.toArray t)) (w.heap.size + 1) t cs := heap_alloc2_new w o _
theorem Blk.new3 (w : World) (o p : Obj) (t : TypeId) (cs : List Value) : Blk (((w.alloc o).alloc p).alloc (.cells cs.toArray t)) (w.heap.size + 1 + 1) t cs := by
  have := heap_alloc2_new (w.alloc o) p (.cells cs.toArray t)
  have e : (w.alloc o).heap.size = w.heap.size + 1 := by simp
  rw [e] at this; exact this
def zeros (n : Nat) : List Nat := List.replicate n 0
theorem bin_tail {w : World} {b off n c f : Nat} {l : List Nat} (h : BIn w (some ⟨b, off, none⟩) n c l) (hf : f < n) : BIn w (some ⟨b, off + f, none⟩) (n - f) (c - f) (l.drop f) := by
  have := bin_sub h (by omega) (show f + (n - f) ≤ n by omega)
  rwa [List.take_of_length_le (by have := h.1.1; simp; omega)] at this

theorem fill_set (m : List Nat) (N t x : Nat) (hm : m.length = t) (ht : t < N) : (m ++ zeros (N - t)).set t x = (m ++ [x]) ++ zeros (N - (t + 1)) := by
  subst hm
  rw [List.set_append_right (h := Nat.le_refl _), Nat.sub_self, List.append_assoc]
  congr 1
  obtain ⟨k, hk⟩ : ∃ k, N - m.length = k + 1 := ⟨N - m.length - 1, by omega⟩
  have : N - (m.length + 1) = k := by omega
  rw [hk, this]
  rfl
/-- the two tables of constants hold what the text says -/
def Tabs (w : World) : Prop := (∀ i, i < 16 → w.cell? ⟨0, i, none⟩ = some (.int .u64 (rootsN.getD i 0 : Nat))) ∧ (∀ i, i < 80 → w.cell? ⟨1, i, none⟩ = some (.int .u64 (cubesN.getD i 0 : Nat)))
theorem list8 {s : List Nat} (h : s.length = 8) : ∃ a b c d e f g h, s = [a, b, c, d, e, f, g, h] := by
  match s, h with
  | [a, b, c, d, e, f, g, h], _ => exact ⟨a, b, c, d, e, f, g, h, rfl⟩

theorem Tabs.below {w w' : World} (h : Tabs w) (hb : Below w.heap.size w w') : Tabs w' :=
  ⟨fun i hi => (hb.cell (World.block_lt_of_cell? w _ (h.1 i hi))).trans (h.1 i hi), fun i hi => (hb.cell (World.block_lt_of_cell? w _ (h.2 i hi))).trans (h.2 i hi)⟩
theorem Tabs.size {w : World} (h : Tabs w) : 2 ≤ w.heap.size := World.block_lt_of_cell? w _ (h.2 0 (by decide))
theorem Tabs.of {B : Nat} {w w' : World} (h : Tabs w) (hb : Below B w w') (hB : 2 ≤ B) : Tabs w' :=
  ⟨fun i hi => (hb.cell (show 0 < B by omega)).trans (h.1 i hi), fun i hi => (hb.cell (show 1 < B by omega)).trans (h.2 i hi)⟩
theorem Tabs.grown {w w' : World} {g : Nat} (h : Tabs w) (hb : w.grownBy w' (some g)) (hg : 2 ≤ g) : Tabs w' :=
  ⟨fun i hi => hb.cell (h.1 i hi) (fun e => by injection e with e; simp at e; omega), fun i hi => hb.cell (h.2 i hi) (fun e => by injection e with e; simp at e; omega)⟩
/-- a list told by its members -/
def tell (f : Nat → Nat) (t : Nat) : List Nat := (List.range t).map f
theorem tell_succ (f : Nat → Nat) (t : Nat) : tell f (t + 1) = tell f t ++ [f t] := by simp [tell, List.range_succ]
theorem tell_length (f : Nat → Nat) (t : Nat) : (tell f t).length = t := by simp [tell]
theorem fill_tell (f : Nat → Nat) (N t : Nat) (ht : t < N) : (tell f t ++ zeros (N - t)).set t (f t) = tell f (t + 1) ++ zeros (N - (t + 1)) := by
  rw [fill_set _ N t _ (tell_length f t) ht, tell_succ]
theorem tell_lt (f : Nat → Nat) (m : Nat) (h : ∀ i, f i < m) (t : Nat) : ∀ x ∈ tell f t, x < m := by
  intro x hx; obtain ⟨i, _, rfl⟩ := List.mem_map.1 hx; exact h i
/-- the first state's words -/
def firstAt (k i : Nat) : Nat := if k = 1 then rootsN.getD i 0 / 4294967296 else if k = 2 then rootsN.getD (8 + i) 0 else rootsN.getD i 0
def firstN (k : Nat) : List Nat := tell (firstAt k) 8
theorem roots_lt (t : Nat) : rootsN.getD t 0 < 18446744073709551616 := by
  by_cases h : t < 16
  · have : ∀ i, i < 16 → rootsN.getD i 0 < 18446744073709551616 := by decide +kernel
    exact this t h
  · rw [List.getD_eq_getElem?_getD, List.getElem?_eq_none (by simp [rootsN]; omega)]; decide
end Go.Proofs.YtnikhnpigopihaaDoor
