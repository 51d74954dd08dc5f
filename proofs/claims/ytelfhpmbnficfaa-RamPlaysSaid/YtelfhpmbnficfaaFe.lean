/- Frames: what a call leaves as it was. No condition. -/
import Derived.Test.YtelfhpmbnficfaaGr
namespace Go.Proofs.Ytelfhpmbnficfaa
open Go.RowKit
set_option linter.unusedVariables false
set_option maxRecDepth 100000
set_option linter.unusedSimpArgs false
theorem blk_ne {w : World} {g h t u : Nat} {cs ds : List Value} (h1 : Blk w g t cs) (h2 : Blk w h u ds) (hte : t ≠ u) : g ≠ h := by
  intro q
  subst q
  unfold Blk at h1 h2
  rw [h1] at h2
  simp only [Option.some.injEq, Obj.cells.injEq] at h2
  exact hte h2.2.1
theorem cell_heap {w w' : World} {b o : Nat} (h : w'.heap[b]? = w.heap[b]?) : w'.cell? ⟨b, o, none⟩ = w.cell? ⟨b, o, none⟩ := by simp [World.cell?, h]
/-- all old blocks outside F are as they were -/
def Fr (w w' : World) (F : Nat → Prop) : Prop := w'.os = w.os ∧ w'.tape = w.tape ∧ w'.output = w.output ∧ w.heap.size ≤ w'.heap.size ∧ ∀ j, j < w.heap.size → ¬ F j → w'.heap[j]? = w.heap[j]?
theorem Fr.refl (w : World) (F : Nat → Prop) : Fr w w F := ⟨rfl, rfl, rfl, Nat.le_refl _, fun _ _ _ => rfl⟩
theorem Fr.trans {a b c : World} {F G : Nat → Prop} (h : Fr a b F) (k : Fr b c G) (hG : ∀ j, j < a.heap.size → G j → F j) : Fr a c F :=
  ⟨k.1.trans h.1, k.2.1.trans h.2.1, k.2.2.1.trans h.2.2.1, Nat.le_trans h.2.2.2.1 k.2.2.2.1, fun j hj hF => (k.2.2.2.2 j (Nat.lt_of_lt_of_le hj h.2.2.2.1) (fun hg => hF (hG j hj hg))).trans (h.2.2.2.2 j hj hF)⟩
theorem Fr.mono {a b : World} {F G : Nat → Prop} (h : Fr a b F) (hG : ∀ j, j < a.heap.size → F j → G j) : Fr a b G := ⟨h.1, h.2.1, h.2.2.1, h.2.2.2.1, fun j hj hg => h.2.2.2.2 j hj (fun hf => hg (hG j hj hf))⟩
theorem Fr.grown {a b : World} {r : Option Nat} {F : Nat → Prop} (h : a.grownBy b r) (hr : ∀ j, r = some j → j < a.heap.size → F j) : Fr a b F :=
  ⟨h.os, h.tape, h.output, h.size, fun j hj hf => h.block j hj (fun e => hf (hr j e.symm hj))⟩
theorem Fr.below {a b : World} {F : Nat → Prop} (h : Below a.heap.size a b) : Fr a b F := ⟨h.os, h.tape, h.output, h.size, fun j hj _ => h.block j hj⟩
theorem Fr.toBelow {a b c : World} {F : Nat → Prop} (h : Below a.heap.size a b) (k : Fr b c F) (hF : ∀ j, j < a.heap.size → ¬ F j) : Below a.heap.size a c :=
  ⟨k.1.trans h.os, k.2.1.trans h.tape, k.2.2.1.trans h.output, Nat.le_trans h.size k.2.2.2.1, fun j hj => (k.2.2.2.2 j (Nat.lt_of_lt_of_le hj h.size) (hF j hj)).trans (h.block j hj)⟩
theorem Fr.size {a b : World} {F : Nat → Prop} (h : Fr a b F) : a.heap.size ≤ b.heap.size := h.2.2.2.1
theorem own_fr {w w' : World} {base e size n : Nat} {v : Value} {xs : List Value} {F : Nat → Prop} (h : w.ownsRow base e size v n xs) (hf : Fr w w' F) (hF : ∀ j, v.ownBlock = some j → ¬ F j) : w'.ownsRow base e size v n xs := by
  refine ⟨h.1, ?_⟩
  rcases h.2 with h2 | ⟨g, cap, cur, rfl, hbg, hg, rest⟩
  · exact .inl h2
  · exact .inr ⟨g, cap, cur, rfl, hbg, (hf.2.2.2.2 g (Array.getElem?_eq_some_iff.1 hg).1 (hF g rfl)).trans hg, rest⟩
theorem blk_fr {w w' : World} {g t : Nat} {cs : List Value} {F : Nat → Prop} (h : Blk w g t cs) (hf : Fr w w' F) (hF : ¬ F g) : Blk w' g t cs := h.of (hf.2.2.2.2 g h.lt hF)
theorem Fr.drew {a b : World} {F : Nat → Prop} (h : Fr a b F) : Fr a b.drew F := ⟨h.1, h.2.1, h.2.2.1, h.2.2.2.1, h.2.2.2.2⟩
theorem Fr.drewN {a b : World} {F : Nat → Prop} (h : Fr a b F) (q : Nat) : Fr a (b.drewN q) F := ⟨h.1, h.2.1, h.2.2.1, h.2.2.2.1, h.2.2.2.2⟩
theorem bin_fr {w w' : World} {a : Option Addr} {n c : Nat} {l : List Nat} {F : Nat → Prop} (h : BIn w a n c l) (hf : Fr w w' F) (hF : ∀ b, a = some b → 0 < n → ¬ F b.block) : BIn w' a n c l := by
  obtain ⟨⟨q1, q2, q3, q4⟩, rest⟩ := h
  refine ⟨⟨q1, q2, q3, ?_⟩, rest⟩
  by_cases hm : n = 0
  · exact .inl hm
  · obtain ⟨b, off, rfl, hcell⟩ := q4.resolve_left hm
    refine .inr ⟨b, off, rfl, fun i hi => ?_⟩
    have h0 := hcell i hi
    rw [← h0]
    exact cell_heap (hf.2.2.2.2 b (World.block_lt_of_cell? w _ h0) (hF _ rfl (by omega)))
end Go.Proofs.Ytelfhpmbnficfaa
