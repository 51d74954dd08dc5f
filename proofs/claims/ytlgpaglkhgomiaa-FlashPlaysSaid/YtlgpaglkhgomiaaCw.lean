/- For FlashCut: the writes that came in, and what is wanted. No condition. -/
import Derived.Test.YtlgpaglkhgomiaaAl
namespace Go.Proofs.Ytlgpaglkhgomiaa
open Go.RowKit
set_option linter.unusedVariables false
set_option maxRecDepth 100000
set_option linter.unusedSimpArgs false
/-- one op -/
structure OpR where
  kd : Int
  n : Int
  m : Int
  a : Option Addr
  k : Nat
  c : Nat
  l : List Nat
  raw : Bool
  dn : Bool
  fr : Nat
  sz : Nat
def OpR.cs (x : OpR) : List Value := [.int .i64 x.kd, .int .i64 x.n, .int .i64 x.m, .slice x.a x.k x.c, .bool x.raw, .bool x.dn, .int .u64 (x.fr : Nat), .int .u64 (x.sz : Nat)]
def OpR.fit (w : World) (x : OpR) : Prop := BIn w x.a x.k x.c x.l ∧ I64 x.kd ∧ I64 x.n ∧ I64 x.m ∧ x.fr < 18446744073709551616 ∧ x.sz < 18446744073709551616
/-- the ops that came in -/
def OIn (w : World) (P : Option Addr) (np : Nat) (os : List OpR) : Prop :=
  os.length = np ∧ (∀ x ∈ os, x.fit w) ∧ (np = 0 ∨ ∃ b off, P = some ⟨b, off, none⟩ ∧ ∀ i x, os[i]? = some x → w.rangeAt b (off + i * 8) x.cs)
theorem OpR.fit.below {w w' : World} {x : OpR} (h : x.fit w) (hb : Below w.heap.size w w') : x.fit w' := ⟨h.1.below hb, h.2⟩
/-- the first i are what is wanted -/
def WAt (w : World) (g i : Nat) (L : Nat → List Nat) : Prop :=
  ∃ cs : List Value, cs.length = 8 ∧ Blk w g 52 cs ∧ ∀ j, j < i → ∃ q, cs[j]? = some (.slice (some ⟨q, 0, none⟩) 512 512) ∧ Blk w q 5 (natsV .u8 (L j))
def upN (L : Nat → List Nat) (j : Nat) (l : List Nat) : Nat → List Nat := fun y => if y = j then l else L y
theorem WAt.lt {w : World} {g i : Nat} {L : Nat → List Nat} (h : WAt w g i L) : g < w.heap.size := by obtain ⟨cs, _, h1, _⟩ := h; exact h1.lt
theorem WAt.fr {w w' : World} {g i : Nat} {L : Nat → List Nat} {F : Nat → Prop} (h : WAt w g i L) (hf : Fr w w' F) (hg : ¬ F g) (h5 : ∀ q cs, Blk w q 5 cs → ¬ F q) : WAt w' g i L := by
  obtain ⟨cs, h1, h2, h3⟩ := h
  refine ⟨cs, h1, blk_fr h2 hf hg, fun j hj => ?_⟩
  obtain ⟨q, e1, e2⟩ := h3 j hj
  exact ⟨q, e1, blk_fr e2 hf (h5 q _ e2)⟩
theorem WAt.below {w w' : World} {g i : Nat} {L : Nat → List Nat} (h : WAt w g i L) (hb : Below w.heap.size w w') : WAt w' g i L :=
  h.fr (Fr.below hb : Fr w w' (fun _ => False)) (fun x => x) (fun _ _ _ x => x)
theorem WAt.set {w : World} {g i j q : Nat} {L : Nat → List Nat} {l : List Nat} (h : WAt w g i L) (hj : j < 8) (hq : Blk w q 5 (natsV .u8 l)) (i' : Nat) (hi : ∀ y, y < i' → y = j ∨ y < i) :
    WAt (w.setCell ⟨g, j, none⟩ (.slice (some ⟨q, 0, none⟩) 512 512)) g i' (upN L j l) := by
  obtain ⟨cs, h1, h2, h3⟩ := h
  have hne : ∀ q' cs', Blk w q' 5 cs' → q' ≠ g := fun q' cs' h => blk_ne h h2 (by decide)
  refine ⟨cs.set j (.slice (some ⟨q, 0, none⟩) 512 512), by simpa using h1, h2.set j _, fun y hy => ?_⟩
  by_cases e : y = j
  · subst e
    refine ⟨q, by simp [h1, hj], ?_⟩
    unfold upN
    rw [if_pos rfl]
    exact hq.other ⟨g, y, none⟩ _ (hne _ _ hq)
  · obtain ⟨q', e1, e2⟩ := h3 y ((hi y hy).resolve_left e)
    refine ⟨q', by rw [List.getElem?_set_ne (fun h => e h.symm)]; exact e1, ?_⟩
    unfold upN
    rw [if_neg e]
    exact e2.other ⟨g, j, none⟩ _ (hne _ _ e2)
theorem WAt.cell {w : World} {g i j : Nat} {L : Nat → List Nat} (h : WAt w g i L) (hj : j < i) (hl : IsB (L j)) : ∃ q, w.cell? ⟨g, j, none⟩ = some (.slice (some ⟨q, 0, none⟩) 512 512) ∧ BIn w (some ⟨q, 0, none⟩) 512 512 (L j) := by
  obtain ⟨cs, h1, h2, h3⟩ := h
  obtain ⟨q, e1, e2⟩ := h3 j hj
  exact ⟨q, by rw [h2.cell]; exact e1, bin_blk e2 hl⟩
theorem WAt.free {w : World} {g i : Nat} {L : Nat → List Nat} (h : WAt w g i L) (j : Nat) : w.frozen? ⟨g, j, none⟩ = false := by
  obtain ⟨cs, h1, h2, h3⟩ := h; exact h2.free j
theorem WAt.some {w : World} {g i j : Nat} {L : Nat → List Nat} (h : WAt w g i L) (hj : j < 8) : ∃ v, w.cell? ⟨g, j, none⟩ = some v := by
  obtain ⟨cs, h1, h2, h3⟩ := h
  exact ⟨cs[j]'(by omega), by rw [h2.cell]; simp [h1, hj]⟩
theorem WAt.new (w : World) : WAt (w.alloc (.cells #[.slice none 0 0, .slice none 0 0, .slice none 0 0, .slice none 0 0, .slice none 0 0, .slice none 0 0, .slice none 0 0, .slice none 0 0] 52)) w.heap.size 0 (fun _ => zB) :=
  ⟨[.slice none 0 0, .slice none 0 0, .slice none 0 0, .slice none 0 0, .slice none 0 0, .slice none 0 0, .slice none 0 0, .slice none 0 0], rfl, Blk.new w _ _, fun j hj => absurd hj (Nat.not_lt_zero j)⟩
theorem fill_nil : fillL [] = zB := by unfold fillL zB; simp
theorem bin_nil (w : World) : BIn w none 0 0 [] := bin_empty w none 0 (Nat.zero_le _) (fun _ => rfl)
theorem range_cell {w : World} {b o j : Nat} {cs : List Value} {v : Value} (h : w.rangeAt b o cs) (hv : cs[j]? = .some v) : w.cell? ⟨b, o + j, none⟩ = .some v := h j v hv
theorem new_nil (N : Int) (w : World) (hN0 : 1 ≤ N) (hN1 : N ≤ 1048576) (k : Nat) (c : Nat) (hk : k = 0) (hc : c = 0) :
    Calls Try.prog 7 #[.int .i64 N, .slice none k c] w fun e w' => ∃ f mb, w.heap.size ≤ f ∧ w.heap.size ≤ mb ∧ e = .returned (.tuple #[.pointer (some ⟨f, 0, none⟩), .int .i64 0]) ∧ FlB w' f mb N true 0 false 0 ∧ MAt w' mb 0 (fun _ => false) (fun _ => zB) ∧ Below w.heap.size w w' := by
  subst hk hc
  refine (new_any N none 0 0 [] w hN0 hN1 ⟨rfl, fun x hx => (by cases hx), .inl rfl⟩ (by omega)).mono ?_
  rintro e w' ⟨hb, _, hq⟩
  obtain ⟨f, mb, h1, h2, rfl, h4, h5⟩ := hq rfl
  exact ⟨f, mb, h1, h2, rfl, h4, h5.congr (fun x _ => rfl) (fun _ _ => rfl) (fun _ => zB_is), hb⟩
end Go.Proofs.Ytlgpaglkhgomiaa
