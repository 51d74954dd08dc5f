/- Both machines' memories: their cells, frames by type of block. No condition. -/
import Derived.Test.YtelfhpmbnficfaaRr
import Derived.Test.YtelfhpmbnficfaaZa
import Derived.Deep.MidRow
namespace Go.Proofs.Ytelfhpmbnficfaa
open Go.RowKit
set_option linter.unusedVariables false
set_option maxRecDepth 100000
set_option linter.unusedSimpArgs false
/-- the program's memory: bytes, and a row of regions of its own -/
structure PAt (w : World) (base a : Nat) (m : List Nat) (t : List Reg) (A : Option Addr) (c : Nat) : Prop where
  blk : Blk w a 61 (natsV .u8 m ++ [.slice A t.length c])
  row : w.ownsRow base 67 7 (.slice A t.length c) t.length (cellsP t)
/-- the document's -/
structure RAt (w : World) (base a : Nat) (m : List Nat) (t : List Reg) (A : Option Addr) (c : Nat) : Prop where
  blk : Blk w a 29 (natsV .u8 m ++ [.slice A t.length c])
  row : w.ownsRow base 34 6 (.slice A t.length c) t.length (cellsD t)
/-- 65,536 bytes -/
structure MOk (m : List Nat) : Prop where
  ln : m.length = 65536
  bd : ∀ x ∈ m, x < 256
/-- old blocks of these types, of the law's own, may turn -/
def TF (w : World) (base : Nat) (ts : List Nat) (j : Nat) : Prop := base ≤ j ∧ ∃ cs t fr, w.heap[j]? = some (.cells cs t fr) ∧ t ∈ ts
def FrT (base : Nat) (ts : List Nat) (w w' : World) : Prop := Fr w w' (TF w base ts)
def tyP : List Nat := [61, 67]
def tyD : List Nat := [29, 34]
theorem FrT.refl (base : Nat) (ts : List Nat) (w : World) : FrT base ts w w := Fr.refl _ _
theorem FrT.bel {base : Nat} {ts : List Nat} {w w' : World} (h : Below w.heap.size w w') : FrT base ts w w' := Fr.below h
theorem FrT.trans {base : Nat} {ts : List Nat} {a b c : World} (h : FrT base ts a b) (k : FrT base ts b c) : FrT base ts a c := by
  refine Fr.trans h k (fun j hj hG => ?_)
  obtain ⟨h1, cs, t, fr, h2, h3⟩ := hG
  apply Classical.byContradiction
  intro hn
  exact hn ⟨h1, cs, t, fr, (h.2.2.2.2 j hj hn).symm.trans h2, h3⟩
theorem FrT.below {base : Nat} {ts : List Nat} {a b : World} (h : FrT base ts a b) (hb : base ≤ a.heap.size) : Below base a b :=
  ⟨h.1, h.2.1, h.2.2.1, h.2.2.2.1, fun j hj => h.2.2.2.2 j (by omega) (fun hf => by have := hf.1; omega)⟩
theorem FrT.size {base : Nat} {ts : List Nat} {a b : World} (h : FrT base ts a b) : a.heap.size ≤ b.heap.size := h.2.2.2.1
theorem FrT.grown {base : Nat} {ts : List Nat} {a b : World} {g t : Nat} {cs : List Value} (hb : Blk a g t cs) (hg : base ≤ g) (ht : t ∈ ts) (h : a.grownBy b (some g)) : FrT base ts a b :=
  Fr.grown h (fun j e hj => by injection e with e; subst e; exact ⟨hg, _, _, _, hb, ht⟩)
theorem FrT.blk {base : Nat} {ts : List Nat} {a b : World} (h : FrT base ts a b) {g t : Nat} {cs : List Value} (hb : Blk a g t cs) (ht : t ∉ ts) : Blk b g t cs :=
  blk_fr hb h (fun hf => by
    obtain ⟨_, ds, u, fr, h2, h3⟩ := hf
    unfold Blk at hb
    rw [hb] at h2
    simp only [Option.some.injEq, Obj.cells.injEq] at h2
    obtain ⟨_, rfl, _⟩ := h2
    exact ht h3)
theorem FrT.old {base : Nat} {ts : List Nat} {a b : World} (h : FrT base ts a b) {g : Nat} (hg : g < base) (hl : g < a.heap.size) : b.heap[g]? = a.heap[g]? :=
  h.2.2.2.2 g hl (fun hf => by have := hf.1; omega)
theorem FrT.own {base : Nat} {ts : List Nat} {a b : World} (h : FrT base ts a b) {B e size n : Nat} {v : Value} {xs : List Value} (ho : a.ownsRow B e size v n xs) (ht : e ∉ ts) : b.ownsRow B e size v n xs := by
  refine own_fr ho h (fun j hj hf => ?_)
  rcases ho.2 with ⟨rfl, _⟩ | ⟨g, cap, cur, rfl, _, hg, _⟩
  · cases hj
  · simp only [Value.ownBlock, Option.some.injEq] at hj
    subst hj
    obtain ⟨_, ds, u, fr, h2, h3⟩ := hf
    rw [hg] at h2
    simp only [Option.some.injEq, Obj.cells.injEq] at h2
    obtain ⟨_, rfl, _⟩ := h2
    exact ht h3
theorem FrT.drew {base : Nat} {ts : List Nat} {a b : World} (h : FrT base ts a b) : FrT base ts a b.drew := Fr.drew h
section
variable {w w' : World} {base a : Nat} {m : List Nat} {t : List Reg} {A : Option Addr} {c : Nat}
theorem PAt.bel (h : PAt w base a m t A c) (hb : Below w.heap.size w w') : PAt w' base a m t A c := ⟨h.blk.below' hb, own_below h.row hb⟩
theorem RAt.bel (h : RAt w base a m t A c) (hb : Below w.heap.size w w') : RAt w' base a m t A c := ⟨h.blk.below' hb, own_below h.row hb⟩
theorem PAt.frD (h : PAt w base a m t A c) (hb : FrT base tyD w w') : PAt w' base a m t A c := ⟨hb.blk h.blk (by decide), hb.own h.row (by decide)⟩
theorem RAt.frP (h : RAt w base a m t A c) (hb : FrT base tyP w w') : RAt w' base a m t A c := ⟨hb.blk h.blk (by decide), hb.own h.row (by decide)⟩
theorem PAt.tab (h : PAt w base a m t A c) (k : MOk m) : w.cell? ⟨a, 65536, none⟩ = some (.slice A t.length c) := by
  rw [h.blk.cell, List.getElem?_append_right (by rw [natsV_length, k.ln]; omega), natsV_length, k.ln]; rfl
theorem RAt.tab (h : RAt w base a m t A c) (k : MOk m) : w.cell? ⟨a, 65536, none⟩ = some (.slice A t.length c) := by
  rw [h.blk.cell, List.getElem?_append_right (by rw [natsV_length, k.ln]; omega), natsV_length, k.ln]; rfl
theorem PAt.byt (h : PAt w base a m t A c) (k : MOk m) (i : Nat) (hi : i < 65536) : w.cell? ⟨a, i, none⟩ = some (.int .u8 (m.getD i 0 : Nat)) := by
  rw [h.blk.cell, List.getElem?_append_left (by rw [natsV_length, k.ln]; exact hi), natsV_get _ _ _ (by rw [k.ln]; exact hi)]
theorem RAt.byt (h : RAt w base a m t A c) (k : MOk m) (i : Nat) (hi : i < 65536) : w.cell? ⟨a, i, none⟩ = some (.int .u8 (m.getD i 0 : Nat)) := by
  rw [h.blk.cell, List.getElem?_append_left (by rw [natsV_length, k.ln]; exact hi), natsV_get _ _ _ (by rw [k.ln]; exact hi)]
/-- a region's cells -/
theorem PAt.reg (h : PAt w base a m t A c) (i : Nat) (x : Reg) (hx : t[i]? = some x) : ∃ g, A = some ⟨g, 0, none⟩ ∧ base ≤ g ∧ w.rangeAt g (i * 7) (regP x) := by
  have hl := len_of hx
  rcases h.row.2 with ⟨_, h0⟩ | ⟨g, cap, cur, he, hbg, hg, h1, h2, rest⟩
  · omega
  · injection he with e1 e2 e3
    refine ⟨g, e1, hbg, fun j v hj => ?_⟩
    have hj7 : j < 7 := by have := (List.getElem?_eq_some_iff.1 hj).1; simpa [regP] using this
    have := h.row
    rw [e1] at this
    have hc := this.cellAt (i * 7 + j) (by omega)
    rw [hc, cellsP_get t i j x hx hj7, hj]
theorem RAt.reg (h : RAt w base a m t A c) (i : Nat) (x : Reg) (hx : t[i]? = some x) : ∃ g, A = some ⟨g, 0, none⟩ ∧ base ≤ g ∧ w.rangeAt g (i * 6) (regD x) := by
  have hl := len_of hx
  rcases h.row.2 with ⟨_, h0⟩ | ⟨g, cap, cur, he, hbg, hg, h1, h2, rest⟩
  · omega
  · injection he with e1 e2 e3
    refine ⟨g, e1, hbg, fun j v hj => ?_⟩
    have hj7 : j < 6 := by have := (List.getElem?_eq_some_iff.1 hj).1; simpa [regD] using this
    have := h.row
    rw [e1] at this
    have hc := this.cellAt (i * 6 + j) (by omega)
    rw [hc, cellsD_get t i j x hx hj7, hj]
end
/-- nothing was written yet -/
def m0 : List Nat := List.replicate 65536 0
theorem m0_ok : MOk m0 := ⟨List.length_replicate, fun x hx => by rw [m0] at hx; rw [(List.mem_replicate.1 hx).2]; decide⟩
theorem m0V : natsV .u8 m0 = List.replicate 65536 (Value.int .u8 0) := by unfold natsV m0; rw [List.map_replicate]; rfl
theorem zeroP (w : World) : (zeroValue 61).run Try.prog w = .ok (.agg (natsV .u8 m0 ++ [Value.slice none 0 0]).toArray) w := by rw [m0V]; exact zV61 w
theorem zeroD (w : World) : (zeroValue 29).run Try.prog w = .ok (.agg (natsV .u8 m0 ++ [Value.slice none 0 0]).toArray) w := by rw [m0V]; exact zV29 w
theorem bldP : Try.prog.built 61 [] = some (natsV .u8 m0 ++ [Value.slice none 0 0]).toArray := by rw [m0V]; exact bld61
theorem bldD : Try.prog.built 29 [] = some (natsV .u8 m0 ++ [Value.slice none 0 0]).toArray := by rw [m0V]; exact bld29
theorem own_nil (w : World) (B e size : Nat) : w.ownsRow B e size (.slice none 0 0) 0 [] := ⟨by simp, .inl ⟨rfl, rfl⟩⟩
theorem u64_lt {n : Nat} (h : n < 18446744073709551616) : (n : Int) < 18446744073709551616 := by omega
/-- a number of 64 bits -/
def U64 (n : Nat) : Prop := n < 18446744073709551616
end Go.Proofs.Ytelfhpmbnficfaa
