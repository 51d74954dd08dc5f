/- A whole array is stored, in a region that draws its order. No condition. -/
import Derived.Test.YtfffmoolkgheaaaA
namespace Go.Proofs.Ytfffmoolkgheaaa
open Go.RowKit
set_option linter.unusedVariables false
set_option linter.unusedSimpArgs false
section
variable {w : World} {o : Oper} {a : Act} {K : Act → World → Prop} {Q : Exit → Act → World → Prop}
theorem wst24 (x y : Operand) (ho : o.op = .store 24 x y) (g : Nat) (hx : a.eval x = .pointer (some ⟨g, 0, none⟩)) (l : List Nat) (hy : a.eval y = .agg (natsV .u64 l).toArray) (hl : l.length = 4) (old : List Nat) (hg : Blk w g 24 (natsV .u64 old)) (ho4 : old.length = 4)
    (h : K (a.put o.dst undef) (w.setRow g (natsV .u64 l).toArray)) : o.wp Try.prog a w K Q :=
  wp_store_row 24 x y ho g (natsV .u64 l).toArray hx hy 24 (natsV .u64 old).toArray hg (by rw [info24, size_nats, hl]) (by rw [size_nats, size_nats, hl, ho4]) (all_nats _ _) h
theorem wst26 (x y : Operand) (ho : o.op = .store 26 x y) (g : Nat) (hx : a.eval x = .pointer (some ⟨g, 0, none⟩)) (l : List Nat) (hy : a.eval y = .agg (natsV .u64 l).toArray) (hl : l.length = 8) (old : List Nat) (hg : Blk w g 26 (natsV .u64 old)) (ho4 : old.length = 8)
    (h : K (a.put o.dst undef) (w.setRow g (natsV .u64 l).toArray)) : o.wp Try.prog a w K Q :=
  wp_store_row 26 x y ho g (natsV .u64 l).toArray hx hy 26 (natsV .u64 old).toArray hg (by rw [info26, size_nats, hl]) (by rw [size_nats, size_nats, hl, ho4]) (all_nats _ _) h
end
theorem range_keepV {w w' : World} {g : Nat} {vs : List Value} (h : w.rangeAt g 0 vs) (hb : Below w.heap.size w w') : w'.rangeAt g 0 vs := by
  intro j v hv
  have h1 := h j v hv
  exact (hb.cell (World.block_lt_of_cell? w _ h1)).trans h1
theorem blk_rangeV {w : World} {G : Nat} {t : TypeId} {vs : List Value} (h : Blk w G t vs) : w.rangeAt G 0 vs := by
  intro j v hv
  rw [Nat.zero_add, h.cell, hv]
end Go.Proofs.Ytfffmoolkgheaaa
