/- FieldForms answers true for any number and any choice of prime. No condition but 256 bits. -/
import Derived.Test.YtfaoajljaggklaaLp
import Derived.Test.YtfaoajljaggklaaWa
import Derived.Test.YtfaoajljaggklaaFt
namespace Go.Proofs.Ytfaoajljaggklaa
open Go.RowKit
set_option linter.unusedVariables false
set_option linter.unusedSimpArgs false
theorem range_keepF {w w' : World} {g : Nat} {vs : List Value} (h : w.rangeAt g 0 vs) (hb : Below w.heap.size w w') : w'.rangeAt g 0 vs := by
  intro j v hv
  have h1 := h j v hv
  exact (hb.cell (World.block_lt_of_cell? w _ h1)).trans h1
theorem keepF4 {w w' : World} {g1 g2 g3 g4 : Nat} {a b c d : List Value} (hb : Below w.heap.size w w') (h : w.rangeAt g1 0 a ∧ w.rangeAt g2 0 b ∧ w.rangeAt g3 0 c ∧ w.rangeAt g4 0 d) : w'.rangeAt g1 0 a ∧ w'.rangeAt g2 0 b ∧ w'.rangeAt g3 0 c ∧ w'.rangeAt g4 0 d :=
  ⟨range_keepF h.1 hb, range_keepF h.2.1 hb, range_keepF h.2.2.1 hb, range_keepF h.2.2.2 hb⟩
theorem neq24 (a b : List Nat) (ha : a.length = 4) (hb : b.length = 4) (w : World) : (binOp .neq 24 (.agg (natsV .u64 a).toArray) (.agg (natsV .u64 b).toArray)).run Try.prog w = .ok (.bool (!decide (a = b))) w := by
  cases hq : Try.prog.info? 22 with
  | none => have := info22; simp [hq] at this
  | some ti =>
    have hs : ti.size = 1 := by have := info22; simpa [hq] using this
    rw [run_neq_struct, run_equalIn_array w 9999 _ _ Try.underlying24 hq, cells23, eqItems_nats w 9998 22 .u64 Try.underlying22 (by rw [hq]; simp [hs]) a b (List.range 4) (fun i hi => by have := List.mem_range.1 hi; omega), items_eq a b 4 ha hb]
    rfl
theorem eqS (l : List Nat) (h : l.length = 4) (w : World) : (binOp .eql 24 (.agg (natsV .u64 l).toArray) (.agg (natsV .u64 l).toArray)).run Try.prog w = .ok (.bool true) w := (eql24 l l h h w).trans (by simp)
theorem neS (l : List Nat) (h : l.length = 4) (w : World) : (binOp .neq 24 (.agg (natsV .u64 l).toArray) (.agg (natsV .u64 l).toArray)).run Try.prog w = .ok (.bool false) w := (neq24 l l h h w).trans (by simp)
theorem toF_mod (m x : Nat) : toF m (x % m) = toF m x := mulmod_left x (2 ^ 256) m
end Go.Proofs.Ytfaoajljaggklaa
