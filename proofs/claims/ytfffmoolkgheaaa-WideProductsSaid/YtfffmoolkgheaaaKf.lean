/- Small facts that several walks share. -/
import Derived.Test.YtfffmoolkgheaaaA
import Derived.Test.YtfffmoolkgheaaaAw
import Derived.Test.YtfffmoolkgheaaaW
import Derived.Test.YtfffmoolkgheaaaH
namespace Go.Proofs.Ytfffmoolkgheaaa
open Go.RowKit
set_option linter.unusedVariables false
set_option linter.unusedSimpArgs false
theorem range_keepF {w w' : World} {g : Nat} {vs : List Value} (h : w.rangeAt g 0 vs) (hb : Below w.heap.size w w') : w'.rangeAt g 0 vs := by
  intro j v hv
  have h1 := h j v hv
  exact (hb.cell (World.block_lt_of_cell? w _ h1)).trans h1
theorem eqS (l : List Nat) (h : l.length = 4) (w : World) : (binOp .eql 24 (.agg (natsV .u64 l).toArray) (.agg (natsV .u64 l).toArray)).run Try.prog w = .ok (.bool true) w := (eql24 l l h h w).trans (by simp)
theorem eqZ (a : Nat) (ha : a < 2 ^ 256) (w : World) : (binOp .eql 24 (.agg (natsV .u64 (wds 4 a)).toArray) (.agg #[.int .u64 0, .int .u64 0, .int .u64 0, .int .u64 0])).run Try.prog w = .ok (.bool (decide (a = 0))) w := by
  rw [num_lit0, eql24 _ _ (wds_len 4 a) (wds_len 4 0), wds_inj 4 a 0 (by exact ha) (by decide)]
theorem bit_split' (e s : Nat) : e / 2 ^ s = 2 * (e / 2 ^ (s + 1)) + e / 2 ^ s % 2 := by
  rw [Nat.pow_succ, ← Nat.div_div_eq_div_mul]; omega
theorem u64_in (x : Nat) (h : x < 2 ^ 64) : IntKind.u64.wrap (x : Int) = (x : Int) := by rw [IntKind.wrap_u64]; omega
end Go.Proofs.Ytfffmoolkgheaaa
