/- FieldSums answers true for any two numbers and any choice of prime. No condition but 256 bits. -/
import Derived.Test.YtfaoajljaggklaaFSa
import Derived.Test.YtfaoajljaggklaaFSb
import Derived.Test.YtfaoajljaggklaaFSc
import Derived.Test.YtfaoajljaggklaaFSe
namespace Go.Proofs.Ytfaoajljaggklaa
open Go.RowKit
set_option linter.unusedVariables false
set_option linter.unusedSimpArgs false
theorem sums5_walk (k : Int) (a b : Nat) (w : World) (ha : a < 2 ^ 256) (hb : b < 2 ^ 256) :
    Calls Try.prog 6 #[.int .i64 k, .agg (natsV .u64 (wds 4 a)).toArray, .agg (natsV .u64 (wds 4 b)).toArray] w fun e w' => e = .returned (.bool true) ∧ Below w.heap.size w w' := by
  rcases Wh.dec k with ⟨m, f, v, h⟩ | h
  · by_cases hca : a < m
    · by_cases hcb : b < m
      · exact sums5_ok k m f v a b w ha hb h hca hcb
      · exact sums5_b k m f v a b w ha hb h hca hcb
    · exact sums5_a k m f v a b w ha hb h hca
  · exact sums5_no k a b w ha hb h
end Go.Proofs.Ytfaoajljaggklaa
