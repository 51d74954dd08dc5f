/- WideAlgebra answers true for any three numbers. No condition. -/
import Derived.Test.YtmibkgdfgaiedaaWa
import Derived.Test.YtmibkgdfgaiedaaWn
namespace Go.Proofs.Ytmibkgdfgaiedaa
open Go.RowKit
set_option linter.unusedVariables false
set_option linter.unusedSimpArgs false
theorem algebra_walk (a b c : Nat) (w : World) (ha : a < 2 ^ 256) (hb : b < 2 ^ 256) (hc : c < 2 ^ 256) :
    Calls Try.prog 8 #[.agg (natsV .u64 (wds 4 a)).toArray, .agg (natsV .u64 (wds 4 b)).toArray, .agg (natsV .u64 (wds 4 c)).toArray] w fun e w' => e = .returned (.bool true) ∧ Below w.heap.size w w' := by
  by_cases h : c = 0
  · exact alg_zero a b c w ha hb hc h
  · exact alg_nonzero a b c w ha hb hc h
end Go.Proofs.Ytmibkgdfgaiedaa
