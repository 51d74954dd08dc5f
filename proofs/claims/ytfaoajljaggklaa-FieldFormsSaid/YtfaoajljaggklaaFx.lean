/- FieldForms answers true for any number and any choice of prime. No condition but 256 bits. -/
import Derived.Test.YtfaoajljaggklaaFn
import Derived.Test.YtfaoajljaggklaaFg
import Derived.Test.YtfaoajljaggklaaFo
namespace Go.Proofs.Ytfaoajljaggklaa
open Go.RowKit
set_option linter.unusedVariables false
set_option linter.unusedSimpArgs false
theorem forms_walk (k : Int) (x : Nat) (w : World) (hx : x < 2 ^ 256) :
    Calls Try.prog 5 #[.int .i64 k, .agg (natsV .u64 (wds 4 x)).toArray] w fun e w' => e = .returned (.bool true) ∧ Below w.heap.size w w' := by
  rcases Wh.dec k with ⟨m, f, v, h⟩ | h
  · by_cases hc : x < m
    · exact forms_ok k m f v x w hx h hc
    · exact forms_big k m f v x w hx h hc
  · exact forms_no k x w hx h
end Go.Proofs.Ytfaoajljaggklaa
