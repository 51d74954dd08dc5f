/- PackBack's walk: it answers true for any bytes, polynomial and number of bits. Condition: the coefficients are 32-bit numbers. -/
import Derived.Test.YtkpbephjjhfigaaRBa
import Derived.Test.YtkpbephjjhfigaaRBc
import Derived.Test.YtkpbephjjhfigaaRBd
import Derived.Test.YtkpbephjjhfigaaRBe
namespace Go.Proofs.YtkpbephjjhfigaaR
open Go.RowKit
set_option linter.unusedVariables false
set_option linter.unusedSimpArgs false
theorem back_walk (A : Option Addr) (n cp : Nat) (L : List Nat) (p : List Int) (hp : IsP p) (bits : Int) (w : World) (hb : BIn w A n cp L) : Calls Try.prog 4 #[.slice A n cp, .agg (iv p).toArray, .int .i64 bits] w fun e w' => e = .returned (.bool true) ∧ Below w.heap.size w w' := by
  obtain rfl : L.length = n := hb.1.1
  by_cases h1 : fuE L bits = 0 <;> by_cases h2 : fdE L 524288 bits = 0 <;> by_cases h3 : dnE (rdL p) 524288 20 = 0
  · exact back_yyy A cp L p hp bits w hb h1 h2 h3
  · exact back_yyn A cp L p hp bits w hb h1 h2 h3
  · exact back_yny A cp L p hp bits w hb h1 h2 h3
  · exact back_ynn A cp L p hp bits w hb h1 h2 h3
  · exact back_nyy A cp L p hp bits w hb h1 h2 h3
  · exact back_nyn A cp L p hp bits w hb h1 h2 h3
  · exact back_nny A cp L p hp bits w hb h1 h2 h3
  · exact back_nnn A cp L p hp bits w hb h1 h2 h3
end Go.Proofs.YtkpbephjjhfigaaR
