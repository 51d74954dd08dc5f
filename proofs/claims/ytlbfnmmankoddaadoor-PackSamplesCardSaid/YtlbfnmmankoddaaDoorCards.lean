/-
  DERIVED. GIVEN WITH THE SEED: THE CARDS: each row of YtlbfnmmankoddaaDoorRows.lean that lists a variable, with what it lists TIED to the program's text (the seventh form; the later family's looks); each row that meets fmt, with fmt's text TOLD by the authors' own Lean function (tested against real Go, not proved from fmt's source: count such statements apart). THE CARD IS WHAT COUNTS. Prove the row's statement (the work); the ties are given (YtlbfnmmankoddaaDoorTie.lean); close each card by the builder's one call (the guide's Derived/Test/ToyasCard.lean, 'card_holds'). Laid BY PROGRAM, IN A SANDBOX (cutbox-door.mjs). By AI agents, Wed Nov 11 2026. No macro, syntax, notation, axiom, sorry.
-/
import Derived.Test.YtlbfnmmankoddaaDoorRows
import GoSem.ClaimSeven
namespace Go.Proofs.YtlbfnmmankoddaaDoor
namespace Rows

/-- THE TIED CARD OF 'barbicanlaw09.PackSamples'. -/
def packSamplesCard : Claim7 := { stood := { row := packSamplesRow, standIns := [], harness := (true, "ab1bb14e86837f3224cef15ee3da413ddb8194d60ed2533631a62f244ee4e3c1"), looks := false }, kinds := [], alts := [], laidByText := true, laidKinds := [.data], laidTests := true, laidLooks := .later }
def PackSamplesCardSaid : Prop := Claim7.holds Tryd.pinned (.plain (OpenSpec.ofChange packSamplesSpec)) packSamplesCard

/-- THE SECOND FORM's CARD OF 'barbicanlaw09.PackSamples'. -/
def packSamplesUptoCard : Claim7 := { stood := { row := packSamplesUptoRow, standIns := [], harness := (true, "ab1bb14e86837f3224cef15ee3da413ddb8194d60ed2533631a62f244ee4e3c1"), looks := false }, kinds := [], alts := [], laidByText := true, laidKinds := [.data], laidTests := true, laidLooks := .later }
def PackSamplesUptoCardSaid : Prop := Claim7.holds Tryd.pinned (.plain (OpenSpec.upto packSamplesSpec)) packSamplesUptoCard
end Rows
end Go.Proofs.YtlbfnmmankoddaaDoor
