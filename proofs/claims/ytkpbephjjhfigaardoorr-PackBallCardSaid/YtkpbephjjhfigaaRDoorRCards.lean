/-
  DERIVED. GIVEN WITH THE SEED: THE CARDS: each row of YtkpbephjjhfigaaRDoorRRows.lean that lists a variable, with what it lists TIED to the program's text (the seventh form; the later family's looks); each row that meets fmt, with fmt's text TOLD by the authors' own Lean function (tested against real Go, not proved from fmt's source: count such statements apart). THE CARD IS WHAT COUNTS. Prove the row's statement (the work); the ties are given (YtkpbephjjhfigaaRDoorRTie.lean); close each card by the builder's one call (the guide's Derived/Test/ToyasCard.lean, 'card_holds'). Laid BY PROGRAM, IN A SANDBOX (cutbox-door.mjs). By AI agents, Wed Nov 11 2026. No macro, syntax, notation, axiom, sorry.
-/
import Derived.Test.YtkpbephjjhfigaaRDoorRRows
import GoSem.ClaimSeven
namespace Go.Proofs.YtkpbephjjhfigaaRDoorR
namespace Rows

/-- THE TIED CARD OF 'barbicanlaw09.PackSamples'. -/
def packSamplesCard : Claim7 := { stood := { row := packSamplesRow, standIns := [], harness := (true, "7b448687104d423b5048c4574f1f2836054c25aa2f3bd3ffaf50b6d06575a74f"), looks := false }, kinds := [], alts := [], laidByText := true, laidKinds := [.data], laidTests := true, laidLooks := .later }
def PackSamplesCardSaid : Prop := Claim7.holds Tryd.pinned (.plain (OpenSpec.ofChange packSamplesSpec)) packSamplesCard

/-- THE TIED CARD OF 'barbicanlaw09.PackBall'. -/
def packBallCard : Claim7 := { stood := { row := packBallRow, standIns := [], harness := (true, "7b448687104d423b5048c4574f1f2836054c25aa2f3bd3ffaf50b6d06575a74f"), looks := false }, kinds := [], alts := [], laidByText := true, laidKinds := [.data], laidTests := true, laidLooks := .later }
def PackBallCardSaid : Prop := Claim7.holds Tryd.pinned (.plain (OpenSpec.ofChange packBallSpec)) packBallCard

/-- THE SECOND FORM's CARD OF 'barbicanlaw09.PackSamples'. -/
def packSamplesUptoCard : Claim7 := { stood := { row := packSamplesUptoRow, standIns := [], harness := (true, "7b448687104d423b5048c4574f1f2836054c25aa2f3bd3ffaf50b6d06575a74f"), looks := false }, kinds := [], alts := [], laidByText := true, laidKinds := [.data], laidTests := true, laidLooks := .later }
def PackSamplesUptoCardSaid : Prop := Claim7.holds Tryd.pinned (.plain (OpenSpec.upto packSamplesSpec)) packSamplesUptoCard

/-- THE SECOND FORM's CARD OF 'barbicanlaw09.PackBall'. -/
def packBallUptoCard : Claim7 := { stood := { row := packBallUptoRow, standIns := [], harness := (true, "7b448687104d423b5048c4574f1f2836054c25aa2f3bd3ffaf50b6d06575a74f"), looks := false }, kinds := [], alts := [], laidByText := true, laidKinds := [.data], laidTests := true, laidLooks := .later }
def PackBallUptoCardSaid : Prop := Claim7.holds Tryd.pinned (.plain (OpenSpec.upto packBallSpec)) packBallUptoCard
end Rows
end Go.Proofs.YtkpbephjjhfigaaRDoorR
