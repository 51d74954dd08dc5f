/-
  DERIVED. GIVEN WITH THE SEED: THE CARDS: each row of YtidnlaibfkjgpaaDoorRows.lean that lists a variable, with what it lists TIED to the program's text (the seventh form; the later family's looks); each row that meets fmt, with fmt's text TOLD by the authors' own Lean function (tested against real Go, not proved from fmt's source: count such statements apart). THE CARD IS WHAT COUNTS. Prove the row's statement (the work); the ties are given (YtidnlaibfkjgpaaDoorTie.lean); close each card by the builder's one call (the guide's Derived/Test/ToyasCard.lean, 'card_holds'). Laid BY PROGRAM, IN A SANDBOX (cutbox-door.mjs). By AI agents, Wed Nov 11 2026. No macro, syntax, notation, axiom, sorry.
-/
import Derived.Test.YtidnlaibfkjgpaaDoorRows
import GoSem.ClaimSeven
namespace Go.Proofs.YtidnlaibfkjgpaaDoor
namespace Rows

/-- THE TIED CARD OF 'barbicanlaw03.KecPermutes'. -/
def kecPermutesCard : Claim7 := { stood := { row := kecPermutesRow, standIns := [], harness := (true, "7922492f746873af7783013bd80434227da94be92704d70840c7431e7d0eef03"), looks := false }, kinds := [], alts := [], laidByText := true, laidKinds := [.data], laidTests := true, laidLooks := .later }
def KecPermutesCardSaid : Prop := Claim7.holds Tryd.pinned (.plain (OpenSpec.ofChange kecPermutesSpec)) kecPermutesCard

/-- THE TIED CARD OF 'barbicanlaw03.KecSums'. -/
def kecSumsCard : Claim7 := { stood := { row := kecSumsRow, standIns := [], harness := (true, "7922492f746873af7783013bd80434227da94be92704d70840c7431e7d0eef03"), looks := false }, kinds := [], alts := [], laidByText := true, laidKinds := [.data], laidTests := true, laidLooks := .later }
def KecSumsCardSaid : Prop := Claim7.holds Tryd.pinned (.plain (OpenSpec.ofChange kecSumsSpec)) kecSumsCard

/-- THE TIED CARD OF 'barbicanlaw03.KecPlays'. -/
def kecPlaysCard : Claim7 := { stood := { row := kecPlaysRow, standIns := [], harness := (true, "7922492f746873af7783013bd80434227da94be92704d70840c7431e7d0eef03"), looks := false }, kinds := [], alts := [], laidByText := true, laidKinds := [.data], laidTests := true, laidLooks := .later }
def KecPlaysCardSaid : Prop := Claim7.holds Tryd.pinned (.plain (OpenSpec.ofChange kecPlaysSpec)) kecPlaysCard

/-- THE TIED CARD OF 'barbicanlaw03.KecPieces'. -/
def kecPiecesCard : Claim7 := { stood := { row := kecPiecesRow, standIns := [], harness := (true, "7922492f746873af7783013bd80434227da94be92704d70840c7431e7d0eef03"), looks := false }, kinds := [], alts := [], laidByText := true, laidKinds := [.data], laidTests := true, laidLooks := .later }
def KecPiecesCardSaid : Prop := Claim7.holds Tryd.pinned (.plain (OpenSpec.ofChange kecPiecesSpec)) kecPiecesCard

/-- THE TIED CARD OF 'barbicanlaw03.KecNil'. -/
def kecNilCard : Claim7 := { stood := { row := kecNilRow, standIns := [], harness := (true, "7922492f746873af7783013bd80434227da94be92704d70840c7431e7d0eef03"), looks := false }, kinds := [], alts := [], laidByText := true, laidKinds := [.data], laidTests := true, laidLooks := .later }
def KecNilCardSaid : Prop := Claim7.holds Tryd.pinned (.plain (OpenSpec.ofChange kecNilSpec)) kecNilCard

/-- THE SECOND FORM's CARD OF 'barbicanlaw03.KecPermutes'. -/
def kecPermutesUptoCard : Claim7 := { stood := { row := kecPermutesUptoRow, standIns := [], harness := (true, "7922492f746873af7783013bd80434227da94be92704d70840c7431e7d0eef03"), looks := false }, kinds := [], alts := [], laidByText := true, laidKinds := [.data], laidTests := true, laidLooks := .later }
def KecPermutesUptoCardSaid : Prop := Claim7.holds Tryd.pinned (.plain (OpenSpec.upto kecPermutesSpec)) kecPermutesUptoCard

/-- THE SECOND FORM's CARD OF 'barbicanlaw03.KecSums'. -/
def kecSumsUptoCard : Claim7 := { stood := { row := kecSumsUptoRow, standIns := [], harness := (true, "7922492f746873af7783013bd80434227da94be92704d70840c7431e7d0eef03"), looks := false }, kinds := [], alts := [], laidByText := true, laidKinds := [.data], laidTests := true, laidLooks := .later }
def KecSumsUptoCardSaid : Prop := Claim7.holds Tryd.pinned (.plain (OpenSpec.upto kecSumsSpec)) kecSumsUptoCard

/-- THE SECOND FORM's CARD OF 'barbicanlaw03.KecPlays'. -/
def kecPlaysUptoCard : Claim7 := { stood := { row := kecPlaysUptoRow, standIns := [], harness := (true, "7922492f746873af7783013bd80434227da94be92704d70840c7431e7d0eef03"), looks := false }, kinds := [], alts := [], laidByText := true, laidKinds := [.data], laidTests := true, laidLooks := .later }
def KecPlaysUptoCardSaid : Prop := Claim7.holds Tryd.pinned (.plain (OpenSpec.upto kecPlaysSpec)) kecPlaysUptoCard

/-- THE SECOND FORM's CARD OF 'barbicanlaw03.KecPieces'. -/
def kecPiecesUptoCard : Claim7 := { stood := { row := kecPiecesUptoRow, standIns := [], harness := (true, "7922492f746873af7783013bd80434227da94be92704d70840c7431e7d0eef03"), looks := false }, kinds := [], alts := [], laidByText := true, laidKinds := [.data], laidTests := true, laidLooks := .later }
def KecPiecesUptoCardSaid : Prop := Claim7.holds Tryd.pinned (.plain (OpenSpec.upto kecPiecesSpec)) kecPiecesUptoCard

/-- THE SECOND FORM's CARD OF 'barbicanlaw03.KecNil'. -/
def kecNilUptoCard : Claim7 := { stood := { row := kecNilUptoRow, standIns := [], harness := (true, "7922492f746873af7783013bd80434227da94be92704d70840c7431e7d0eef03"), looks := false }, kinds := [], alts := [], laidByText := true, laidKinds := [.data], laidTests := true, laidLooks := .later }
def KecNilUptoCardSaid : Prop := Claim7.holds Tryd.pinned (.plain (OpenSpec.upto kecNilSpec)) kecNilUptoCard
end Rows
end Go.Proofs.YtidnlaibfkjgpaaDoor
