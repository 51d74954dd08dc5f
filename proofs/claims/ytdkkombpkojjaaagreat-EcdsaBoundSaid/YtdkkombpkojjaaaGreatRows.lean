/-
  No cell of these rows narrows 'for every input' (looked for: loops, veiled, ifaces, maps, wideKeys, modest, calm, conditions, laid).
  DERIVED. THE GIVEN ROWS OF THIS SEAT. 3 by the template 'for every input the law returns true; each argument reads behind the call as it read before'; 0 by the template 'total and deterministic' (their statements: YtdkkombpkojjaaaGreatTotals.lean).
  GIVEN WITH THE SEED: the statements are not yours to turn. If you find one false, say at which input.
  Laid BY PROGRAM, IN A SANDBOX (cutbox-rows.mjs): the forced cells as the released guide's own fill.sh prints them over the translation 921c708507754886… (all of the seat's roots in one cut). By AI agents, Wed Nov 11 2026. No macro, syntax, notation, axiom, sorry.
-/
import Derived.Test.YtdkkombpkojjaaaGreatChecked
import GoSem.Claim
import GoSem.ClaimJoined
import GoSem.ClaimMapViews
import Derived.JoinedTies
import Derived.KernelRfl
namespace Go.Proofs.YtdkkombpkojjaaaGreat
/- THE CELL 'sum', in the pinned program and in every row, IS THE sha256 OF THE DUMP (.gsa) THAT YtdkkombpkojjaaaGreatProg.lean LOADS. Nothing in Lean hashes anything: it is a label: what it is worth is what the hold of that sum in a sandbox is worth. -/
noncomputable def Tryz.pinned : Pinned := { name := "ytdkkombpkojjaaagreat", sum := "921c708507754886de04e4be9c7acd999cf6cff2b3335ff9b7c0a182ddda7c14", checked := Tryz.checked }
namespace Rows
def none {H : Type} : Left H := { results := [], args := [] }

/-- 'barbicanlaw07.EcdsaParts': WHATEVER THE INPUT: true; the input reads as it did. -/
def ecdsaPartsSpec : ChangeSpec := { name := "ecdsaParts", fn := fun _ => fun
  | [d1, d2, d3] => { results := [.lit (.bool true)], args := [d1, d2, d3] }
  | _ => none }
def ecdsaPartsRow : OpenClaim := { program := "ytdkkombpkojjaaagreat", sum := "921c708507754886de04e4be9c7acd999cf6cff2b3335ff9b7c0a182ddda7c14", func := "barbican/barbicanlaw07.EcdsaParts", spec := "ecdsaParts", apart := false }
def EcdsaPartsSaid : Prop := ecdsaPartsRow.holds Tryz.pinned (OpenSpec.ofChange ecdsaPartsSpec)

/-- ITS FALSE NEIGHBOUR: 'it returns false'. Refute it at one input. -/
def ecdsaPartsWrong : ChangeSpec := { name := "ecdsaParts", fn := fun _ => fun
  | [d1, d2, d3] => { results := [.lit (.bool false)], args := [d1, d2, d3] }
  | _ => none }
def EcdsaPartsWrongFalsely : Prop := ecdsaPartsRow.holds Tryz.pinned (OpenSpec.ofChange ecdsaPartsWrong)

/-- 'barbicanlaw07.EcdsaVerifies': WHATEVER THE INPUT: true; the input reads as it did. -/
def ecdsaVerifiesSpec : ChangeSpec := { name := "ecdsaVerifies", fn := fun _ => fun
  | [d1, d2, d3] => { results := [.lit (.bool true)], args := [d1, d2, d3] }
  | _ => none }
def ecdsaVerifiesRow : OpenClaim := { program := "ytdkkombpkojjaaagreat", sum := "921c708507754886de04e4be9c7acd999cf6cff2b3335ff9b7c0a182ddda7c14", func := "barbican/barbicanlaw07.EcdsaVerifies", spec := "ecdsaVerifies", apart := false }
def EcdsaVerifiesSaid : Prop := ecdsaVerifiesRow.holds Tryz.pinned (OpenSpec.ofChange ecdsaVerifiesSpec)

/-- ITS FALSE NEIGHBOUR: 'it returns false'. Refute it at one input. -/
def ecdsaVerifiesWrong : ChangeSpec := { name := "ecdsaVerifies", fn := fun _ => fun
  | [d1, d2, d3] => { results := [.lit (.bool false)], args := [d1, d2, d3] }
  | _ => none }
def EcdsaVerifiesWrongFalsely : Prop := ecdsaVerifiesRow.holds Tryz.pinned (OpenSpec.ofChange ecdsaVerifiesWrong)

/-- 'barbicanlaw07.EcdsaBound': WHATEVER THE INPUT: true; the input reads as it did. -/
def ecdsaBoundSpec : ChangeSpec := { name := "ecdsaBound", fn := fun _ => fun
  | [d1, d2] => { results := [.lit (.bool true)], args := [d1, d2] }
  | _ => none }
def ecdsaBoundRow : OpenClaim := { program := "ytdkkombpkojjaaagreat", sum := "921c708507754886de04e4be9c7acd999cf6cff2b3335ff9b7c0a182ddda7c14", func := "barbican/barbicanlaw07.EcdsaBound", spec := "ecdsaBound", apart := false }
def EcdsaBoundSaid : Prop := ecdsaBoundRow.holds Tryz.pinned (OpenSpec.ofChange ecdsaBoundSpec)

/-- ITS FALSE NEIGHBOUR: 'it returns false'. Refute it at one input. -/
def ecdsaBoundWrong : ChangeSpec := { name := "ecdsaBound", fn := fun _ => fun
  | [d1, d2] => { results := [.lit (.bool false)], args := [d1, d2] }
  | _ => none }
def EcdsaBoundWrongFalsely : Prop := ecdsaBoundRow.holds Tryz.pinned (OpenSpec.ofChange ecdsaBoundWrong)

/- THE SECOND FORM. 'bulk': how many values and letters a reading holds, each counted each time it is reached (what is shared counts as often as it is met; a slice's spare places count too). A statement '..UptoSaid' is the law's where the arguments, and the package variables that the reading takes, are together of bulk at most 1048576: NARROWER than '..Said'. Prove '..Said' where nothing that the law and all that it calls make is longer than what came in: it says more and counts as full. Else prove '..UptoSaid'. A law counts once. -/
mutual
def uptoBulk {H : Type} : DataW H → Nat
  | .lit (.string bytes) => bytes.length + 1
  | .lit _ => 1
  | .nil => 1
  | .ptr d => uptoBulk d + 1
  | .slice elems spare => uptoBulkAll elems + uptoBulkAll spare + 1
  | .agg parts => uptoBulkAll parts + 1
  | .iface _ d => uptoBulk d + 1
  | .map entries => uptoBulkEntries entries + 1
  | .held _ => 1
def uptoBulkAll {H : Type} : List (DataW H) → Nat
  | [] => 0
  | d :: r => uptoBulk d + uptoBulkAll r
def uptoBulkEntries {H : Type} : List (Lit × DataW H) → Nat
  | [] => 0
  | x :: r => uptoBulkEntry x + uptoBulkEntries r
def uptoBulkEntry {H : Type} : Lit × DataW H → Nat
  | (.string bytes, d) => bytes.length + uptoBulk d + 1
  | (_, d) => uptoBulk d + 1
 end
def uptoSmall : (H : Type) → List (DataW H) → Bool := fun _ ds => decide (uptoBulkAll ds ≤ 1048576)
def OpenSpec.upto (s : _root_.Go.ChangeSpec) : _root_.Go.OpenSpec := { _root_.Go.OpenSpec.ofChange s with cond := some uptoSmall }

/-- 'barbicanlaw07.EcdsaParts', WHERE WHAT IT READS IS OF BULK AT MOST 1048576: true; the input reads as it did. -/
def ecdsaPartsUptoRow : OpenClaim := { program := "ytdkkombpkojjaaagreat", sum := "921c708507754886de04e4be9c7acd999cf6cff2b3335ff9b7c0a182ddda7c14", func := "barbican/barbicanlaw07.EcdsaParts", spec := "ecdsaParts", apart := false, narrowed := true }
def EcdsaPartsUptoSaid : Prop := ecdsaPartsUptoRow.holds Tryz.pinned (OpenSpec.upto ecdsaPartsSpec)

/-- 'barbicanlaw07.EcdsaVerifies', WHERE WHAT IT READS IS OF BULK AT MOST 1048576: true; the input reads as it did. -/
def ecdsaVerifiesUptoRow : OpenClaim := { program := "ytdkkombpkojjaaagreat", sum := "921c708507754886de04e4be9c7acd999cf6cff2b3335ff9b7c0a182ddda7c14", func := "barbican/barbicanlaw07.EcdsaVerifies", spec := "ecdsaVerifies", apart := false, narrowed := true }
def EcdsaVerifiesUptoSaid : Prop := ecdsaVerifiesUptoRow.holds Tryz.pinned (OpenSpec.upto ecdsaVerifiesSpec)

/-- 'barbicanlaw07.EcdsaBound', WHERE WHAT IT READS IS OF BULK AT MOST 1048576: true; the input reads as it did. -/
def ecdsaBoundUptoRow : OpenClaim := { program := "ytdkkombpkojjaaagreat", sum := "921c708507754886de04e4be9c7acd999cf6cff2b3335ff9b7c0a182ddda7c14", func := "barbican/barbicanlaw07.EcdsaBound", spec := "ecdsaBound", apart := false, narrowed := true }
def EcdsaBoundUptoSaid : Prop := ecdsaBoundUptoRow.holds Tryz.pinned (OpenSpec.upto ecdsaBoundSpec)

end Rows
end Go.Proofs.YtdkkombpkojjaaaGreat
