/- RamPlays: what a list of the law holds off. No condition. -/
import Derived.Test.YtelfhpmbnficfaaSt
import Derived.Test.YtelfhpmbnficfaaLa
import Derived.Test.YtelfhpmbnficfaaDf
namespace Go.Proofs.Ytelfhpmbnficfaa
open Go.RowKit
set_option linter.unusedVariables false
set_option maxRecDepth 100000
set_option linter.unusedSimpArgs false
theorem PAt.held {w1 wk w' : World} {base a g : Nat} {m : List Nat} {t : List Reg} {A : Option Addr} {c : Nat} (h1 : PAt w1 base a m t A c) (h : PAt wk base a m t A c) (hg : wk.grownBy w' (some g)) (hl : w1.heap.size ≤ g) : PAt w' base a m t A c := by
  refine ⟨Blk.grown h.blk hg (fun e => by injection e with e; have := Blk.lt h1.blk; omega), own_grown h.row hg (fun q hq e => ?_)⟩
  obtain ⟨cs, hb, _⟩ := own_is h1.row hq
  injection e with e
  have := Blk.lt hb
  omega
theorem RAt.held {w1 wk w' : World} {base a g : Nat} {m : List Nat} {t : List Reg} {A : Option Addr} {c : Nat} (h1 : RAt w1 base a m t A c) (h : RAt wk base a m t A c) (hg : wk.grownBy w' (some g)) (hl : w1.heap.size ≤ g) : RAt w' base a m t A c := by
  refine ⟨Blk.grown h.blk hg (fun e => by injection e with e; have := Blk.lt h1.blk; omega), own_grown h.row hg (fun q hq e => ?_)⟩
  obtain ⟨cs, hb, _⟩ := own_is h1.row hq
  injection e with e
  have := Blk.lt hb
  omega
theorem below_grown {B g : Nat} {w0 w w' : World} (h : Below B w0 w) (k : w.grownBy w' (some g)) (hg : B ≤ g) (hw : B ≤ w.heap.size) : Below B w0 w' :=
  h.trans ⟨k.os, k.tape, k.output, k.size, fun j hj => k.block j (Nat.lt_of_lt_of_le hj hw) (fun e => by injection e with e; omega)⟩
end Go.Proofs.Ytelfhpmbnficfaa
