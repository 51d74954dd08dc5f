/- Regions that draw: one operation. No condition. -/
import Derived.Test.YtelfhpmbnficfaaFe
import Derived.Test.YtelfhpmbnficfaaG0
namespace Go.Proofs.Ytelfhpmbnficfaa
open Go.RowKit
set_option linter.unusedVariables false
set_option maxRecDepth 100000
set_option linter.unusedSimpArgs false
section
variable {P : Program} {ops : Array Oper} {Q : Exit → Act → World → Prop} {md : Region.Mode} {S : World → Prop} {L : Nat}
/-- only one operation may come up -/
theorem wpAnyG_only {i : Nat} {fuel : Nat} {listed : Array Bool} {a : Act} {w : World} (hr : Region.ready md ops listed = [i])
    (h : ∀ W, Gr w W → S W → wpOp P ops Q i (fun a' w' => ((i = L ∧ Region.ready md ops (listed.setIfInBounds i true) = []) ∨ S w') ∧ wpAnyG P md ops Q S L fuel (listed.setIfInBounds i true) a' w') a W) : wpAnyG P md ops Q S L (fuel + 1) listed a w := by
  intro w1 hg
  refine ⟨fun h0 => (by rw [h0] at hr; cases hr), fun hS j hj => ?_⟩
  rw [hr] at hj
  obtain rfl : j = i := by simpa using hj
  exact h w1 hg hS
theorem wpOp_run {i : Nat} {oi : Oper} {v : Value} {a : Act} {W W2 : World} {K : Act → World → Prop} (hi : ops[i]? = some oi) (hw : Region.wanted oi (yielded ops a.tmps) = true) (hrun : (execOp a.eval oi).run P W = .ok (.value v) W2) (h : K (a.put oi.dst v) W2) : wpOp P ops Q i K a W := by
  unfold Go.wpOp
  simp only [hi, hw, if_true]
  refine .inl ?_
  unfold Oper.wp
  rw [hrun]
  exact h
theorem wpOp_skip {i : Nat} {oi : Oper} {a : Act} {W W2 : World} {K : Act → World → Prop} (hi : ops[i]? = some oi) (hw : Region.wanted oi (yielded ops a.tmps) = true) (hrun : (execOp a.eval oi).run P W = .ok .skip W2) (h : K (a.put oi.dst undef) W2) : wpOp P ops Q i K a W := by
  unfold Go.wpOp
  simp only [hi, hw, if_true]
  refine .inl ?_
  unfold Oper.wp
  rw [hrun]
  exact h
end
end Go.Proofs.Ytelfhpmbnficfaa
