/- Regions that draw and end in a store into a map; what is taken out of a map. No condition. -/
import Derived.Test.YtlgpaglkhgomiaaFr
namespace Go.Proofs.Ytlgpaglkhgomiaa
open Go.RowKit
set_option linter.unusedVariables false
set_option maxRecDepth 100000
set_option linter.unusedSimpArgs false
section
variable {P : Program} {ops : Array Oper} {Q : Exit → Act → World → Prop} {md : Region.Mode} {S : World → Prop} {L : Nat}
/-- only one operation may come up -/
theorem wpAnyG_only {i : Nat} {fuel : Nat} {listed : Array Bool} {a : Act} {w : World} (hr : Region.ready md ops listed = [i])
    (h : ∀ W, Gr w W → S W → wpOp P ops Q i (fun a' w' => ((i = L ∧ Region.ready md ops (listed.setIfInBounds i true) = []) ∨ S w') ∧ wpAnyG P md ops Q S L fuel (listed.setIfInBounds i true) a' w') a W) : wpAnyG P md ops Q S L (fuel + 1) listed a w := by
  intro w1 hg
  refine ⟨fun h0 => (by rw [h0] at hr; cases hr), fun hS j hj => ?_⟩
  rw [hr] at hj
  obtain rfl : j = i := by simpa using hj
  exact h w1 hg hS
theorem wpOp_run {i : Nat} {oi : Oper} {v : Value} {a : Act} {W W2 : World} {K : Act → World → Prop} (hi : ops[i]? = some oi) (hw : Region.wanted oi (yielded ops a.tmps) = true) (hrun : (execOp a.eval oi).run P W = .ok (.value v) W2) (h : K (a.put oi.dst v) W2) : wpOp P ops Q i K a W := by
  unfold Go.wpOp
  simp only [hi, hw, if_true]
  refine .inl ?_
  unfold Oper.wp
  rw [hrun]
  exact h
theorem wpOp_skip {i : Nat} {oi : Oper} {a : Act} {W W2 : World} {K : Act → World → Prop} (hi : ops[i]? = some oi) (hw : Region.wanted oi (yielded ops a.tmps) = true) (hrun : (execOp a.eval oi).run P W = .ok .skip W2) (h : K (a.put oi.dst undef) W2) : wpOp P ops Q i K a W := by
  unfold Go.wpOp
  simp only [hi, hw, if_true]
  refine .inl ?_
  unfold Oper.wp
  rw [hrun]
  exact h
end
section
variable {ops : Array Oper} {Q : Exit → Act → World → Prop} {md : Region.Mode} {S : World → Prop} {L : Nat}
/-- the last operation: a block goes into a map -/
theorem wpAnyG_putB {i : Nat} {oi : Oper} {fuel : Nat} {listed : Array Bool} {a : Act} {w : World} (hr : Region.ready md ops listed = [i]) (hr1 : Region.ready md ops (listed.setIfInBounds i true) = []) (hiL : i = L) (hi : ops[i]? = some oi) (hw : Region.wanted oi (yielded ops a.tmps) = true)
    (m x v : Operand) (ho : oi.op = Op.mapUpdate 66 m x v) (b n : Nat) (hs : Int → Bool) (c : Int → List Nat) (k : Int) (l : List Nat) (hm : a.eval m = .map (some b)) (hx : a.eval x = .int .i64 k) (hv : a.eval v = arrV l)
    (hM : ∀ W, S W → MAt W b n hs c) (hn : n < maxLen) (hk : I64 k) (hl : IsB l)
    (h : ∀ W W', S W → Gr w W → W.grownBy W' (some b) → MAt W' b (n + 1) (upB hs k) (upC c k l) → Q .normal (a.put oi.dst undef) W') : wpAnyG Try.prog md ops Q S L (fuel + 1) listed a w := by
  refine wpAnyG_only hr (fun W hW hS => ?_)
  obtain ⟨W2, hrun, hM2, hg2⟩ := (hM W hS).run_put hn hk hl
  refine wpOp_skip hi hw (W2 := W2) ?_ ⟨.inl ⟨hiL, hr1⟩, wpAnyG_done hr1 (fun W3 h3 => h W W3 hS hW (grown_trans hg2 (grown_below h3 _)) (hM2.gr h3)) fuel⟩
  unfold execOp
  simp [ho, hm, hx, hv, hrun, Result.andThen]
end
section
variable {w : World} {ops : Array Oper} {rest : List Oper} {o : Oper} {a : Act} {Q : Exit → Act → World → Prop}
theorem wpList_outB (hg : o.guard = none) (m x : Operand) (hop : o.op = Op.call { callee := Callee.builtin Builtin.delete, args := #[m, x], argTypes := #[66, 3] })
    (b n : Nat) (hs : Int → Bool) (c : Int → List Nat) (hm : a.eval m = .map (some b)) (h : MAt w b n hs c) (k : Int) (hk : I64 k) (hx : a.eval x = .int .i64 k)
    (hK : ∀ w', MAt w' b n (outB hs k) (upC c k zB) → w.grownBy w' (some b) → wpList Try.prog ops Q rest (a.put o.dst (.tuple #[])) w') :
    wpList Try.prog ops Q (o :: rest) a w := by
  refine wpList_plain hg fun K' hK' => ?_
  obtain ⟨w', hrun, r1, r2⟩ := h.run_out hk o.type
  unfold Oper.wp
  simp [execOp, hop, resolve, invoke, builtin, hm, hx, hrun, Result.andThen]
  exact hK' _ _ (hK w' r1 r2)
end
end Go.Proofs.Ytlgpaglkhgomiaa
