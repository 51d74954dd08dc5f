/- Parts of proofs of statements, each text behind those that it stands on. No condition of its own. -/
import Derived.Great.Walk
import Derived.Test.YtfffmoolkgheaaaZ02
namespace Go.Proofs.Ytfffmoolkgheaaa
open Go.RowKit
set_option linter.unusedVariables false
section
variable {w : World} {ops : Array Oper} {rest : List Oper} {o : Oper} {a : Act} {Q : Exit → Act → World → Prop}
theorem stM (hgd : o.guard = none) (ty : TypeId) (x y : Operand) (ho : o.op = .store ty x y) (g off : Nat) (hx : a.eval x = .pointer (some ⟨g, off, none⟩)) (cs : List Value) (hy : a.eval y = .agg cs.toArray) (t : TypeId) (old new : List Value) (hg : Blk w g t old)
    (hn : setL old off cs = new) (hr : off + cs.length ≤ old.length) (hi : (Try.prog.info? ty).map (·.size) = some cs.length) (h1 : ∀ v ∈ cs, v.oneCell' = true)
    (h : ∀ N, w.grownBy N (some g) → Blk N g t new → wpList Try.prog ops Q rest (a.put o.dst undef) N) : wpList Try.prog ops Q (o :: rest) a w := by
  refine wpList_store_mid hgd ty x y ho g off cs.toArray hx hy ?_ (by simpa using hi) (all_oneCell_toArray h1) (h _ (grown_setCells g _ _ _) ?_)
  · intro j hj
    refine ⟨?_, hg.free _⟩
    rw [hg.cell, List.getElem?_eq_getElem (by simp at hj; omega)]
    rfl
  · rw [← hn]; exact setCells_blk g t _ _ _ _ hg
end
theorem pv_setY {lx ly l : List Nat} {i : Bool} (hx : lx.length = 4) (hy : ly.length = 4) (hl : l.length = 4) : setL (pv lx ly i) 4 (natsV .u64 l) = pv lx l i := by
  unfold pv
  have h := setL_mid (natsV .u64 l) (natsV .u64 ly) (natsV .u64 lx) [.bool i] (by rw [natsV_length, natsV_length, hy, hl])
  rw [natsV_length, hx] at h
  exact h
theorem pv_fitY {lx ly l : List Nat} {i : Bool} (hx : lx.length = 4) (hy : ly.length = 4) (hl : l.length = 4) : 4 + (natsV .u64 l).length ≤ (pv lx ly i).length := by
  rw [pv_len hx hy, natsV_length, hl]; decide
end Go.Proofs.Ytfffmoolkgheaaa
