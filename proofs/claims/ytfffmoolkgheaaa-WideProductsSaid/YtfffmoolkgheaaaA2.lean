/- Thirty-two bytes in memory: load, store, comparison of the whole array. No condition. -/
import Derived.Test.YtfffmoolkgheaaaA
namespace Go.Proofs.Ytfffmoolkgheaaa
open Go.RowKit
set_option linter.unusedVariables false
theorem info90 : (Try.prog.info? 90).map (·.size) = some 32 := by kernel_rfl
section
variable {w : World} {ops : Array Oper} {rest : List Oper} {o : Oper} {a : Act} {Q : Exit → Act → World → Prop}
theorem ld90 (hgd : o.guard = none) (x : Operand) (ho : o.op = .load 90 x) (g : Nat) (hx : a.eval x = .pointer (some ⟨g, 0, none⟩)) (l : List Nat) (hg : Blk w g 90 (natsV .u8 l)) (hl : l.length = 32)
    (h : wpList Try.prog ops Q rest (a.put o.dst (.agg (natsV .u8 l).toArray)) w) : wpList Try.prog ops Q (o :: rest) a w :=
  wpList_load_row hgd 90 x ho g hx 90 (natsV .u8 l).toArray (0, 0) _ hg Try.underlying90 rfl (by rw [info90, size_nats, hl]) h
theorem st90 (hgd : o.guard = none) (x y : Operand) (ho : o.op = .store 90 x y) (g : Nat) (hx : a.eval x = .pointer (some ⟨g, 0, none⟩)) (l : List Nat) (hy : a.eval y = .agg (natsV .u8 l).toArray) (hl : l.length = 32) (old : List Nat) (hg : Blk w g 90 (natsV .u8 old)) (ho4 : old.length = 32)
    (h : wpList Try.prog ops Q rest (a.put o.dst undef) (w.setRow g (natsV .u8 l).toArray)) : wpList Try.prog ops Q (o :: rest) a w :=
  wpList_store_row hgd 90 x y ho g (natsV .u8 l).toArray hx hy 90 (natsV .u8 old).toArray hg (by rw [info90, size_nats, hl]) (by rw [size_nats, size_nats, hl, ho4]) (all_nats _ _) h
end
theorem eql90 (a b : List Nat) (ha : a.length = 32) (hb : b.length = 32) (w : World) : (binOp .eql 90 (.agg (natsV .u8 a).toArray) (.agg (natsV .u8 b).toArray)).run Try.prog w = .ok (.bool (decide (a = b))) w := by
  cases hq : Try.prog.info? 5 with
  | none => have := info5z; simp [hq] at this
  | some ti =>
    have hs : ti.size = 1 := by have := info5z; simpa [hq] using this
    exact eql_nats w 90 5 .u8 32 ti Try.underlying90 Try.underlying5 hq hs cells5 a b ha hb
end Go.Proofs.Ytfffmoolkgheaaa
