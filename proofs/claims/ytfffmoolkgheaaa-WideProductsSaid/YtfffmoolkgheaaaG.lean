/- A guarded load of a whole array. No condition. -/
import Derived.Test.YtfffmoolkgheaaaA
namespace Go.Proofs.Ytfffmoolkgheaaa
open Go.RowKit
/-- a guarded load of an array, where the guard lets it; the guard is asked last -/
theorem ldw {w : World} {ops : Array Oper} {rest : List Oper} {o : Oper} {a : Act} {Q : Exit → Act → World → Prop} (t : TypeId) (x : Operand) (ho : o.op = .load t x) (g : Nat) (hx : a.eval x = .pointer (some ⟨g, 0, none⟩)) (k : IntKind) (l : List Nat) (hg : Blk w g t (natsV k l))
    (n : Nat) (e : TypeId) (hu : Try.prog.underlying t = some (.array n e)) (hi : (Try.prog.info? t).map (·.size) = some l.length) (j : Nat) (hgd : o.guard = some (j, true)) (d : Tmp) (hd : (ops[j]?).bind (·.dst) = some d) (hv : a.tmps[d]? = some (.bool true))
    (h : wpList Try.prog ops Q rest (a.put o.dst (.agg (natsV k l).toArray)) w) : wpList Try.prog ops Q (o :: rest) a w :=
  wpList_want (by simp [Region.wanted, hgd, yielded, hd, hv]) fun _ hK => wp_load_row t x ho g hx t (natsV k l).toArray (0, 0) _ hg hu rfl (by rw [hi, size_nats]) (hK _ _ h)
/-- the same, where the guard is that an operation answered false -/
theorem ldn {w : World} {ops : Array Oper} {rest : List Oper} {o : Oper} {a : Act} {Q : Exit → Act → World → Prop} (t : TypeId) (x : Operand) (ho : o.op = .load t x) (g : Nat) (hx : a.eval x = .pointer (some ⟨g, 0, none⟩)) (k : IntKind) (l : List Nat) (hg : Blk w g t (natsV k l))
    (n : Nat) (e : TypeId) (hu : Try.prog.underlying t = some (.array n e)) (hi : (Try.prog.info? t).map (·.size) = some l.length) (j : Nat) (hgd : o.guard = some (j, false)) (d : Tmp) (hd : (ops[j]?).bind (·.dst) = some d) (hv : a.tmps[d]? = some (.bool false))
    (h : wpList Try.prog ops Q rest (a.put o.dst (.agg (natsV k l).toArray)) w) : wpList Try.prog ops Q (o :: rest) a w :=
  wpList_want (by simp [Region.wanted, hgd, yielded, hd, hv]) fun _ hK => wp_load_row t x ho g hx t (natsV k l).toArray (0, 0) _ hg hu rfl (by rw [hi, size_nats]) (hK _ _ h)
end Go.Proofs.Ytfffmoolkgheaaa
