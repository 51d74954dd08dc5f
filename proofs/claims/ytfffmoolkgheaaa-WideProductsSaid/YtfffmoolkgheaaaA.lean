/- Arrays of words in memory: loads, stores, results and comparisons of whole arrays. No condition. -/
import Derived.Test.YtfffmoolkgheaaaW
import Derived.Deep.RegionWith
import Derived.Deep.Cut
import Derived.StillTailTactics
import Derived.ChangeKeysEq
import Derived.Laws.StructEq
import Derived.Deep.RegionHeld3
namespace Go.Proofs.Ytfffmoolkgheaaa
open Go.RowKit
set_option linter.unusedVariables false
theorem info24 : (Try.prog.info? 24).map (·.size) = some 4 := by kernel_rfl
theorem info26 : (Try.prog.info? 26).map (·.size) = some 8 := by kernel_rfl
section
variable {w : World} {ops : Array Oper} {rest : List Oper} {o : Oper} {a : Act} {Q : Exit → Act → World → Prop}
theorem ld24 (hgd : o.guard = none) (x : Operand) (ho : o.op = .load 24 x) (g : Nat) (hx : a.eval x = .pointer (some ⟨g, 0, none⟩)) (l : List Nat) (hg : Blk w g 24 (natsV .u64 l)) (hl : l.length = 4)
    (h : wpList Try.prog ops Q rest (a.put o.dst (.agg (natsV .u64 l).toArray)) w) : wpList Try.prog ops Q (o :: rest) a w :=
  wpList_load_row hgd 24 x ho g hx 24 (natsV .u64 l).toArray (0, 0) _ hg Try.underlying24 rfl (by rw [info24, size_nats, hl]) h
theorem ld26 (hgd : o.guard = none) (x : Operand) (ho : o.op = .load 26 x) (g : Nat) (hx : a.eval x = .pointer (some ⟨g, 0, none⟩)) (l : List Nat) (hg : Blk w g 26 (natsV .u64 l)) (hl : l.length = 8)
    (h : wpList Try.prog ops Q rest (a.put o.dst (.agg (natsV .u64 l).toArray)) w) : wpList Try.prog ops Q (o :: rest) a w :=
  wpList_load_row hgd 26 x ho g hx 26 (natsV .u64 l).toArray (0, 0) _ hg Try.underlying26 rfl (by rw [info26, size_nats, hl]) h
theorem st24 (hgd : o.guard = none) (x y : Operand) (ho : o.op = .store 24 x y) (g : Nat) (hx : a.eval x = .pointer (some ⟨g, 0, none⟩)) (l : List Nat) (hy : a.eval y = .agg (natsV .u64 l).toArray) (hl : l.length = 4) (old : List Nat) (hg : Blk w g 24 (natsV .u64 old)) (ho4 : old.length = 4)
    (h : wpList Try.prog ops Q rest (a.put o.dst undef) (w.setRow g (natsV .u64 l).toArray)) : wpList Try.prog ops Q (o :: rest) a w :=
  wpList_store_row hgd 24 x y ho g (natsV .u64 l).toArray hx hy 24 (natsV .u64 old).toArray hg (by rw [info24, size_nats, hl]) (by rw [size_nats, size_nats, hl, ho4]) (all_nats _ _) h
theorem st26 (hgd : o.guard = none) (x y : Operand) (ho : o.op = .store 26 x y) (g : Nat) (hx : a.eval x = .pointer (some ⟨g, 0, none⟩)) (l : List Nat) (hy : a.eval y = .agg (natsV .u64 l).toArray) (hl : l.length = 8) (old : List Nat) (hg : Blk w g 26 (natsV .u64 old)) (ho4 : old.length = 8)
    (h : wpList Try.prog ops Q rest (a.put o.dst undef) (w.setRow g (natsV .u64 l).toArray)) : wpList Try.prog ops Q (o :: rest) a w :=
  wpList_store_row hgd 26 x y ho g (natsV .u64 l).toArray hx hy 26 (natsV .u64 old).toArray hg (by rw [info26, size_nats, hl]) (by rw [size_nats, size_nats, hl, ho4]) (all_nats _ _) h
end
theorem wpList_want {P : Program} {w : World} {ops : Array Oper} {rest : List Oper} {o : Oper} {a : Act} {Q : Exit → Act → World → Prop} (hw : Region.wanted o (yielded ops a.tmps) = true)
    (h : ∀ K : Act → World → Prop, (∀ a w, wpList P ops Q rest a w → K a w) → o.wp P a w K Q) : wpList P ops Q (o :: rest) a w :=
  wpList_step fun K hK => by rw [if_pos hw]; exact h K hK
/-- a guarded load of an array, where the guard lets it -/
theorem ldg {w : World} {ops : Array Oper} {rest : List Oper} {o : Oper} {a : Act} {Q : Exit → Act → World → Prop} (hw : Region.wanted o (yielded ops a.tmps) = true) (t : TypeId) (x : Operand) (ho : o.op = .load t x) (g : Nat) (hx : a.eval x = .pointer (some ⟨g, 0, none⟩)) (k : IntKind) (l : List Nat) (hg : Blk w g t (natsV k l))
    (n : Nat) (e : TypeId) (hu : Try.prog.underlying t = some (.array n e)) (hi : (Try.prog.info? t).map (·.size) = some l.length)
    (h : wpList Try.prog ops Q rest (a.put o.dst (.agg (natsV k l).toArray)) w) : wpList Try.prog ops Q (o :: rest) a w :=
  wpList_want hw fun _ hK => wp_load_row t x ho g hx t (natsV k l).toArray (0, 0) _ hg hu rfl (by rw [hi, size_nats]) (hK _ _ h)
/-- a number of 256 bits as the program has it -/
def numV (v : Nat) : Value := .agg (natsV .u64 (wds 4 v)).toArray
theorem ret24 {fn : Func} {p : Tmp} (h : fn.results = #[.cell p 24]) (tmps : Array Value) (w : World) (g : Nat) (l : List Nat) (hp : tmps.getD p undef = .pointer (some ⟨g, 0, none⟩)) (hg : Blk w g 24 (natsV .u64 l)) (hl : l.length = 4) :
    (results fn tmps).run Try.prog w = .ok (.agg (natsV .u64 l).toArray) w :=
  results_cell_row h tmps w g 24 _ (0, 0) _ hp hg Try.underlying24 rfl (by rw [info24, size_nats, hl])
theorem results_two {P : Program} {fn : Func} {p q : Tmp} {ty : TypeId} (h : fn.results = #[.cell p ty, .tmp q]) (tmps : Array Value) (w : World) (g : Nat) (t : TypeId) (cs : Array Value) (fr : Nat × Nat) (d : TypeDesc) (v : Value)
    (hp : tmps.getD p undef = .pointer (some ⟨g, 0, none⟩)) (hv : tmps.getD q undef = v) (hg : w.heap[g]? = some (.cells cs t fr))
    (hu : P.underlying ty = some d) (hd : (match d with | .struct _ | .array _ _ => true | _ => false) = true) (hi : (P.info? ty).map (·.size) = some cs.size) :
    (results fn tmps).run P w = .ok (.tuple #[.agg cs, v]) w := by
  have hp' : tmps[p]?.getD undef = .pointer (some ⟨g, 0, none⟩) := by simpa using hp
  have hv' : tmps[q]?.getD undef = v := by simpa using hv
  simp [results, h, hp', hv', asAddr, run_loadVar_row w g t ty cs fr d hg hu hd hi]
theorem ret24x {fn : Func} {p q : Tmp} (h : fn.results = #[.cell p 24, .tmp q]) (tmps : Array Value) (w : World) (g : Nat) (l : List Nat) (v : Value) (hp : tmps.getD p undef = .pointer (some ⟨g, 0, none⟩)) (hv : tmps.getD q undef = v) (hg : Blk w g 24 (natsV .u64 l)) (hl : l.length = 4) :
    (results fn tmps).run Try.prog w = .ok (.tuple #[.agg (natsV .u64 l).toArray, v]) w :=
  results_two h tmps w g 24 _ (0, 0) _ v hp hv hg Try.underlying24 rfl (by rw [info24, size_nats, hl])
theorem Blk.new4 (w : World) (o p q : Obj) (t : TypeId) (cs : List Value) : Blk ((((w.alloc o).alloc p).alloc q).alloc (.cells cs.toArray t)) (w.heap.size + 1 + 1 + 1) t cs := by
  have := Blk.new3 (w.alloc o) p q t cs
  have e : (w.alloc o).heap.size = w.heap.size + 1 := by simp
  rw [e] at this; exact this
theorem Blk.row {w : World} {g g2 : Nat} {t : TypeId} {cs : List Value} (h : Blk w g t cs) (ds : Array Value) (hne : g ≠ g2) : Blk (w.setRow g2 ds) g t cs := h.of (setRow_other w g2 g ds hne)
theorem Below.al {B : Nat} {w0 w : World} (h : Below B w0 w) (hB : B ≤ w.heap.size) (o : Obj) : Below B w0 (w.alloc o) := h.alloc hB o

/-! arrays are compared -/
theorem part_nats {P : Program} (w : World) (e : TypeId) (k : IntKind) (l : List Nat) (i : Nat) (he : P.underlying e = some (.int k)) (hz : (P.info? e).map (·.size) = some 1) (hi : i < l.length) :
    (part e (natsV k l).toArray (i * 1)).run P w = .ok (.int k (l.getD i 0 : Nat)) w := by
  have hg := natsV_get k l i hi
  cases hq : P.info? e with
  | none => simp [hq] at hz
  | some j =>
    have hs : j.size = 1 := by simpa [hq] using hz
    have h2 : (isAgg e).run P w = .ok false w := by unfold isAgg; rw [Sem.run_bind, run_underlying he w]; rfl
    simp [part, Sem.run_bind, h2, hg]
theorem eqItems_nats {P : Program} (w : World) (d : Nat) (e : TypeId) (k : IntKind) (he : P.underlying e = some (.int k)) (hz : (P.info? e).map (·.size) = some 1) (a b : List Nat) : ∀ is : List Nat, (∀ i ∈ is, i < a.length ∧ i < b.length) →
    (Op.eqItems (d + 1) e 1 (natsV k a).toArray (natsV k b).toArray is).run P w = .ok (decide (∀ i ∈ is, a.getD i 0 = b.getD i 0)) w
  | [], _ => by simp [Op.eqItems]
  | i :: is, h => by
    have hi := h i (by simp)
    have ih := eqItems_nats w d e k he hz a b is (fun j hj => h j (by simp [hj]))
    simp only [Op.eqItems, Sem.run_bind, part_nats w e k a i he hz hi.1, part_nats w e k b i he hz hi.2, Result.andThen_ok, run_equalIn_int w d e k k _ _ he]
    by_cases hab : a.getD i 0 = b.getD i 0
    · have hb : (((a.getD i 0 : Nat) : Int) == ((b.getD i 0 : Nat) : Int)) = true := by rw [hab]; simp
      simp only [hb, Bool.not_true, Bool.false_eq_true, if_false, ih]
      congr 1
      rw [decide_eq_decide]
      exact ⟨fun h j hj => (List.mem_cons.1 hj).elim (fun e => e ▸ hab) (h j), fun h j hj => h j (List.mem_cons_of_mem _ hj)⟩
    · have hb : (((a.getD i 0 : Nat) : Int) == ((b.getD i 0 : Nat) : Int)) = false := beq_eq_false_iff_ne.2 (by omega)
      simp only [hb, Bool.not_false, if_true]
      have : decide (∀ j ∈ i :: is, a.getD j 0 = b.getD j 0) = false := by
        rw [decide_eq_false_iff_not]; intro hh; exact hab (hh i (by simp))
      rw [this]; rfl
theorem items_eq (a b : List Nat) (n : Nat) (ha : a.length = n) (hb : b.length = n) : decide (∀ i ∈ List.range n, a.getD i 0 = b.getD i 0) = decide (a = b) := by
  rw [decide_eq_decide]
  constructor
  · intro h
    apply List.ext_getElem (by omega)
    intro i h1 h2
    have := h i (List.mem_range.2 (by omega))
    simpa [List.getD_eq_getElem?_getD, h1, h2] using this
  · intro h i _; rw [h]
theorem eql_nats {P : Program} (w : World) (t e : TypeId) (k : IntKind) (n : Nat) (ti : TypeInfo) (hu : P.underlying t = some (.array n e)) (he : P.underlying e = some (.int k)) (hi : P.info? e = some ti) (hs : ti.size = 1) (hc : P.cellsOf e = 1) (a b : List Nat) (ha : a.length = n) (hb : b.length = n) :
    (binOp .eql t (.agg (natsV k a).toArray) (.agg (natsV k b).toArray)).run P w = .ok (.bool (decide (a = b))) w := by
  rw [run_eql_struct, run_equalIn_array w 9999 _ _ hu hi, hc, eqItems_nats w 9998 e k he (by rw [hi]; simp [hs]) a b (List.range n) (fun i hi => by have := List.mem_range.1 hi; omega), items_eq a b n ha hb]
  rfl
theorem cells23 : Try.prog.cellsOf 22 = 1 := by kernel_rfl
theorem info22 : (Try.prog.info? 22).map (·.size) = some 1 := by kernel_rfl
theorem cells5 : Try.prog.cellsOf 5 = 1 := by kernel_rfl
theorem info5z : (Try.prog.info? 5).map (·.size) = some 1 := by kernel_rfl
theorem eql24 (a b : List Nat) (ha : a.length = 4) (hb : b.length = 4) (w : World) : (binOp .eql 24 (.agg (natsV .u64 a).toArray) (.agg (natsV .u64 b).toArray)).run Try.prog w = .ok (.bool (decide (a = b))) w := by
  cases hq : Try.prog.info? 22 with
  | none => have := info22; simp [hq] at this
  | some ti =>
    have hs : ti.size = 1 := by have := info22; simpa [hq] using this
    exact eql_nats w 24 22 .u64 4 ti Try.underlying24 Try.underlying22 hq hs cells23 a b ha hb
theorem eql26 (a b : List Nat) (ha : a.length = 8) (hb : b.length = 8) (w : World) : (binOp .eql 26 (.agg (natsV .u64 a).toArray) (.agg (natsV .u64 b).toArray)).run Try.prog w = .ok (.bool (decide (a = b))) w := by
  cases hq : Try.prog.info? 22 with
  | none => have := info22; simp [hq] at this
  | some ti =>
    have hs : ti.size = 1 := by have := info22; simpa [hq] using this
    exact eql_nats w 26 22 .u64 8 ti Try.underlying26 Try.underlying22 hq hs cells23 a b ha hb
end Go.Proofs.Ytfffmoolkgheaaa
