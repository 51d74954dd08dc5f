/- Blocks of the call's own that are known whole, numbers as cells. No condition. -/
import Derived.Test.YtelfhpmbnficfaaBytes
import Derived.WalkKit
import Derived.ProofKit
import Derived.Lib.Hide
import Derived.Handy
import Derived.Laws.BitsAllLaws
import Derived.WalkSmall
import Derived.WalkSpells
import Derived.Deep.RegionLaw
import Derived.Deep.QuietTactic
import Derived.BigQuiet
import Derived.Laws.Rows
import Derived.Laws.Tables
import Derived.OneCell
import Derived.Laws.CopyOwn
import Derived.Deep.MidRow
import Derived.Deep.WholeRow
import Derived.Deep.RegionWith
import Derived.Deep.Cut
import Derived.StillTailTactics
import Derived.ChangeKeysEq
import Derived.Laws.StructEq
import Derived.Deep.RegionHeld3
namespace Go.Proofs.Ytelfhpmbnficfaa
open Go.RowKit
set_option linter.unusedVariables false
set_option maxRecDepth 100000

/-- numbers as the cells hold them -/
def natsV (k : IntKind) (l : List Nat) : List Value := l.map fun (x : Nat) => Value.int k (x : Int)
theorem natsV_length (k : IntKind) (l : List Nat) : (natsV k l).length = l.length := by simp [natsV]
theorem natsV_get (k : IntKind) (l : List Nat) (i : Nat) (h : i < l.length) : (natsV k l)[i]? = some (.int k (l.getD i 0 : Nat)) := by
  simp [natsV, List.getD_eq_getElem?_getD, List.getElem?_eq_getElem h]
theorem natsV_set (k : IntKind) (l : List Nat) (i x : Nat) : (natsV k l).set i (.int k (x : Nat)) = natsV k (l.set i x) := by simp [natsV, List.map_set]
theorem natsV_one (k : IntKind) (l : List Nat) : ∀ v ∈ natsV k l, v.oneCell' = true := by
  intro u hu; obtain ⟨y, _, rfl⟩ := List.mem_map.1 hu; rfl

/-- block g is just these cells, and may be written -/
def Blk (w : World) (g : Nat) (t : TypeId) (cs : List Value) : Prop := w.heap[g]? = some (.cells cs.toArray t (0, 0))

theorem Blk.lt {w : World} {g : Nat} {t : TypeId} {cs : List Value} (h : Blk w g t cs) : g < w.heap.size := (Array.getElem?_eq_some_iff.1 h).1
theorem Blk.cell {w : World} {g : Nat} {t : TypeId} {cs : List Value} (h : Blk w g t cs) (i : Nat) : w.cell? ⟨g, i, none⟩ = cs[i]? := by
  have := cell_of_row w g i cs.toArray t (0, 0) h; simpa using this
theorem Blk.free {w : World} {g : Nat} {t : TypeId} {cs : List Value} (h : Blk w g t cs) (i : Nat) : w.frozen? ⟨g, i, none⟩ = false := frozen_of_row w g i cs.toArray t h
theorem Blk.set {w : World} {g : Nat} {t : TypeId} {cs : List Value} (h : Blk w g t cs) (i : Nat) (v : Value) : Blk (w.setCell ⟨g, i, none⟩ v) g t (cs.set i v) := by
  have := heap_setCell_same w g i cs.toArray t v h
  unfold Blk; rw [this]; simp
theorem Blk.setRow {w : World} {g : Nat} {t : TypeId} {cs : List Value} (h : Blk w g t cs) (ds : List Value) : Blk (w.setRow g ds.toArray) g t ds := setRow_heap w g _ _ t _ h
theorem Blk.of {w w' : World} {g : Nat} {t : TypeId} {cs : List Value} (h : Blk w g t cs) (e : w'.heap[g]? = w.heap[g]?) : Blk w' g t cs := e.trans h
theorem Blk.other {w : World} {g : Nat} {t : TypeId} {cs : List Value} (h : Blk w g t cs) (a : Addr) (v : Value) (hne : g ≠ a.block) : Blk (w.setCell a v) g t cs := h.of (heap_setCell_other w a g v hne)
theorem Blk.below {w w' : World} {g B : Nat} {t : TypeId} {cs : List Value} (h : Blk w g t cs) (hb : Below B w w') (hg : g < B) : Blk w' g t cs := h.of (hb.block g hg)
theorem Blk.below' {w w' : World} {g : Nat} {t : TypeId} {cs : List Value} (h : Blk w g t cs) (hb : Below w.heap.size w w') : Blk w' g t cs := h.of (hb.block g h.lt)
theorem Blk.grown {w w' : World} {g : Nat} {r : Option Nat} {t : TypeId} {cs : List Value} (h : Blk w g t cs) (hb : w.grownBy w' r) (hg : some g ≠ r) : Blk w' g t cs := h.of (hb.block g h.lt hg)
theorem Blk.alloc {w : World} {g : Nat} {t : TypeId} {cs : List Value} (h : Blk w g t cs) (o : Obj) : Blk (w.alloc o) g t cs := h.of (Below.heap_alloc w o g h.lt)
theorem Blk.drewN {w : World} {g : Nat} {t : TypeId} {cs : List Value} (h : Blk w g t cs) (n : Nat) : Blk (w.drewN n) g t cs := h
theorem Blk.drew {w : World} {g : Nat} {t : TypeId} {cs : List Value} (h : Blk w g t cs) : Blk w.drew g t cs := h
theorem Blk.new (w : World) (t : TypeId) (cs : List Value) : Blk (w.alloc (.cells cs.toArray t)) w.heap.size t cs := heap_alloc_new w _
theorem Blk.nat {w : World} {g : Nat} {t : TypeId} {k : IntKind} {l : List Nat} (h : Blk w g t (natsV k l)) (i : Nat) (hi : i < l.length) : w.cell? ⟨g, i, none⟩ = some (.int k (l.getD i 0 : Nat)) := by
  rw [h.cell, natsV_get k l i hi]
theorem Blk.natSet {w : World} {g : Nat} {t : TypeId} {k : IntKind} {l : List Nat} (h : Blk w g t (natsV k l)) (i x : Nat) : Blk (w.setCell ⟨g, i, none⟩ (.int k (x : Nat))) g t (natsV k (l.set i x)) := by
  have := h.set i (.int k (x : Nat)); rwa [natsV_set] at this
theorem below_setRow' {B g : Nat} {w0 w : World} (hb : Below B w0 w) (hBg : B ≤ g) (cs : Array Value) : Below B w0 (w.setRow g cs) :=
  hb.trans ⟨rfl, rfl, rfl, by simp, fun k hk => setRow_other w g k cs (by omega)⟩
theorem grown_refl (w : World) (r : Option Nat) : w.grownBy w r := ⟨rfl, rfl, rfl, Nat.le_refl _, fun _ _ _ => rfl⟩
theorem grown_trans {a b c : World} {r : Option Nat} (h : a.grownBy b r) (k : b.grownBy c r) : a.grownBy c r :=
  ⟨k.os.trans h.os, k.tape.trans h.tape, k.output.trans h.output, Nat.le_trans h.size k.size, fun i hi hr => (k.block i (Nat.lt_of_lt_of_le hi h.size) hr).trans (h.block i hi hr)⟩
theorem grown_below {w w' : World} (h : Below w.heap.size w w') (r : Option Nat) : w.grownBy w' r := ⟨h.os, h.tape, h.output, h.size, fun k hk _ => h.block k hk⟩
theorem grown_setCell (w : World) (a : Addr) (v : Value) : w.grownBy (w.setCell a v) (some a.block) :=
  ⟨rfl, rfl, rfl, by simp [World.setCell], fun k hk hr => heap_setCell_other w a k v (fun e => hr (by rw [e]))⟩
theorem grown_setRow (w : World) (g : Nat) (cs : Array Value) : w.grownBy (w.setRow g cs) (some g) :=
  ⟨rfl, rfl, rfl, by simp, fun k hk hr => setRow_other w g k cs (fun e => hr (by rw [e]))⟩
theorem grown_drewN {w w' : World} {r : Option Nat} (h : w.grownBy w' r) (n : Nat) : w.grownBy (w'.drewN n) r := ⟨h.os, h.tape, h.output, h.size, h.block⟩
theorem grown_new {w w' : World} {r : Option Nat} {g : Nat} (h : w.grownBy w' (some g)) (hg : w.heap.size ≤ g) : Below w.heap.size w w' :=
  ⟨h.os, h.tape, h.output, h.size, fun k hk => h.block k hk (fun e => by injection e with e; omega)⟩

theorem wpList_store_row {P : Program} {ops : Array Oper} {rest : List Oper} {o : Oper} {a : Act} {w : World} {Q : Exit → Act → World → Prop} (hgd : o.guard = none) (ty : TypeId) (x y : Operand) (ho : o.op = .store ty x y)
    (g : Nat) (cells : Array Value) (hx : a.eval x = .pointer (some ⟨g, 0, none⟩)) (hy : a.eval y = .agg cells)
    (t : TypeId) (old : Array Value) (hg : w.heap[g]? = some (.cells old t (0, 0))) (hi : (P.info? ty).map (·.size) = some cells.size)
    (hold : old.size = cells.size) (h1 : cells.all (·.oneCell') = true)
    (h : wpList P ops Q rest (a.put o.dst undef) (w.setRow g cells)) : wpList P ops Q (o :: rest) a w :=
  wpList_plain hgd fun _ hK => wp_store_row ty x y ho g cells hx hy t old hg hi hold h1 (hK _ _ h)
theorem all_nats (k : IntKind) (l : List Nat) : (natsV k l).toArray.all (·.oneCell') = true := Array.all_eq_true_iff_forall_mem.2 (fun v hv => natsV_one k l v (by simpa using hv))
theorem size_nats (k : IntKind) (l : List Nat) : (natsV k l).toArray.size = l.length := by simp [natsV]
theorem wpList_build_is {P : Program} {ops : Array Oper} {rest : List Oper} {o : Oper} {a : Act} {w : World} {Q : Exit → Act → World → Prop} (hg : o.guard = none) (t : TypeId) (parts : Array (Nat × Operand)) (ho : o.op = .build t parts)
    (cells : Array Value) (hc : P.built t (parts.map fun (i, x) => (i, a.eval x)).toList = some cells)
    (h : wpList P ops Q rest (a.put o.dst (.agg cells)) w) : wpList P ops Q (o :: rest) a w :=
  wpList_build hg t parts ho (by rw [hc]; rfl) (by rw [hc]; exact h)
/-- an array by value, at a place -/
theorem index_nats {P : Program} (w : World) (t e : TypeId) (n : Nat) (k : IntKind) (l : List Nat) (i : Nat) (hu : P.underlying t = some (.array n e)) (he : P.underlying e = some (.int k))
    (hz : (P.info? e).map (·.size) = some 1) (hi : i < n) (hl : l.length = n) : (Instr.index t (.agg (natsV k l).toArray) (.int .i64 (i : Nat))).run P w = .ok (.int k (l.getD i 0 : Nat)) w := by
  have hg := natsV_get k l i (by omega)
  cases hq : P.info? e with
  | none => simp [hq] at hz
  | some j =>
    have hs : j.size = 1 := by simpa [hq] using hz
    have hb : 0 ≤ (i : Int) ∧ (i : Int) < (n : Int) := by omega
    have h1 : (sizeOf e).run P w = .ok 1 w := by simp [sizeOf, typeInfo, hq, hs]
    have h2 : (isAgg e).run P w = .ok false w := by unfold isAgg; rw [Sem.run_bind, run_underlying he w]; rfl
    simp [Instr.index, run_underlying hu, asIntOf, hi, Sem.run_bind, part, h1, h2, hg]
theorem Blk.new2 (w : World) (o : Obj) (t : TypeId) (cs : List Value) : Blk ((w.alloc o).alloc (.cells cs.toArray t)) (w.heap.size + 1) t cs := heap_alloc2_new w o _
theorem Blk.new3 (w : World) (o p : Obj) (t : TypeId) (cs : List Value) : Blk (((w.alloc o).alloc p).alloc (.cells cs.toArray t)) (w.heap.size + 1 + 1) t cs := by
  have := heap_alloc2_new (w.alloc o) p (.cells cs.toArray t)
  have e : (w.alloc o).heap.size = w.heap.size + 1 := by simp
  rw [e] at this; exact this
def zeros (n : Nat) : List Nat := List.replicate n 0
theorem fill_set (m : List Nat) (N t x : Nat) (hm : m.length = t) (ht : t < N) : (m ++ zeros (N - t)).set t x = (m ++ [x]) ++ zeros (N - (t + 1)) := by
  subst hm
  rw [List.set_append_right (h := Nat.le_refl _), Nat.sub_self, List.append_assoc]
  congr 1
  obtain ⟨k, hk⟩ : ∃ k, N - m.length = k + 1 := ⟨N - m.length - 1, by omega⟩
  have : N - (m.length + 1) = k := by omega
  rw [hk, this]
  rfl
/-- a list told by its members -/
def tell (f : Nat → Nat) (t : Nat) : List Nat := (List.range t).map f
theorem tell_succ (f : Nat → Nat) (t : Nat) : tell f (t + 1) = tell f t ++ [f t] := by simp [tell, List.range_succ]
theorem tell_length (f : Nat → Nat) (t : Nat) : (tell f t).length = t := by simp [tell]
theorem fill_tell (f : Nat → Nat) (N t : Nat) (ht : t < N) : (tell f t ++ zeros (N - t)).set t (f t) = tell f (t + 1) ++ zeros (N - (t + 1)) := by
  rw [fill_set _ N t _ (tell_length f t) ht, tell_succ]
theorem tell_lt (f : Nat → Nat) (m : Nat) (h : ∀ i, f i < m) (t : Nat) : ∀ x ∈ tell f t, x < m := by
  intro x hx; obtain ⟨i, _, rfl⟩ := List.mem_map.1 hx; exact h i
def setL (cs : List Value) (o : Nat) : List Value → List Value
  | [] => cs
  | v :: r => setL (cs.set o v) (o + 1) r
theorem setCells_blk (g : Nat) (t : TypeId) : ∀ (vs : List Value) (o : Nat) (w : World) (cs : List Value), Blk w g t cs → Blk (w.setCells g o vs) g t (setL cs o vs)
  | [], _, _, _, h => h
  | v :: r, o, w, cs, h => setCells_blk g t r (o + 1) _ _ (h.set o v)
theorem setL_mid : ∀ (new old a c : List Value), old.length = new.length → setL (a ++ (old ++ c)) a.length new = a ++ (new ++ c)
  | [], old, a, c, h => by
    have : old = [] := List.eq_nil_of_length_eq_zero h
    subst this; rfl
  | v :: r, old, a, c, h => by
    match old, h with
    | o :: os, h =>
      have ih := setL_mid r os (a ++ [v]) c (by simpa using h)
      have e : (a ++ (o :: os ++ c)).set a.length v = (a ++ [v]) ++ (os ++ c) := by
        rw [List.set_append_right (h := Nat.le_refl _)]; simp
      show setL ((a ++ (o :: os ++ c)).set a.length v) (a.length + 1) r = _
      rw [e]
      simpa using ih
theorem grown_setCells (g : Nat) : ∀ (vs : List Value) (o : Nat) (w : World), w.grownBy (w.setCells g o vs) (some g)
  | [], _, w => grown_refl w _
  | v :: r, o, w => grown_trans (grown_setCell w ⟨g, o, none⟩ v) (grown_setCells g r (o + 1) _)
theorem wpList_copy_blk {P : Program} {w : World} {ops : Array Oper} {rest : List Oper} {o : Oper} {a : Act} {Q : Exit → Act → World → Prop} (hgd : o.guard = none) (d s : Operand) (dT sT : TypeId)
    (ho : o.op = .call { callee := .builtin .copy, args := #[d, s], argTypes := #[dT, sT] }) (elem : TypeId) (hu : P.underlying dT = some (.slice elem)) (hsz : (P.info? elem).map (·.size) = some 1)
    (dp sp : Option Addr) (dLen dCap sLen sCap : Nat) (hd : a.eval d = .slice dp dLen dCap) (hs : a.eval s = .slice sp sLen sCap)
    (g off : Nat) (cur : List Value) (t : TypeId) (hg : Blk w g t cur) (cs : List Value) (hn : cs.length = Nat.min sLen dLen)
    (hpos : 0 < cs.length → dp = some ⟨g, off, none⟩ ∧ ∃ ad, sp = some ad ∧ ∀ j v, cs[j]? = some v → w.cell? (ad.add j) = some v)
    (hfit : off + cs.length ≤ cur.length) (h1 : ∀ v ∈ cs, v.oneCell' = true)
    (h : ∀ w', Blk w' g t (splice cur off cs) → w.grownBy w' (some g) → wpList P ops Q rest (a.put o.dst (goInt cs.length)) w') :
    wpList P ops Q (o :: rest) a w := by
  by_cases h0 : cs.length = 0
  · obtain rfl : cs = [] := List.eq_nil_of_length_eq_zero h0
    refine wpList_copy_nothing hgd d s dT sT ho elem hu hsz dp sp dLen dCap sLen sCap hd hs (by simpa using hn.symm) ?_
    exact h w (by simpa [splice] using hg) (grown_refl w _)
  · obtain ⟨rfl, ad, rfl, hsrc⟩ := hpos (by omega)
    refine wpList_copy_own hgd d s dT sT ho elem hu hsz g off dLen dCap ad sLen sCap hd hs cur.toArray t hg cs hn hsrc (by simpa using hfit) h1 ?_
    exact h _ (by have := setRow_heap w g _ (cur.toArray.toList.take off ++ (cs ++ cur.toArray.toList.drop (off + cs.length))).toArray t _ hg; unfold Blk; simpa [splice] using this) (grown_setRow w g _)
theorem natsV_append (k : IntKind) (a b : List Nat) : natsV k (a ++ b) = natsV k a ++ natsV k b := by simp [natsV]
theorem natsV_take (k : IntKind) (a : List Nat) (i : Nat) : (natsV k a).take i = natsV k (a.take i) := by simp [natsV, List.map_take]
theorem natsV_drop (k : IntKind) (a : List Nat) (i : Nat) : (natsV k a).drop i = natsV k (a.drop i) := by simp [natsV, List.map_drop]
theorem wpList_want {P : Program} {w : World} {ops : Array Oper} {rest : List Oper} {o : Oper} {a : Act} {Q : Exit → Act → World → Prop} (hw : Region.wanted o (yielded ops a.tmps) = true)
    (h : ∀ K : Act → World → Prop, (∀ a w, wpList P ops Q rest a w → K a w) → o.wp P a w K Q) : wpList P ops Q (o :: rest) a w :=
  wpList_step fun K hK => by rw [if_pos hw]; exact h K hK
theorem results_two {P : Program} {fn : Func} {p q : Tmp} {ty : TypeId} (h : fn.results = #[.cell p ty, .tmp q]) (tmps : Array Value) (w : World) (g : Nat) (t : TypeId) (cs : Array Value) (fr : Nat × Nat) (d : TypeDesc) (v : Value)
    (hp : tmps.getD p undef = .pointer (some ⟨g, 0, none⟩)) (hv : tmps.getD q undef = v) (hg : w.heap[g]? = some (.cells cs t fr))
    (hu : P.underlying ty = some d) (hd : (match d with | .struct _ | .array _ _ => true | _ => false) = true) (hi : (P.info? ty).map (·.size) = some cs.size) :
    (results fn tmps).run P w = .ok (.tuple #[.agg cs, v]) w := by
  have hp' : tmps[p]?.getD undef = .pointer (some ⟨g, 0, none⟩) := by simpa using hp
  have hv' : tmps[q]?.getD undef = v := by simpa using hv
  simp [results, h, hp', hv', asAddr, run_loadVar_row w g t ty cs fr d hg hu hd hi]
theorem Blk.row {w : World} {g g2 : Nat} {t : TypeId} {cs : List Value} (h : Blk w g t cs) (ds : Array Value) (hne : g ≠ g2) : Blk (w.setRow g2 ds) g t cs := h.of (setRow_other w g2 g ds hne)
theorem part_nats {P : Program} (w : World) (e : TypeId) (k : IntKind) (l : List Nat) (i : Nat) (he : P.underlying e = some (.int k)) (hz : (P.info? e).map (·.size) = some 1) (hi : i < l.length) :
    (part e (natsV k l).toArray (i * 1)).run P w = .ok (.int k (l.getD i 0 : Nat)) w := by
  have hg := natsV_get k l i hi
  cases hq : P.info? e with
  | none => simp [hq] at hz
  | some j =>
    have hs : j.size = 1 := by simpa [hq] using hz
    have h2 : (isAgg e).run P w = .ok false w := by unfold isAgg; rw [Sem.run_bind, run_underlying he w]; rfl
    simp [part, Sem.run_bind, h2, hg]
theorem eqItems_nats {P : Program} (w : World) (d : Nat) (e : TypeId) (k : IntKind) (he : P.underlying e = some (.int k)) (hz : (P.info? e).map (·.size) = some 1) (a b : List Nat) : ∀ is : List Nat, (∀ i ∈ is, i < a.length ∧ i < b.length) →
    (Op.eqItems (d + 1) e 1 (natsV k a).toArray (natsV k b).toArray is).run P w = .ok (decide (∀ i ∈ is, a.getD i 0 = b.getD i 0)) w
  | [], _ => by simp [Op.eqItems]
  | i :: is, h => by
    have hi := h i (by simp)
    have ih := eqItems_nats w d e k he hz a b is (fun j hj => h j (by simp [hj]))
    simp only [Op.eqItems, Sem.run_bind, part_nats w e k a i he hz hi.1, part_nats w e k b i he hz hi.2, Result.andThen_ok, run_equalIn_int w d e k k _ _ he]
    by_cases hab : a.getD i 0 = b.getD i 0
    · have hb : (((a.getD i 0 : Nat) : Int) == ((b.getD i 0 : Nat) : Int)) = true := by rw [hab]; simp
      simp only [hb, Bool.not_true, Bool.false_eq_true, if_false, ih]
      congr 1
      rw [decide_eq_decide]
      exact ⟨fun h j hj => (List.mem_cons.1 hj).elim (fun e => e ▸ hab) (h j), fun h j hj => h j (List.mem_cons_of_mem _ hj)⟩
    · have hb : (((a.getD i 0 : Nat) : Int) == ((b.getD i 0 : Nat) : Int)) = false := beq_eq_false_iff_ne.2 (by omega)
      simp only [hb, Bool.not_false, if_true]
      have : decide (∀ j ∈ i :: is, a.getD j 0 = b.getD j 0) = false := by
        rw [decide_eq_false_iff_not]; intro hh; exact hab (hh i (by simp))
      rw [this]; rfl
theorem items_eq (a b : List Nat) (n : Nat) (ha : a.length = n) (hb : b.length = n) : decide (∀ i ∈ List.range n, a.getD i 0 = b.getD i 0) = decide (a = b) := by
  rw [decide_eq_decide]
  constructor
  · intro h
    apply List.ext_getElem (by omega)
    intro i h1 h2
    have := h i (List.mem_range.2 (by omega))
    simpa [List.getD_eq_getElem?_getD, h1, h2] using this
  · intro h i _; rw [h]
theorem eql_nats {P : Program} (w : World) (t e : TypeId) (k : IntKind) (n : Nat) (ti : TypeInfo) (hu : P.underlying t = some (.array n e)) (he : P.underlying e = some (.int k)) (hi : P.info? e = some ti) (hs : ti.size = 1) (hc : P.cellsOf e = 1) (a b : List Nat) (ha : a.length = n) (hb : b.length = n) :
    (binOp .eql t (.agg (natsV k a).toArray) (.agg (natsV k b).toArray)).run P w = .ok (.bool (decide (a = b))) w := by
  rw [run_eql_struct, run_equalIn_array w 9999 _ _ hu hi, hc, eqItems_nats w 9998 e k he (by rw [hi]; simp [hs]) a b (List.range n) (fun i hi => by have := List.mem_range.1 hi; omega), items_eq a b n ha hb]
  rfl
theorem flipC {P : Program} {f : FuncId} {args : Array Value} {w : World} {v : Value} (h : Calls P f args w fun e w' => e = .returned v ∧ w = w') : Calls P f args w fun e w' => e = .returned v ∧ w' = w :=
  h.mono fun _ _ ⟨a, b⟩ => ⟨a, b.symm⟩
theorem quietC {P : Program} {f : FuncId} {args : Array Value} {w : World} {v : Value} (h : Calls P f args w fun e w' => e = .returned v ∧ w = w') : Calls P f args w fun e w' => e = .returned v ∧ Below w.heap.size w w' :=
  h.mono fun _ _ ⟨a, b⟩ => ⟨a, b ▸ Below.refl _ _⟩
end Go.Proofs.Ytelfhpmbnficfaa
