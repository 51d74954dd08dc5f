/- Regions: loads, calls and builds as values of a region that draws; the text's order told as one that draws. No condition. -/
import Derived.Test.YtelfhpmbnficfaaGr
import Derived.BigCall
import Derived.Great.Walk
namespace Go.Proofs.Ytelfhpmbnficfaa
open Go.RowKit
set_option linter.unusedVariables false
set_option maxRecDepth 100000
set_option linter.unusedSimpArgs false
section
variable {P : Program} {ops : Array Oper} {S : World → Prop}
theorem run_call_in {f : FuncId} {fn : Func} (hf : P.funcs[f]? = some fn) (hname : (fn.name == "runtime.NumGoroutine") = false) (hb : fn.body.isSome = true) (args : Array Value) (w : World) :
    (callFunc f args).run P w = .ok (.enter f args) w := by
  obtain ⟨c, hc⟩ := Option.isSome_iff_exists.1 hb
  unfold callFunc
  simp [hf, hc]
  intro h
  simp [h] at hname
/-- a call whose contract only makes memory -/
theorem callG {o : Oper} {v : Value} {a : Act} (hw : Region.wanted o (yielded ops a.tmps) = true) {f : FuncId} {fn : Func} {xs : Array Operand} {ats : Array TypeId} (ho : o.op = .call { callee := .value (.func f), args := xs, argTypes := ats })
    (hf : P.funcs[f]? = some fn) (hname : (fn.name == "runtime.NumGoroutine") = false) (hb : fn.body.isSome = true) (args : Array Value) (ha : #[] ++ xs.map a.eval ++ #[] = args)
    (hc : ∀ w, S w → Calls P f args w (fun e w' => e = .returned v ∧ Below w.heap.size w w')) : YieldsG P ops S o v a :=
  .inl ⟨hw, fun w hS => .inr ⟨f, args, by
    obtain ⟨dst, op, type, pos, after, guard⟩ := o
    subst ho
    rw [execOp_call_go, ha]
    exact run_call_in hf hname hb args w, hc w hS⟩⟩
theorem loadG {op : Oper} {a : Act} (hw : Region.wanted op (yielded ops a.tmps) = true) (ty : TypeId) (x : Operand) (ho : op.op = .load ty x)
    (b o : Nat) (hx : a.eval x = .pointer (some ⟨b, o, none⟩)) (cs : List Value) (d : TypeDesc) (hS : ∀ w, S w → w.rangeAt b o cs)
    (hu : P.underlying ty = some d) (hd : d.isRow = true) (hi : (P.info? ty).map (·.size) = some cs.length) : YieldsG P ops S op (.agg cs.toArray) a :=
  YieldsIf.toG (yieldsIf_load_mid hw ty x ho b o hx cs d hS hu hd hi)
theorem pureG {o : Oper} {v : Value} {a : Act} (hw : Region.wanted o (yielded ops a.tmps) = true) (hrun : ∀ w, (execOp a.eval o).run P w = .ok (.value v) w) : YieldsG P ops S o v a :=
  .inl ⟨hw, fun w _ => .inl (hrun w)⟩
theorem skipG {o : Oper} {a : Act} (hw : Region.wanted o (yielded ops a.tmps) = false) : YieldsG P ops S o undef a := .inr ⟨hw, rfl⟩
theorem buildG {o : Oper} {a : Act} (hw : Region.wanted o (yielded ops a.tmps) = true) (t : TypeId) (parts : Array (Nat × Operand)) (ho : o.op = .build t parts)
    (cells : Array Value) {L : List (Nat × Value)} (hc : P.built t L = some cells) (hL : (parts.map fun (i, x) => (i, a.eval x)).toList = L) : YieldsG P ops S o (.agg cells) a :=
  pureG hw (fun w => by
    unfold execOp
    simp only [ho]
    have := run_build (P := P) w t (parts.map fun (i, x) => (i, a.eval x)) cells (by rw [hL]; exact hc)
    simp [this])
end
theorem allocG {P : Program} {ops : Array Oper} {o : Oper} {t : TypeId} {a : Act} (hw : Region.wanted o (yielded ops a.tmps) = true) (ho : o.op = .alloc t) (zs : List Value)
    (h : ∀ w, (Instr.alloc t true (.tuple #[])).run P w = .ok (.pointer (some ⟨w.heap.size, 0, none⟩)) (w.alloc (.cells zs.toArray t))) : AllocsG P ops o t zs a :=
  ⟨hw, fun w => by
    unfold execOp
    simp only [ho]
    simp [h w]⟩
/-- the parts of a block -/
theorem blk_part {w : World} {g : Nat} {t : TypeId} {a b c : List Value} {k : Nat} (h : Blk w g t (a ++ (b ++ c))) (hk : a.length = k) : w.rangeAt g k b := by
  intro j v hv
  have hj := (List.getElem?_eq_some_iff.1 hv).1
  rw [h.cell, List.getElem?_append_right (by omega), show k + j - a.length = j by omega, List.getElem?_append_left hj]
  exact hv
theorem blk_all {w : World} {g : Nat} {t : TypeId} {cs : List Value} (h : Blk w g t cs) : w.rangeAt g 0 cs := by
  intro j v hv; rw [h.cell, Nat.zero_add]; exact hv
theorem lenEq {a b : List Value} {n : Nat} (h : a.length = n) (k : b.length = n) : a.length = b.length := h.trans k.symm
section
variable {w : World} {ops : Array Oper} {rest : List Oper} {o : Oper} {a : Act} {Q : Exit → Act → World → Prop}
/-- a whole variable is stored, in the text's order -/
theorem stB (hgd : o.guard = none) (ty : TypeId) (x y : Operand) (ho : o.op = .store ty x y) (g : Nat) (hx : a.eval x = .pointer (some ⟨g, 0, none⟩)) (cs : List Value) (hy : a.eval y = .agg cs.toArray) (t : TypeId) (old : List Value) (hg : Blk w g t old)
    (hi : (Try.prog.info? ty).map (·.size) = some cs.length) (hl : old.length = cs.length) (h1 : ∀ v ∈ cs, v.oneCell' = true)
    (h : wpList Try.prog ops Q rest (a.put o.dst undef) (w.setRow g cs.toArray)) : wpList Try.prog ops Q (o :: rest) a w :=
  Go.Proofs.Ytelfhpmbnficfaa.wpList_store_row hgd ty x y ho g cs.toArray hx hy t old.toArray hg (by simpa using hi) (by simpa using hl) (Array.all_eq_true_iff_forall_mem.2 (fun v hv => h1 v (by simpa using hv))) h
end
theorem newfacts {W N : World} {t : TypeId} {zs cs : List Value} (h : (W.alloc (.cells zs.toArray t)).setRow W.heap.size cs.toArray = N) : Gr W N ∧ Blk N W.heap.size t cs := by
  subst h
  exact ⟨below_setRow' (Gr.alloc _ _) (Nat.le_refl _) _, (Blk.new W t zs).setRow cs⟩
theorem belStore {w0 w W : World} {g : Nat} (h : Below w0.heap.size w0 w) (k : w.grownBy W (some g)) (hg : w0.heap.size ≤ g) : Below w0.heap.size w0 W :=
  ⟨k.os.trans h.os, k.tape.trans h.tape, k.output.trans h.output, Nat.le_trans h.size k.size, fun i hi => (k.block i (Nat.lt_of_lt_of_le hi h.size) (fun e => by injection e with e; omega)).trans (h.block i hi)⟩
section
variable {w : World} {ops : Array Oper} {rest : List Oper} {o : Oper} {a : Act} {Q : Exit → Act → World → Prop}
theorem wpList_yield (hw : Region.wanted o (yielded ops a.tmps) = true) {v : Value} (hrun : (execOp a.eval o).run Try.prog w = .ok (.value v) w) (h : wpList Try.prog ops Q rest (a.put o.dst v) w) : wpList Try.prog ops Q (o :: rest) a w :=
  wpList_want hw fun K hK => by unfold Oper.wp; rw [hrun]; exact hK _ _ h
/-- a guarded load of a part, where the guard lets it; the guard is asked last -/
theorem ldwM (ty : TypeId) (x : Operand) (ho : o.op = .load ty x) (b off : Nat) (hx : a.eval x = .pointer (some ⟨b, off, none⟩)) (cs : List Value) (d : TypeDesc) (hr : w.rangeAt b off cs) (hu : Try.prog.underlying ty = some d) (hd : d.isRow = true) (hi : (Try.prog.info? ty).map (·.size) = some cs.length)
    (j : Nat) (sg : Bool) (hgd : o.guard = some (j, sg)) (dt : Tmp) (hdt : (ops[j]?).bind (·.dst) = some dt) (hv : a.tmps[dt]? = some (.bool sg))
    (h : wpList Try.prog ops Q rest (a.put o.dst (.agg cs.toArray)) w) : wpList Try.prog ops Q (o :: rest) a w := by
  have hw : Region.wanted o (yielded ops a.tmps) = true := by simp [Region.wanted, hgd, yielded, hdt, hv]
  refine wpList_yield hw ?_ h
  unfold execOp
  simp only [ho, hx, Instr.loadAt, Instr.sureAddr, Sem.run_bind, Sem.run_pure, Result.andThen_ok, run_loadVar_mid w b off ty cs d hr hu hd hi]
end
theorem setfacts {W N : World} {g : Nat} {t : TypeId} {old cs : List Value} (h : W.setRow g cs.toArray = N) (hb : Blk W g t old) : W.grownBy N (some g) ∧ Blk N g t cs := by
  subst h
  exact ⟨grown_setRow _ _ _, hb.setRow cs⟩
theorem range_gr {w w' : World} {g off : Nat} {vs : List Value} (h : w.rangeAt g off vs) (hb : Below w.heap.size w w') : w'.rangeAt g off vs := by
  intro j v hv
  have h1 := h j v hv
  exact (hb.cell (World.block_lt_of_cell? w _ h1)).trans h1
section
variable {w : World} {ops : Array Oper} {rest : List Oper} {o : Oper} {a : Act} {Q : Exit → Act → World → Prop}
end
theorem two_r {w : World} {g k : Nat} {t : TypeId} {x y : List Value} (h : Blk w g t (x ++ y)) (hk : x.length = k) : w.rangeAt g 0 x ∧ w.rangeAt g k y :=
  ⟨blk_part (a := []) (b := x) (c := y) h rfl, blk_part (a := x) (b := y) (c := []) (by rw [List.append_nil]; exact h) hk⟩
theorem Blk.newAt {W : World} {g : Nat} (t : TypeId) (cs : List Value) (h : W.heap.size = g) : Blk (W.alloc (.cells cs.toArray t)) g t cs := h ▸ Blk.new W t cs
section
variable {P : Program} {ops : Array Oper} {Q : Exit → Act → World → Prop} {md : Region.Mode} {S : World → Prop}
/-- the first k have come up -/
def lstK (n k : Nat) : Array Bool := (List.range k).foldl (fun l i => l.setIfInBounds i true) (Array.replicate n false)
theorem lstK_succ (n k : Nat) : lstK n (k + 1) = (lstK n k).setIfInBounds k true := by unfold lstK; rw [List.range_succ, List.foldl_append]; rfl
/-- the text's order is one of those that may be picked -/
def orderOk (md : Region.Mode) (ops : Array Oper) : Bool := (List.range ops.size).all fun k => (Region.ready md ops (lstK ops.size k)).contains k
theorem wpOps_of_any (n : Nat) : ∀ (m k : Nat) (a : Act) (w : World), (∀ j, k ≤ j → j < k + m → j ∈ Region.ready md ops (lstK n j)) → wpAny P md ops Q m (lstK n k) a w → wpOps P ops Q (List.range' k m) a w
  | 0, k, a, w, _, h => h.2
  | m + 1, k, a, w, hr, h => by
    rw [List.range'_succ, wpOps_cons]
    refine wpOp_mono (fun a' w' h' => wpOps_of_any n m (k + 1) a' w' (fun j h1 h2 => hr j (by omega) (by omega)) (by rw [lstK_succ]; exact h')) (h.2 k (hr k (Nat.le_refl _) (by omega)))
/-- a region in the text's order, told as one that draws -/
theorem wp_region_P {id : Nat} {a : Act} {w : World} (S : World → Prop) (L : Nat) (hm : orderOk .any ops = true) (hS : S w)
    (h : wpAnyG P .any ops Q S L ops.size (Array.replicate ops.size false) a w) : (Code.region id ops false).wp P Q a w := by
  refine wp_region ?_
  rw [List.range_eq_range']
  refine wpOps_of_any (md := .any) ops.size ops.size 0 a w (fun j _ hj => ?_) (wpAny_of_G _ _ _ _ (.inr hS) h)
  have := List.all_eq_true.1 hm j (List.mem_range.2 (by omega))
  simpa using this
end
set_option linter.unusedVariables false
set_option maxRecDepth 100000
section
variable {P : Program} {ops : Array Oper} {Q : Exit → Act → World → Prop} {md : Region.Mode} {S : World → Prop}
theorem worldG {o : Oper} {v : Value} {a : Act} (hw : Region.wanted o (yielded ops a.tmps) = true) (hrun : ∀ w, S w → (execOp a.eval o).run P w = .ok (.value v) w) : YieldsG P ops S o v a :=
  .inl ⟨hw, fun w h => .inl (hrun w h)⟩
end
theorem gr_bel {w0 w w' : World} (h : Below w0.heap.size w0 w) (hb : Gr w w') : Below w0.heap.size w0 w' := h.trans (Below.mono hb h.size)
end Go.Proofs.Ytelfhpmbnficfaa
