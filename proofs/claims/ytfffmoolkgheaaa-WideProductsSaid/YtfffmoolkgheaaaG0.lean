/- Structs and arrays of words in memory, by their parts; loads, calls and builds as values of a region that draws. No condition. -/
import Derived.Test.YtfffmoolkgheaaaGr
import Derived.Test.YtfffmoolkgheaaaA
import Derived.BigCall
namespace Go.Proofs.Ytfffmoolkgheaaa
open Go.RowKit
set_option linter.unusedVariables false
set_option linter.unusedSimpArgs false
section
variable {P : Program} {ops : Array Oper} {S : World → Prop}
theorem run_call_in {f : FuncId} {fn : Func} (hf : P.funcs[f]? = some fn) (hname : (fn.name == "runtime.NumGoroutine") = false) (hb : fn.body.isSome = true) (args : Array Value) (w : World) :
    (callFunc f args).run P w = .ok (.enter f args) w := by
  obtain ⟨c, hc⟩ := Option.isSome_iff_exists.1 hb
  unfold callFunc
  simp [hf, hc]
  intro h
  simp [h] at hname
/-- a call whose contract only makes memory -/
theorem callG {o : Oper} {v : Value} {a : Act} (hw : Region.wanted o (yielded ops a.tmps) = true) {f : FuncId} {fn : Func} {xs : Array Operand} {ats : Array TypeId} (ho : o.op = .call { callee := .value (.func f), args := xs, argTypes := ats })
    (hf : P.funcs[f]? = some fn) (hname : (fn.name == "runtime.NumGoroutine") = false) (hb : fn.body.isSome = true) (args : Array Value) (ha : #[] ++ xs.map a.eval ++ #[] = args)
    (hc : ∀ w, S w → Calls P f args w (fun e w' => e = .returned v ∧ Below w.heap.size w w')) : YieldsG P ops S o v a :=
  .inl ⟨hw, fun w hS => .inr ⟨f, args, by
    obtain ⟨dst, op, type, pos, after, guard⟩ := o
    subst ho
    rw [execOp_call_go, ha]
    exact run_call_in hf hname hb args w, hc w hS⟩⟩
theorem loadG {op : Oper} {a : Act} (hw : Region.wanted op (yielded ops a.tmps) = true) (ty : TypeId) (x : Operand) (ho : op.op = .load ty x)
    (b o : Nat) (hx : a.eval x = .pointer (some ⟨b, o, none⟩)) (cs : List Value) (d : TypeDesc) (hS : ∀ w, S w → w.rangeAt b o cs)
    (hu : P.underlying ty = some d) (hd : d.isRow = true) (hi : (P.info? ty).map (·.size) = some cs.length) : YieldsG P ops S op (.agg cs.toArray) a :=
  YieldsIf.toG (yieldsIf_load_mid hw ty x ho b o hx cs d hS hu hd hi)
theorem pureG {o : Oper} {v : Value} {a : Act} (hw : Region.wanted o (yielded ops a.tmps) = true) (hrun : ∀ w, (execOp a.eval o).run P w = .ok (.value v) w) : YieldsG P ops S o v a :=
  .inl ⟨hw, fun w _ => .inl (hrun w)⟩
theorem skipG {o : Oper} {a : Act} (hw : Region.wanted o (yielded ops a.tmps) = false) : YieldsG P ops S o undef a := .inr ⟨hw, rfl⟩
theorem buildG {o : Oper} {a : Act} (hw : Region.wanted o (yielded ops a.tmps) = true) (t : TypeId) (parts : Array (Nat × Operand)) (ho : o.op = .build t parts)
    (cells : Array Value) {L : List (Nat × Value)} (hc : P.built t L = some cells) (hL : (parts.map fun (i, x) => (i, a.eval x)).toList = L) : YieldsG P ops S o (.agg cells) a :=
  pureG hw (fun w => by
    unfold execOp
    simp only [ho]
    have := run_build (P := P) w t (parts.map fun (i, x) => (i, a.eval x)) cells (by rw [hL]; exact hc)
    simp [this])
end
theorem allocG {P : Program} {ops : Array Oper} {o : Oper} {t : TypeId} {a : Act} (hw : Region.wanted o (yielded ops a.tmps) = true) (ho : o.op = .alloc t) (zs : List Value)
    (h : ∀ w, (Instr.alloc t true (.tuple #[])).run P w = .ok (.pointer (some ⟨w.heap.size, 0, none⟩)) (w.alloc (.cells zs.toArray t))) : AllocsG P ops o t zs a :=
  ⟨hw, fun w => by
    unfold execOp
    simp only [ho]
    simp [h w]⟩
/-- the parts of a block -/
theorem blk_part {w : World} {g : Nat} {t : TypeId} {a b c : List Value} {k : Nat} (h : Blk w g t (a ++ (b ++ c))) (hk : a.length = k) : w.rangeAt g k b := by
  intro j v hv
  have hj := (List.getElem?_eq_some_iff.1 hv).1
  rw [h.cell, List.getElem?_append_right (by omega), show k + j - a.length = j by omega, List.getElem?_append_left hj]
  exact hv
/-- three numbers side by side -/
def tv (lx ly lz : List Nat) : List Value := natsV .u64 lx ++ (natsV .u64 ly ++ natsV .u64 lz)
theorem tv_len {lx ly lz : List Nat} (hx : lx.length = 4) (hy : ly.length = 4) (hz : lz.length = 4) : (tv lx ly lz).length = 12 := by simp [tv, natsV_length, hx, hy, hz]
theorem tv_one (lx ly lz : List Nat) : ∀ v ∈ tv lx ly lz, v.oneCell' = true := by
  intro v hv
  simp only [tv, List.mem_append] at hv
  rcases hv with h | h | h <;> exact natsV_one _ _ v h
theorem blk_all {w : World} {g : Nat} {t : TypeId} {cs : List Value} (h : Blk w g t cs) : w.rangeAt g 0 cs := by
  intro j v hv; rw [h.cell, Nat.zero_add]; exact hv
theorem tv_x {w : World} {g : Nat} {t : TypeId} {lx ly lz : List Nat} (h : Blk w g t (tv lx ly lz)) : w.rangeAt g 0 (natsV .u64 lx) := blk_part (a := []) (b := natsV .u64 lx) h rfl
theorem tv_y {w : World} {g : Nat} {t : TypeId} {lx ly lz : List Nat} (h : Blk w g t (tv lx ly lz)) (hx : lx.length = 4) : w.rangeAt g 4 (natsV .u64 ly) := blk_part (a := natsV .u64 lx) (b := natsV .u64 ly) h (by rw [natsV_length, hx])
theorem tv_z {w : World} {g : Nat} {t : TypeId} {lx ly lz : List Nat} (h : Blk w g t (tv lx ly lz)) (hx : lx.length = 4) (hy : ly.length = 4) : w.rangeAt g 8 (natsV .u64 lz) := by
  have h2 : Blk w g t ((natsV .u64 lx ++ natsV .u64 ly) ++ (natsV .u64 lz ++ [])) := by rw [List.append_nil, List.append_assoc]; exact h
  exact blk_part h2 (by simp [natsV_length, hx, hy])
/-- two numbers and a bool side by side -/
def pv (lx ly : List Nat) (i : Bool) : List Value := natsV .u64 lx ++ (natsV .u64 ly ++ [.bool i])
theorem pv_len {lx ly : List Nat} {i : Bool} (hx : lx.length = 4) (hy : ly.length = 4) : (pv lx ly i).length = 9 := by simp [pv, natsV_length, hx, hy]
theorem pv_one (lx ly : List Nat) (i : Bool) : ∀ v ∈ pv lx ly i, v.oneCell' = true := by
  intro v hv
  simp only [pv, List.mem_append, List.mem_singleton] at hv
  rcases hv with h | h | rfl
  · exact natsV_one _ _ v h
  · exact natsV_one _ _ v h
  · rfl
theorem pv_x {w : World} {g : Nat} {t : TypeId} {lx ly : List Nat} {i : Bool} (h : Blk w g t (pv lx ly i)) : w.rangeAt g 0 (natsV .u64 lx) := blk_part (a := []) (b := natsV .u64 lx) h rfl
theorem pv_y {w : World} {g : Nat} {t : TypeId} {lx ly : List Nat} {i : Bool} (h : Blk w g t (pv lx ly i)) (hx : lx.length = 4) : w.rangeAt g 4 (natsV .u64 ly) := blk_part (a := natsV .u64 lx) (b := natsV .u64 ly) h (by rw [natsV_length, hx])
theorem pv_i {w : World} {g : Nat} {t : TypeId} {lx ly : List Nat} {i : Bool} (h : Blk w g t (pv lx ly i)) (hx : lx.length = 4) (hy : ly.length = 4) : w.cell? ⟨g, 8, none⟩ = some (.bool i) := by
  rw [h.cell]; unfold pv
  rw [List.getElem?_append_right (by rw [natsV_length, hx]; omega), natsV_length, hx, List.getElem?_append_right (by rw [natsV_length, hy]; omega), natsV_length, hy]
  rfl
theorem info94 : (Try.prog.info? 94).map (·.size) = some 4 := by kernel_rfl
theorem info43 : (Try.prog.info? 43).map (·.size) = some 9 := by kernel_rfl
theorem info103 : (Try.prog.info? 103).map (·.size) = some 12 := by kernel_rfl
theorem info108 : (Try.prog.info? 108).map (·.size) = some 12 := by kernel_rfl
theorem i24 {l : List Nat} (h : l.length = 4) : (Try.prog.info? 24).map (·.size) = some (natsV .u64 l).length := by rw [info24, natsV_length, h]
theorem i94 {l : List Nat} (h : l.length = 4) : (Try.prog.info? 94).map (·.size) = some (natsV .u64 l).length := by rw [info94, natsV_length, h]
theorem i43 {lx ly : List Nat} {i : Bool} (hx : lx.length = 4) (hy : ly.length = 4) : (Try.prog.info? 43).map (·.size) = some (pv lx ly i).length := by rw [info43, pv_len hx hy]
theorem i103 {lx ly lz : List Nat} (hx : lx.length = 4) (hy : ly.length = 4) (hz : lz.length = 4) : (Try.prog.info? 103).map (·.size) = some (tv lx ly lz).length := by rw [info103, tv_len hx hy hz]
theorem i108 {lx ly lz : List Nat} (hx : lx.length = 4) (hy : ly.length = 4) (hz : lz.length = 4) : (Try.prog.info? 108).map (·.size) = some (tv lx ly lz).length := by rw [info108, tv_len hx hy hz]
theorem four_ol {l : List Nat} (h : l.length = 4) : ∃ a b c d, l = [a, b, c, d] := by
  match l, h with
  | [a, b, c, d], _ => exact ⟨a, b, c, d, rfl⟩
theorem built103 {lx ly lz : List Nat} (hx : lx.length = 4) (hy : ly.length = 4) (hz : lz.length = 4) : Try.prog.built 103 [(0, .agg (natsV .u64 lx).toArray), (1, .agg (natsV .u64 ly).toArray), (2, .agg (natsV .u64 lz).toArray)] = some (tv lx ly lz).toArray := by
  obtain ⟨a, b, c, d, rfl⟩ := four_ol hx
  obtain ⟨a2, b2, c2, d2, rfl⟩ := four_ol hy
  obtain ⟨a3, b3, c3, d3, rfl⟩ := four_ol hz
  kernel_rfl
theorem built108 {lx ly lz : List Nat} (hx : lx.length = 4) (hy : ly.length = 4) (hz : lz.length = 4) : Try.prog.built 108 [(0, .agg (natsV .u64 lx).toArray), (1, .agg (natsV .u64 ly).toArray), (2, .agg (natsV .u64 lz).toArray)] = some (tv lx ly lz).toArray := by
  obtain ⟨a, b, c, d, rfl⟩ := four_ol hx
  obtain ⟨a2, b2, c2, d2, rfl⟩ := four_ol hy
  obtain ⟨a3, b3, c3, d3, rfl⟩ := four_ol hz
  kernel_rfl
theorem built43 {lx ly : List Nat} (hx : lx.length = 4) (hy : ly.length = 4) : Try.prog.built 43 [(0, .agg (natsV .u64 lx).toArray), (1, .agg (natsV .u64 ly).toArray)] = some (pv lx ly false).toArray := by
  obtain ⟨a, b, c, d, rfl⟩ := four_ol hx
  obtain ⟨a2, b2, c2, d2, rfl⟩ := four_ol hy
  kernel_rfl
theorem alloc94 (w : World) : (Instr.alloc 94 true (.tuple #[])).run Try.prog w = .ok (.pointer (some ⟨w.heap.size, 0, none⟩)) (w.alloc (.cells (natsV .u64 (zeros 4)).toArray 94)) := by go_simp; rfl
theorem alloc24 (w : World) : (Instr.alloc 24 true (.tuple #[])).run Try.prog w = .ok (.pointer (some ⟨w.heap.size, 0, none⟩)) (w.alloc (.cells (natsV .u64 (zeros 4)).toArray 24)) := by go_simp; rfl
theorem lenEq {a b : List Value} {n : Nat} (h : a.length = n) (k : b.length = n) : a.length = b.length := h.trans k.symm
section
variable {w : World} {ops : Array Oper} {rest : List Oper} {o : Oper} {a : Act} {Q : Exit → Act → World → Prop}
/-- a whole variable is stored, in the text's order -/
theorem stB (hgd : o.guard = none) (ty : TypeId) (x y : Operand) (ho : o.op = .store ty x y) (g : Nat) (hx : a.eval x = .pointer (some ⟨g, 0, none⟩)) (cs : List Value) (hy : a.eval y = .agg cs.toArray) (t : TypeId) (old : List Value) (hg : Blk w g t old)
    (hi : (Try.prog.info? ty).map (·.size) = some cs.length) (hl : old.length = cs.length) (h1 : ∀ v ∈ cs, v.oneCell' = true)
    (h : wpList Try.prog ops Q rest (a.put o.dst undef) (w.setRow g cs.toArray)) : wpList Try.prog ops Q (o :: rest) a w :=
  Go.Proofs.Ytfffmoolkgheaaa.wpList_store_row hgd ty x y ho g cs.toArray hx hy t old.toArray hg (by simpa using hi) (by simpa using hl) (Array.all_eq_true_iff_forall_mem.2 (fun v hv => h1 v (by simpa using hv))) h
end
theorem newfacts {W N : World} {t : TypeId} {zs cs : List Value} (h : (W.alloc (.cells zs.toArray t)).setRow W.heap.size cs.toArray = N) : Gr W N ∧ Blk N W.heap.size t cs := by
  subst h
  exact ⟨below_setRow' (Gr.alloc _ _) (Nat.le_refl _) _, (Blk.new W t zs).setRow cs⟩
theorem belStore {w0 w W : World} {g : Nat} (h : Below w0.heap.size w0 w) (k : w.grownBy W (some g)) (hg : w0.heap.size ≤ g) : Below w0.heap.size w0 W :=
  ⟨k.os.trans h.os, k.tape.trans h.tape, k.output.trans h.output, Nat.le_trans h.size k.size, fun i hi => (k.block i (Nat.lt_of_lt_of_le hi h.size) (fun e => by injection e with e; omega)).trans (h.block i hi)⟩
theorem alloc103 (w : World) : (Instr.alloc 103 true (.tuple #[])).run Try.prog w = .ok (.pointer (some ⟨w.heap.size, 0, none⟩)) (w.alloc (.cells (natsV .u64 (zeros 12)).toArray 103)) := by go_simp; rfl
theorem alloc108 (w : World) : (Instr.alloc 108 true (.tuple #[])).run Try.prog w = .ok (.pointer (some ⟨w.heap.size, 0, none⟩)) (w.alloc (.cells (natsV .u64 (zeros 12)).toArray 108)) := by go_simp; rfl
theorem alloc43 (w : World) : (Instr.alloc 43 true (.tuple #[])).run Try.prog w = .ok (.pointer (some ⟨w.heap.size, 0, none⟩)) (w.alloc (.cells (pv (zeros 4) (zeros 4) false).toArray 43)) := by go_simp; rfl
theorem eql94 (a b : List Nat) (ha : a.length = 4) (hb : b.length = 4) (w : World) : (binOp .eql 94 (.agg (natsV .u64 a).toArray) (.agg (natsV .u64 b).toArray)).run Try.prog w = .ok (.bool (decide (a = b))) w := by
  cases hq : Try.prog.info? 22 with
  | none => have := info22; simp [hq] at this
  | some ti =>
    have hs : ti.size = 1 := by have := info22; simpa [hq] using this
    exact eql_nats w 94 22 .u64 4 ti Try.underlying94 Try.underlying22 hq hs cells23 a b ha hb
theorem eqZ94 (a : List Nat) (ha : a.length = 4) (w : World) : (binOp .eql 94 (.agg (natsV .u64 a).toArray) (.agg #[.int .u64 0, .int .u64 0, .int .u64 0, .int .u64 0])).run Try.prog w = .ok (.bool (decide (a = zeros 4))) w := eql94 a (zeros 4) ha rfl w
theorem eqZ24 (a : List Nat) (ha : a.length = 4) (w : World) : (binOp .eql 24 (.agg (natsV .u64 a).toArray) (.agg #[.int .u64 0, .int .u64 0, .int .u64 0, .int .u64 0])).run Try.prog w = .ok (.bool (decide (a = zeros 4))) w := eql24 a (zeros 4) ha rfl w
theorem eqin24 (d : Nat) (a b : List Nat) (ha : a.length = 4) (hb : b.length = 4) (w : World) : (Op.equalIn (d + 2) 24 (.agg (natsV .u64 a).toArray) (.agg (natsV .u64 b).toArray)).run Try.prog w = .ok (decide (a = b)) w := by
  cases hq : Try.prog.info? 22 with
  | none => have := info22; simp [hq] at this
  | some ti =>
    have hs : ti.size = 1 := by have := info22; simpa [hq] using this
    rw [run_equalIn_array w (d + 1) _ _ Try.underlying24 hq, cells23, eqItems_nats w d 22 .u64 Try.underlying22 (by rw [hq]; simp [hs]) a b (List.range 4) (fun i hi => by have := List.mem_range.1 hi; omega), items_eq a b 4 ha hb]
theorem part24 (cs : Array Value) (off : Nat) (w : World) : (part 24 cs off).run Try.prog w = .ok (.agg (cs.extract off (off + 4))) w := by
  cases hq : Try.prog.info? 24 with
  | none => have := info24; simp [hq] at this
  | some ti =>
    have hs : ti.size = 4 := by have := info24; simpa [hq] using this
    have h1 : (sizeOf 24).run Try.prog w = .ok 4 w := by simp [sizeOf, typeInfo, hq, hs]
    have h2 : (isAgg 24).run Try.prog w = .ok true w := by unfold isAgg; rw [Sem.run_bind, run_underlying Try.underlying24 w]; rfl
    simp [part, Sem.run_bind, h1, h2]
theorem part4 (cs : Array Value) (off : Nat) (v : Value) (h : cs[off]? = some v) (w : World) : (part 4 cs off).run Try.prog w = .ok v w := by
  have h2 : (isAgg 4).run Try.prog w = .ok false w := by unfold isAgg; rw [Sem.run_bind, run_underlying Try.underlying4 w]; rfl
  simp [part, Sem.run_bind, h2, h]
theorem eql43 (a b c d : List Nat) (i j : Bool) (ha : a.length = 4) (hb : b.length = 4) (hc : c.length = 4) (hd : d.length = 4) (w : World) :
    (binOp .eql 43 (.agg (pv a b i).toArray) (.agg (pv c d j).toArray)).run Try.prog w = .ok (.bool (decide (a = c ∧ b = d ∧ i = j))) w := by
  have e1 : (pv a b i).toArray.extract 0 (0 + 4) = (natsV .u64 a).toArray := by obtain ⟨_, _, _, _, rfl⟩ := four_ol ha; obtain ⟨_, _, _, _, rfl⟩ := four_ol hb; rfl
  have e2 : (pv c d j).toArray.extract 0 (0 + 4) = (natsV .u64 c).toArray := by obtain ⟨_, _, _, _, rfl⟩ := four_ol hc; obtain ⟨_, _, _, _, rfl⟩ := four_ol hd; rfl
  have e3 : (pv a b i).toArray.extract 4 (4 + 4) = (natsV .u64 b).toArray := by obtain ⟨_, _, _, _, rfl⟩ := four_ol ha; obtain ⟨_, _, _, _, rfl⟩ := four_ol hb; rfl
  have e4 : (pv c d j).toArray.extract 4 (4 + 4) = (natsV .u64 d).toArray := by obtain ⟨_, _, _, _, rfl⟩ := four_ol hc; obtain ⟨_, _, _, _, rfl⟩ := four_ol hd; rfl
  have e5 : (pv a b i).toArray[8]? = some (.bool i) := by obtain ⟨_, _, _, _, rfl⟩ := four_ol ha; obtain ⟨_, _, _, _, rfl⟩ := four_ol hb; rfl
  have e6 : (pv c d j).toArray[8]? = some (.bool j) := by obtain ⟨_, _, _, _, rfl⟩ := four_ol hc; obtain ⟨_, _, _, _, rfl⟩ := four_ol hd; rfl
  have hf : (Try.prog.fieldsOf 43).toList = [{ name := "X", type := 24, offset := 0, embedded := false, tag := "", pkgPath := "", byteOffset := 0 }, { name := "Y", type := 24, offset := 4, embedded := false, tag := "", pkgPath := "", byteOffset := 32 }, { name := "Inf", type := 4, offset := 8, embedded := false, tag := "", pkgPath := "", byteOffset := 64 }] := by kernel_rfl
  rw [run_eql_struct, run_equalIn_struct w 9999 43 _ _ (by kernel_rfl) (by kernel_rfl), hf]
  generalize pv a b i = X at *
  generalize pv c d j = Y at *
  simp only [Op.eqFields, Sem.run_bind, Sem.run_ite, part24, e1, e2, e3, e4, Result.andThen_ok, eqin24 9997 a c ha hc, eqin24 9997 b d hb hd, part4 _ 8 _ e5, part4 _ 8 _ e6, run_equalIn_bool _ 9998 4 i j Try.underlying4]
  by_cases h1 : a = c <;> by_cases h2 : b = d <;> cases i <;> cases j <;> simp [h1, h2]
section
variable {w : World} {ops : Array Oper} {rest : List Oper} {o : Oper} {a : Act} {Q : Exit → Act → World → Prop}
theorem wpList_yield (hw : Region.wanted o (yielded ops a.tmps) = true) {v : Value} (hrun : (execOp a.eval o).run Try.prog w = .ok (.value v) w) (h : wpList Try.prog ops Q rest (a.put o.dst v) w) : wpList Try.prog ops Q (o :: rest) a w :=
  wpList_want hw fun K hK => by unfold Oper.wp; rw [hrun]; exact hK _ _ h
/-- a guarded load of a part, where the guard lets it; the guard is asked last -/
theorem ldwM (ty : TypeId) (x : Operand) (ho : o.op = .load ty x) (b off : Nat) (hx : a.eval x = .pointer (some ⟨b, off, none⟩)) (cs : List Value) (d : TypeDesc) (hr : w.rangeAt b off cs) (hu : Try.prog.underlying ty = some d) (hd : d.isRow = true) (hi : (Try.prog.info? ty).map (·.size) = some cs.length)
    (j : Nat) (sg : Bool) (hgd : o.guard = some (j, sg)) (dt : Tmp) (hdt : (ops[j]?).bind (·.dst) = some dt) (hv : a.tmps[dt]? = some (.bool sg))
    (h : wpList Try.prog ops Q rest (a.put o.dst (.agg cs.toArray)) w) : wpList Try.prog ops Q (o :: rest) a w := by
  have hw : Region.wanted o (yielded ops a.tmps) = true := by simp [Region.wanted, hgd, yielded, hdt, hv]
  refine wpList_yield hw ?_ h
  unfold execOp
  simp only [ho, hx, Instr.loadAt, Instr.sureAddr, Sem.run_bind, Sem.run_pure, Result.andThen_ok, run_loadVar_mid w b off ty cs d hr hu hd hi]
end
theorem setfacts {W N : World} {g : Nat} {t : TypeId} {old cs : List Value} (h : W.setRow g cs.toArray = N) (hb : Blk W g t old) : W.grownBy N (some g) ∧ Blk N g t cs := by
  subst h
  exact ⟨grown_setRow _ _ _, hb.setRow cs⟩
theorem range_gr {w w' : World} {g off : Nat} {vs : List Value} (h : w.rangeAt g off vs) (hb : Below w.heap.size w w') : w'.rangeAt g off vs := by
  intro j v hv
  have h1 := h j v hv
  exact (hb.cell (World.block_lt_of_cell? w _ h1)).trans h1
end Go.Proofs.Ytfffmoolkgheaaa
