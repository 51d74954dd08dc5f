/- Parts of proofs of statements, each text behind those that it stands on. No condition of its own. -/
import Derived.BigCall
import Derived.Test.YtdkkombpkojjaaaD02
namespace Go.Proofs.Ytdkkombpkojjaaa
set_option maxRecDepth 100000
set_option maxHeartbeats 400000
open Go.RowKit
set_option linter.unusedVariables false
set_option linter.unusedSimpArgs false
section
variable {P : Program} {ops : Array Oper} {S : World → Prop}
theorem run_call_in {f : FuncId} {fn : Func} (hf : P.funcs[f]? = some fn) (hname : (fn.name == "runtime.NumGoroutine") = false) (hb : fn.body.isSome = true) (args : Array Value) (w : World) :
   (callFunc f args).run P w = .ok (.enter f args) w := by
 obtain ⟨c, hc⟩ := Option.isSome_iff_exists.1 hb
 unfold callFunc
 simp [hf, hc]
 intro h
 simp [h] at hname
theorem callG {o : Oper} {v : Value} {a : Act} (hw : Region.wanted o (yielded ops a.tmps) = true) {f : FuncId} {fn : Func} {xs : Array Operand} {ats : Array TypeId} (ho : o.op = .call { callee := .value (.func f), args := xs, argTypes := ats })
   (hf : P.funcs[f]? = some fn) (hname : (fn.name == "runtime.NumGoroutine") = false) (hb : fn.body.isSome = true) (args : Array Value) (ha : #[] ++ xs.map a.eval ++ #[] = args)
   (hc : ∀ w, S w → Calls P f args w (fun e w' => e = .returned v ∧ Below w.heap.size w w')) : YieldsG P ops S o v a :=
 .inl ⟨hw, fun w hS => .inr ⟨f, args, by
   obtain ⟨dst, op, type, pos, after, guard⟩ := o
   subst ho
   rw [execOp_call_go, ha]
   exact run_call_in hf hname hb args w, hc w hS⟩⟩
theorem loadG {op : Oper} {a : Act} (hw : Region.wanted op (yielded ops a.tmps) = true) (ty : TypeId) (x : Operand) (ho : op.op = .load ty x)
   (b o : Nat) (hx : a.eval x = .pointer (some ⟨b, o, none⟩)) (cs : List Value) (d : TypeDesc) (hS : ∀ w, S w → w.rangeAt b o cs)
   (hu : P.underlying ty = some d) (hd : d.isRow = true) (hi : (P.info? ty).map (·.size) = some cs.length) : YieldsG P ops S op (.agg cs.toArray) a :=
 YieldsIf.toG (yieldsIf_load_mid hw ty x ho b o hx cs d hS hu hd hi)
theorem pureG {o : Oper} {v : Value} {a : Act} (hw : Region.wanted o (yielded ops a.tmps) = true) (hrun : ∀ w, (execOp a.eval o).run P w = .ok (.value v) w) : YieldsG P ops S o v a :=
 .inl ⟨hw, fun w _ => .inl (hrun w)⟩
theorem skipG {o : Oper} {a : Act} (hw : Region.wanted o (yielded ops a.tmps) = false) : YieldsG P ops S o undef a := .inr ⟨hw, rfl⟩
theorem buildG {o : Oper} {a : Act} (hw : Region.wanted o (yielded ops a.tmps) = true) (t : TypeId) (parts : Array (Nat × Operand)) (ho : o.op = .build t parts)
   (cells : Array Value) {L : List (Nat × Value)} (hc : P.built t L = some cells) (hL : (parts.map fun (i, x) => (i, a.eval x)).toList = L) : YieldsG P ops S o (.agg cells) a :=
 pureG hw (fun w => by
   unfold execOp
   simp only [ho]
   have := run_build (P := P) w t (parts.map fun (i, x) => (i, a.eval x)) cells (by rw [hL]; exact hc)
   simp [this])
end
theorem allocG {P : Program} {ops : Array Oper} {o : Oper} {t : TypeId} {a : Act} (hw : Region.wanted o (yielded ops a.tmps) = true) (ho : o.op = .alloc t) (zs : List Value)
   (h : ∀ w, (Instr.alloc t true (.tuple #[])).run P w = .ok (.pointer (some ⟨w.heap.size, 0, none⟩)) (w.alloc (.cells zs.toArray t))) : AllocsG P ops o t zs a :=
 ⟨hw, fun w => by
   unfold execOp
   simp only [ho]
   simp [h w]⟩
theorem blk_part {w : World} {g : Nat} {t : TypeId} {a b c : List Value} {k : Nat} (h : Blk w g t (a ++ (b ++ c))) (hk : a.length = k) : w.rangeAt g k b := by
 intro j v hv
 have hj := (List.getElem?_eq_some_iff.1 hv).1
 rw [h.cell, List.getElem?_append_right (by omega), show k + j - a.length = j by omega, List.getElem?_append_left hj]
 exact hv
def tv (lx ly lz : List Nat) : List Value := natsV .u64 lx ++ (natsV .u64 ly ++ natsV .u64 lz)
theorem tv_len {lx ly lz : List Nat} (hx : lx.length = 4) (hy : ly.length = 4) (hz : lz.length = 4) : (tv lx ly lz).length = 12 := by simp [tv, natsV_length, hx, hy, hz]
theorem tv_one (lx ly lz : List Nat) : ∀ v ∈ tv lx ly lz, v.oneCell' = true := by
 intro v hv
 simp only [tv, List.mem_append] at hv
 rcases hv with h | h | h <;> exact natsV_one _ _ v h
theorem blk_all {w : World} {g : Nat} {t : TypeId} {cs : List Value} (h : Blk w g t cs) : w.rangeAt g 0 cs := by
 intro j v hv; rw [h.cell, Nat.zero_add]; exact hv
theorem tv_x {w : World} {g : Nat} {t : TypeId} {lx ly lz : List Nat} (h : Blk w g t (tv lx ly lz)) : w.rangeAt g 0 (natsV .u64 lx) := blk_part (a := []) (b := natsV .u64 lx) h rfl
theorem tv_y {w : World} {g : Nat} {t : TypeId} {lx ly lz : List Nat} (h : Blk w g t (tv lx ly lz)) (hx : lx.length = 4) : w.rangeAt g 4 (natsV .u64 ly) := blk_part (a := natsV .u64 lx) (b := natsV .u64 ly) h (by rw [natsV_length, hx])
theorem tv_z {w : World} {g : Nat} {t : TypeId} {lx ly lz : List Nat} (h : Blk w g t (tv lx ly lz)) (hx : lx.length = 4) (hy : ly.length = 4) : w.rangeAt g 8 (natsV .u64 lz) := by
 have h2 : Blk w g t ((natsV .u64 lx ++ natsV .u64 ly) ++ (natsV .u64 lz ++ [])) := by rw [List.append_nil, List.append_assoc]; exact h
 exact blk_part h2 (by simp [natsV_length, hx, hy])
def pv (lx ly : List Nat) (i : Bool) : List Value := natsV .u64 lx ++ (natsV .u64 ly ++ [.bool i])
theorem pv_len {lx ly : List Nat} {i : Bool} (hx : lx.length = 4) (hy : ly.length = 4) : (pv lx ly i).length = 9 := by simp [pv, natsV_length, hx, hy]
theorem pv_one (lx ly : List Nat) (i : Bool) : ∀ v ∈ pv lx ly i, v.oneCell' = true := by
 intro v hv
 simp only [pv, List.mem_append, List.mem_singleton] at hv
 rcases hv with h | h | rfl
 · exact natsV_one _ _ v h
 · exact natsV_one _ _ v h
 · rfl
theorem pv_x {w : World} {g : Nat} {t : TypeId} {lx ly : List Nat} {i : Bool} (h : Blk w g t (pv lx ly i)) : w.rangeAt g 0 (natsV .u64 lx) := blk_part (a := []) (b := natsV .u64 lx) h rfl
theorem pv_y {w : World} {g : Nat} {t : TypeId} {lx ly : List Nat} {i : Bool} (h : Blk w g t (pv lx ly i)) (hx : lx.length = 4) : w.rangeAt g 4 (natsV .u64 ly) := blk_part (a := natsV .u64 lx) (b := natsV .u64 ly) h (by rw [natsV_length, hx])
theorem pv_i {w : World} {g : Nat} {t : TypeId} {lx ly : List Nat} {i : Bool} (h : Blk w g t (pv lx ly i)) (hx : lx.length = 4) (hy : ly.length = 4) : w.cell? ⟨g, 8, none⟩ = some (.bool i) := by
 rw [h.cell]; unfold pv
 rw [List.getElem?_append_right (by rw [natsV_length, hx]; omega), natsV_length, hx, List.getElem?_append_right (by rw [natsV_length, hy]; omega), natsV_length, hy]
 rfl
theorem info94 : (Try.prog.info? 65).map (·.size) = some 4 := by kernel_rfl
theorem info43 : (Try.prog.info? 32).map (·.size) = some 9 := by kernel_rfl
theorem info103 : (Try.prog.info? 67).map (·.size) = some 12 := by kernel_rfl
theorem i24 {l : List Nat} (h : l.length = 4) : (Try.prog.info? 24).map (·.size) = some (natsV .u64 l).length := by rw [info24, natsV_length, h]
theorem i94 {l : List Nat} (h : l.length = 4) : (Try.prog.info? 65).map (·.size) = some (natsV .u64 l).length := by rw [info94, natsV_length, h]
theorem i43 {lx ly : List Nat} {i : Bool} (hx : lx.length = 4) (hy : ly.length = 4) : (Try.prog.info? 32).map (·.size) = some (pv lx ly i).length := by rw [info43, pv_len hx hy]
theorem i103 {lx ly lz : List Nat} (hx : lx.length = 4) (hy : ly.length = 4) (hz : lz.length = 4) : (Try.prog.info? 67).map (·.size) = some (tv lx ly lz).length := by rw [info103, tv_len hx hy hz]
theorem four_ol {l : List Nat} (h : l.length = 4) : ∃ a b c d, l = [a, b, c, d] := by
 match l, h with
 | [a, b, c, d], _ => exact ⟨a, b, c, d, rfl⟩
theorem built103 {lx ly lz : List Nat} (hx : lx.length = 4) (hy : ly.length = 4) (hz : lz.length = 4) : Try.prog.built 67 [(0, .agg (natsV .u64 lx).toArray), (1, .agg (natsV .u64 ly).toArray), (2, .agg (natsV .u64 lz).toArray)] = some (tv lx ly lz).toArray := by
 obtain ⟨a, b, c, d, rfl⟩ := four_ol hx
 obtain ⟨a2, b2, c2, d2, rfl⟩ := four_ol hy
 obtain ⟨a3, b3, c3, d3, rfl⟩ := four_ol hz
 kernel_rfl
theorem built43 {lx ly : List Nat} (hx : lx.length = 4) (hy : ly.length = 4) : Try.prog.built 32 [(0, .agg (natsV .u64 lx).toArray), (1, .agg (natsV .u64 ly).toArray)] = some (pv lx ly false).toArray := by
 obtain ⟨a, b, c, d, rfl⟩ := four_ol hx
 obtain ⟨a2, b2, c2, d2, rfl⟩ := four_ol hy
 kernel_rfl
theorem alloc94 (w : World) : (Instr.alloc 65 true (.tuple #[])).run Try.prog w = .ok (.pointer (some ⟨w.heap.size, 0, none⟩)) (w.alloc (.cells (natsV .u64 (zeros 4)).toArray 65)) := by go_simp; rfl
theorem alloc24 (w : World) : (Instr.alloc 24 true (.tuple #[])).run Try.prog w = .ok (.pointer (some ⟨w.heap.size, 0, none⟩)) (w.alloc (.cells (natsV .u64 (zeros 4)).toArray 24)) := by go_simp; rfl
theorem lenEq {a b : List Value} {n : Nat} (h : a.length = n) (k : b.length = n) : a.length = b.length := h.trans k.symm
section
variable {w : World} {ops : Array Oper} {rest : List Oper} {o : Oper} {a : Act} {Q : Exit → Act → World → Prop}
theorem stB (hgd : o.guard = none) (ty : TypeId) (x y : Operand) (ho : o.op = .store ty x y) (g : Nat) (hx : a.eval x = .pointer (some ⟨g, 0, none⟩)) (cs : List Value) (hy : a.eval y = .agg cs.toArray) (t : TypeId) (old : List Value) (hg : Blk w g t old)
   (hi : (Try.prog.info? ty).map (·.size) = some cs.length) (hl : old.length = cs.length) (h1 : ∀ v ∈ cs, v.oneCell' = true)
   (h : wpList Try.prog ops Q rest (a.put o.dst undef) (w.setRow g cs.toArray)) : wpList Try.prog ops Q (o :: rest) a w :=
 Go.Proofs.Ytdkkombpkojjaaa.wpList_store_row hgd ty x y ho g cs.toArray hx hy t old.toArray hg (by simpa using hi) (by simpa using hl) (Array.all_eq_true_iff_forall_mem.2 (fun v hv => h1 v (by simpa using hv))) h
end
theorem newfacts {W N : World} {t : TypeId} {zs cs : List Value} (h : (W.alloc (.cells zs.toArray t)).setRow W.heap.size cs.toArray = N) : Gr W N ∧ Blk N W.heap.size t cs := by
 subst h
 exact ⟨below_setRow' (Gr.alloc _ _) (Nat.le_refl _) _, (Blk.new W t zs).setRow cs⟩
theorem belStore {w0 w W : World} {g : Nat} (h : Below w0.heap.size w0 w) (k : w.grownBy W (some g)) (hg : w0.heap.size ≤ g) : Below w0.heap.size w0 W :=
 ⟨k.os.trans h.os, k.tape.trans h.tape, k.output.trans h.output, Nat.le_trans h.size k.size, fun i hi => (k.block i (Nat.lt_of_lt_of_le hi h.size) (fun e => by injection e with e; omega)).trans (h.block i hi)⟩
theorem alloc43 (w : World) : (Instr.alloc 32 true (.tuple #[])).run Try.prog w = .ok (.pointer (some ⟨w.heap.size, 0, none⟩)) (w.alloc (.cells (pv (zeros 4) (zeros 4) false).toArray 32)) := by go_simp; rfl
theorem eql94 (a b : List Nat) (ha : a.length = 4) (hb : b.length = 4) (w : World) : (binOp .eql 65 (.agg (natsV .u64 a).toArray) (.agg (natsV .u64 b).toArray)).run Try.prog w = .ok (.bool (decide (a = b))) w := by
 cases hq : Try.prog.info? 22 with
 | none => have := info22; simp [hq] at this
 | some ti =>
   have hs : ti.size = 1 := by have := info22; simpa [hq] using this
   exact eql_nats w 65 22 .u64 4 ti Try.underlying65 Try.underlying22 hq hs cells23 a b ha hb
theorem eqZ94 (a : List Nat) (ha : a.length = 4) (w : World) : (binOp .eql 65 (.agg (natsV .u64 a).toArray) (.agg #[.int .u64 0, .int .u64 0, .int .u64 0, .int .u64 0])).run Try.prog w = .ok (.bool (decide (a = zeros 4))) w := eql94 a (zeros 4) ha rfl w
theorem eqZ24 (a : List Nat) (ha : a.length = 4) (w : World) : (binOp .eql 24 (.agg (natsV .u64 a).toArray) (.agg #[.int .u64 0, .int .u64 0, .int .u64 0, .int .u64 0])).run Try.prog w = .ok (.bool (decide (a = zeros 4))) w := eql24 a (zeros 4) ha rfl w
theorem eqin24 (d : Nat) (a b : List Nat) (ha : a.length = 4) (hb : b.length = 4) (w : World) : (Op.equalIn (d + 2) 24 (.agg (natsV .u64 a).toArray) (.agg (natsV .u64 b).toArray)).run Try.prog w = .ok (decide (a = b)) w := by
 cases hq : Try.prog.info? 22 with
 | none => have := info22; simp [hq] at this
 | some ti =>
   have hs : ti.size = 1 := by have := info22; simpa [hq] using this
   rw [run_equalIn_array w (d + 1) _ _ Try.underlying24 hq, cells23, eqItems_nats w d 22 .u64 Try.underlying22 (by rw [hq]; simp [hs]) a b (List.range 4) (fun i hi => by have := List.mem_range.1 hi; omega), items_eq a b 4 ha hb]
theorem part24 (cs : Array Value) (off : Nat) (w : World) : (part 24 cs off).run Try.prog w = .ok (.agg (cs.extract off (off + 4))) w := by
 cases hq : Try.prog.info? 24 with
 | none => have := info24; simp [hq] at this
 | some ti =>
   have hs : ti.size = 4 := by have := info24; simpa [hq] using this
   have h1 : (sizeOf 24).run Try.prog w = .ok 4 w := by simp [sizeOf, typeInfo, hq, hs]
   have h2 : (isAgg 24).run Try.prog w = .ok true w := by unfold isAgg; rw [Sem.run_bind, run_underlying Try.underlying24 w]; rfl
   simp [part, Sem.run_bind, h1, h2]
theorem part4 (cs : Array Value) (off : Nat) (v : Value) (h : cs[off]? = some v) (w : World) : (part 4 cs off).run Try.prog w = .ok v w := by
 have h2 : (isAgg 4).run Try.prog w = .ok false w := by unfold isAgg; rw [Sem.run_bind, run_underlying Try.underlying4 w]; rfl
 simp [part, Sem.run_bind, h2, h]
theorem eql43 (a b c d : List Nat) (i j : Bool) (ha : a.length = 4) (hb : b.length = 4) (hc : c.length = 4) (hd : d.length = 4) (w : World) :
   (binOp .eql 32 (.agg (pv a b i).toArray) (.agg (pv c d j).toArray)).run Try.prog w = .ok (.bool (decide (a = c ∧ b = d ∧ i = j))) w := by
 have e1 : (pv a b i).toArray.extract 0 (0 + 4) = (natsV .u64 a).toArray := by obtain ⟨_, _, _, _, rfl⟩ := four_ol ha; obtain ⟨_, _, _, _, rfl⟩ := four_ol hb; rfl
 have e2 : (pv c d j).toArray.extract 0 (0 + 4) = (natsV .u64 c).toArray := by obtain ⟨_, _, _, _, rfl⟩ := four_ol hc; obtain ⟨_, _, _, _, rfl⟩ := four_ol hd; rfl
 have e3 : (pv a b i).toArray.extract 4 (4 + 4) = (natsV .u64 b).toArray := by obtain ⟨_, _, _, _, rfl⟩ := four_ol ha; obtain ⟨_, _, _, _, rfl⟩ := four_ol hb; rfl
 have e4 : (pv c d j).toArray.extract 4 (4 + 4) = (natsV .u64 d).toArray := by obtain ⟨_, _, _, _, rfl⟩ := four_ol hc; obtain ⟨_, _, _, _, rfl⟩ := four_ol hd; rfl
 have e5 : (pv a b i).toArray[8]? = some (.bool i) := by obtain ⟨_, _, _, _, rfl⟩ := four_ol ha; obtain ⟨_, _, _, _, rfl⟩ := four_ol hb; rfl
 have e6 : (pv c d j).toArray[8]? = some (.bool j) := by obtain ⟨_, _, _, _, rfl⟩ := four_ol hc; obtain ⟨_, _, _, _, rfl⟩ := four_ol hd; rfl
 have hf : (Try.prog.fieldsOf 32).toList = [{ name := "X", type := 24, offset := 0, embedded := false, tag := "", pkgPath := "", byteOffset := 0 }, { name := "Y", type := 24, offset := 4, embedded := false, tag := "", pkgPath := "", byteOffset := 32 }, { name := "Inf", type := 4, offset := 8, embedded := false, tag := "", pkgPath := "", byteOffset := 64 }] := by kernel_rfl
 rw [run_eql_struct, run_equalIn_struct w 9999 32 _ _ (by kernel_rfl) (by kernel_rfl), hf]
 generalize pv a b i = X at *
 generalize pv c d j = Y at *
 simp only [Op.eqFields, Sem.run_bind, Sem.run_ite, part24, e1, e2, e3, e4, Result.andThen_ok, eqin24 9997 a c ha hc, eqin24 9997 b d hb hd, part4 _ 8 _ e5, part4 _ 8 _ e6, run_equalIn_bool _ 9998 4 i j Try.underlying4]
 by_cases h1 : a = c <;> by_cases h2 : b = d <;> cases i <;> cases j <;> simp [h1, h2]
section
variable {w : World} {ops : Array Oper} {rest : List Oper} {o : Oper} {a : Act} {Q : Exit → Act → World → Prop}
theorem wpList_yield (hw : Region.wanted o (yielded ops a.tmps) = true) {v : Value} (hrun : (execOp a.eval o).run Try.prog w = .ok (.value v) w) (h : wpList Try.prog ops Q rest (a.put o.dst v) w) : wpList Try.prog ops Q (o :: rest) a w :=
 wpList_want hw fun K hK => by unfold Oper.wp; rw [hrun]; exact hK _ _ h
theorem ldwM (ty : TypeId) (x : Operand) (ho : o.op = .load ty x) (b off : Nat) (hx : a.eval x = .pointer (some ⟨b, off, none⟩)) (cs : List Value) (d : TypeDesc) (hr : w.rangeAt b off cs) (hu : Try.prog.underlying ty = some d) (hd : d.isRow = true) (hi : (Try.prog.info? ty).map (·.size) = some cs.length)
   (j : Nat) (sg : Bool) (hgd : o.guard = some (j, sg)) (dt : Tmp) (hdt : (ops[j]?).bind (·.dst) = some dt) (hv : a.tmps[dt]? = some (.bool sg))
   (h : wpList Try.prog ops Q rest (a.put o.dst (.agg cs.toArray)) w) : wpList Try.prog ops Q (o :: rest) a w := by
 have hw : Region.wanted o (yielded ops a.tmps) = true := by simp [Region.wanted, hgd, yielded, hdt, hv]
 refine wpList_yield hw ?_ h
 unfold execOp
 simp only [ho, hx, Instr.loadAt, Instr.sureAddr, Sem.run_bind, Sem.run_pure, Result.andThen_ok, run_loadVar_mid w b off ty cs d hr hu hd hi]
end
theorem setfacts {W N : World} {g : Nat} {t : TypeId} {old cs : List Value} (h : W.setRow g cs.toArray = N) (hb : Blk W g t old) : W.grownBy N (some g) ∧ Blk N g t cs := by
 subst h
 exact ⟨grown_setRow _ _ _, hb.setRow cs⟩
theorem range_gr {w w' : World} {g off : Nat} {vs : List Value} (h : w.rangeAt g off vs) (hb : Below w.heap.size w w') : w'.rangeAt g off vs := by
 intro j v hv
 have h1 := h j v hv
 exact (hb.cell (World.block_lt_of_cell? w _ h1)).trans h1
theorem gS1 {g0 : Nat} {t0 : TypeId} {c0 : List Value} (w w' : World) (h : Blk w g0 t0 c0) (k : Gr w w') : Blk w' g0 t0 c0 := h.gr k
theorem gS2 {g0 g1 : Nat} {t0 t1 : TypeId} {c0 c1 : List Value} (w w' : World) (h : Blk w g0 t0 c0 ∧ Blk w g1 t1 c1) (k : Gr w w') : Blk w' g0 t0 c0 ∧ Blk w' g1 t1 c1 := ⟨h.1.gr k, h.2.gr k⟩
theorem gS3 {g0 g1 g2 : Nat} {t0 t1 t2 : TypeId} {c0 c1 c2 : List Value} (w w' : World) (h : Blk w g0 t0 c0 ∧ Blk w g1 t1 c1 ∧ Blk w g2 t2 c2) (k : Gr w w') : Blk w' g0 t0 c0 ∧ Blk w' g1 t1 c1 ∧ Blk w' g2 t2 c2 := ⟨h.1.gr k, h.2.1.gr k, h.2.2.gr k⟩
theorem gS4 {g0 g1 g2 g3 : Nat} {t0 t1 t2 t3 : TypeId} {c0 c1 c2 c3 : List Value} (w w' : World) (h : Blk w g0 t0 c0 ∧ Blk w g1 t1 c1 ∧ Blk w g2 t2 c2 ∧ Blk w g3 t3 c3) (k : Gr w w') : Blk w' g0 t0 c0 ∧ Blk w' g1 t1 c1 ∧ Blk w' g2 t2 c2 ∧ Blk w' g3 t3 c3 := ⟨h.1.gr k, h.2.1.gr k, h.2.2.1.gr k, h.2.2.2.gr k⟩
theorem gS5 {g0 g1 g2 g3 g4 : Nat} {t0 t1 t2 t3 t4 : TypeId} {c0 c1 c2 c3 c4 : List Value} (w w' : World) (h : Blk w g0 t0 c0 ∧ Blk w g1 t1 c1 ∧ Blk w g2 t2 c2 ∧ Blk w g3 t3 c3 ∧ Blk w g4 t4 c4) (k : Gr w w') : Blk w' g0 t0 c0 ∧ Blk w' g1 t1 c1 ∧ Blk w' g2 t2 c2 ∧ Blk w' g3 t3 c3 ∧ Blk w' g4 t4 c4 := ⟨h.1.gr k, h.2.1.gr k, h.2.2.1.gr k, h.2.2.2.1.gr k, h.2.2.2.2.gr k⟩
theorem gS6 {g0 g1 g2 g3 g4 g5 : Nat} {t0 t1 t2 t3 t4 t5 : TypeId} {c0 c1 c2 c3 c4 c5 : List Value} (w w' : World) (h : Blk w g0 t0 c0 ∧ Blk w g1 t1 c1 ∧ Blk w g2 t2 c2 ∧ Blk w g3 t3 c3 ∧ Blk w g4 t4 c4 ∧ Blk w g5 t5 c5) (k : Gr w w') : Blk w' g0 t0 c0 ∧ Blk w' g1 t1 c1 ∧ Blk w' g2 t2 c2 ∧ Blk w' g3 t3 c3 ∧ Blk w' g4 t4 c4 ∧ Blk w' g5 t5 c5 := ⟨h.1.gr k, h.2.1.gr k, h.2.2.1.gr k, h.2.2.2.1.gr k, h.2.2.2.2.1.gr k, h.2.2.2.2.2.gr k⟩
theorem gS7 {g0 g1 g2 g3 g4 g5 g6 : Nat} {t0 t1 t2 t3 t4 t5 t6 : TypeId} {c0 c1 c2 c3 c4 c5 c6 : List Value} (w w' : World) (h : Blk w g0 t0 c0 ∧ Blk w g1 t1 c1 ∧ Blk w g2 t2 c2 ∧ Blk w g3 t3 c3 ∧ Blk w g4 t4 c4 ∧ Blk w g5 t5 c5 ∧ Blk w g6 t6 c6) (k : Gr w w') : Blk w' g0 t0 c0 ∧ Blk w' g1 t1 c1 ∧ Blk w' g2 t2 c2 ∧ Blk w' g3 t3 c3 ∧ Blk w' g4 t4 c4 ∧ Blk w' g5 t5 c5 ∧ Blk w' g6 t6 c6 := ⟨h.1.gr k, h.2.1.gr k, h.2.2.1.gr k, h.2.2.2.1.gr k, h.2.2.2.2.1.gr k, h.2.2.2.2.2.1.gr k, h.2.2.2.2.2.2.gr k⟩
theorem gS8 {g0 g1 g2 g3 g4 g5 g6 g7 : Nat} {t0 t1 t2 t3 t4 t5 t6 t7 : TypeId} {c0 c1 c2 c3 c4 c5 c6 c7 : List Value} (w w' : World) (h : Blk w g0 t0 c0 ∧ Blk w g1 t1 c1 ∧ Blk w g2 t2 c2 ∧ Blk w g3 t3 c3 ∧ Blk w g4 t4 c4 ∧ Blk w g5 t5 c5 ∧ Blk w g6 t6 c6 ∧ Blk w g7 t7 c7) (k : Gr w w') : Blk w' g0 t0 c0 ∧ Blk w' g1 t1 c1 ∧ Blk w' g2 t2 c2 ∧ Blk w' g3 t3 c3 ∧ Blk w' g4 t4 c4 ∧ Blk w' g5 t5 c5 ∧ Blk w' g6 t6 c6 ∧ Blk w' g7 t7 c7 := ⟨h.1.gr k, h.2.1.gr k, h.2.2.1.gr k, h.2.2.2.1.gr k, h.2.2.2.2.1.gr k, h.2.2.2.2.2.1.gr k, h.2.2.2.2.2.2.1.gr k, h.2.2.2.2.2.2.2.gr k⟩
theorem gS0 (w w' : World) (h : True) (k : Gr w w') : True := trivial
theorem gB0 {w0 : World} (w w' : World) (h : Below w0.heap.size w0 w) (k : Gr w w') : Below w0.heap.size w0 w' := h.trans (Below.mono k h.size)
theorem gB1 {g0 : Nat} {t0 : TypeId} {c0 : List Value} {w0 : World} (w w' : World) (h : Blk w g0 t0 c0 ∧ Below w0.heap.size w0 w) (k : Gr w w') : Blk w' g0 t0 c0 ∧ Below w0.heap.size w0 w' := ⟨h.1.gr k, h.2.trans (Below.mono k h.2.size)⟩
theorem gB2 {g0 g1 : Nat} {t0 t1 : TypeId} {c0 c1 : List Value} {w0 : World} (w w' : World) (h : Blk w g0 t0 c0 ∧ Blk w g1 t1 c1 ∧ Below w0.heap.size w0 w) (k : Gr w w') : Blk w' g0 t0 c0 ∧ Blk w' g1 t1 c1 ∧ Below w0.heap.size w0 w' := ⟨h.1.gr k, h.2.1.gr k, h.2.2.trans (Below.mono k h.2.2.size)⟩
theorem gB3 {g0 g1 g2 : Nat} {t0 t1 t2 : TypeId} {c0 c1 c2 : List Value} {w0 : World} (w w' : World) (h : Blk w g0 t0 c0 ∧ Blk w g1 t1 c1 ∧ Blk w g2 t2 c2 ∧ Below w0.heap.size w0 w) (k : Gr w w') : Blk w' g0 t0 c0 ∧ Blk w' g1 t1 c1 ∧ Blk w' g2 t2 c2 ∧ Below w0.heap.size w0 w' := ⟨h.1.gr k, h.2.1.gr k, h.2.2.1.gr k, h.2.2.2.trans (Below.mono k h.2.2.2.size)⟩
theorem gB4 {g0 g1 g2 g3 : Nat} {t0 t1 t2 t3 : TypeId} {c0 c1 c2 c3 : List Value} {w0 : World} (w w' : World) (h : Blk w g0 t0 c0 ∧ Blk w g1 t1 c1 ∧ Blk w g2 t2 c2 ∧ Blk w g3 t3 c3 ∧ Below w0.heap.size w0 w) (k : Gr w w') : Blk w' g0 t0 c0 ∧ Blk w' g1 t1 c1 ∧ Blk w' g2 t2 c2 ∧ Blk w' g3 t3 c3 ∧ Below w0.heap.size w0 w' := ⟨h.1.gr k, h.2.1.gr k, h.2.2.1.gr k, h.2.2.2.1.gr k, h.2.2.2.2.trans (Below.mono k h.2.2.2.2.size)⟩
theorem gB5 {g0 g1 g2 g3 g4 : Nat} {t0 t1 t2 t3 t4 : TypeId} {c0 c1 c2 c3 c4 : List Value} {w0 : World} (w w' : World) (h : Blk w g0 t0 c0 ∧ Blk w g1 t1 c1 ∧ Blk w g2 t2 c2 ∧ Blk w g3 t3 c3 ∧ Blk w g4 t4 c4 ∧ Below w0.heap.size w0 w) (k : Gr w w') : Blk w' g0 t0 c0 ∧ Blk w' g1 t1 c1 ∧ Blk w' g2 t2 c2 ∧ Blk w' g3 t3 c3 ∧ Blk w' g4 t4 c4 ∧ Below w0.heap.size w0 w' := ⟨h.1.gr k, h.2.1.gr k, h.2.2.1.gr k, h.2.2.2.1.gr k, h.2.2.2.2.1.gr k, h.2.2.2.2.2.trans (Below.mono k h.2.2.2.2.2.size)⟩
theorem gB6 {g0 g1 g2 g3 g4 g5 : Nat} {t0 t1 t2 t3 t4 t5 : TypeId} {c0 c1 c2 c3 c4 c5 : List Value} {w0 : World} (w w' : World) (h : Blk w g0 t0 c0 ∧ Blk w g1 t1 c1 ∧ Blk w g2 t2 c2 ∧ Blk w g3 t3 c3 ∧ Blk w g4 t4 c4 ∧ Blk w g5 t5 c5 ∧ Below w0.heap.size w0 w) (k : Gr w w') : Blk w' g0 t0 c0 ∧ Blk w' g1 t1 c1 ∧ Blk w' g2 t2 c2 ∧ Blk w' g3 t3 c3 ∧ Blk w' g4 t4 c4 ∧ Blk w' g5 t5 c5 ∧ Below w0.heap.size w0 w' := ⟨h.1.gr k, h.2.1.gr k, h.2.2.1.gr k, h.2.2.2.1.gr k, h.2.2.2.2.1.gr k, h.2.2.2.2.2.1.gr k, h.2.2.2.2.2.2.trans (Below.mono k h.2.2.2.2.2.2.size)⟩
theorem gB7 {g0 g1 g2 g3 g4 g5 g6 : Nat} {t0 t1 t2 t3 t4 t5 t6 : TypeId} {c0 c1 c2 c3 c4 c5 c6 : List Value} {w0 : World} (w w' : World) (h : Blk w g0 t0 c0 ∧ Blk w g1 t1 c1 ∧ Blk w g2 t2 c2 ∧ Blk w g3 t3 c3 ∧ Blk w g4 t4 c4 ∧ Blk w g5 t5 c5 ∧ Blk w g6 t6 c6 ∧ Below w0.heap.size w0 w) (k : Gr w w') : Blk w' g0 t0 c0 ∧ Blk w' g1 t1 c1 ∧ Blk w' g2 t2 c2 ∧ Blk w' g3 t3 c3 ∧ Blk w' g4 t4 c4 ∧ Blk w' g5 t5 c5 ∧ Blk w' g6 t6 c6 ∧ Below w0.heap.size w0 w' := ⟨h.1.gr k, h.2.1.gr k, h.2.2.1.gr k, h.2.2.2.1.gr k, h.2.2.2.2.1.gr k, h.2.2.2.2.2.1.gr k, h.2.2.2.2.2.2.1.gr k, h.2.2.2.2.2.2.2.trans (Below.mono k h.2.2.2.2.2.2.2.size)⟩
theorem tk {P : Program} {ops : Array Oper} {Q : Exit → Act → World → Prop} {md : Region.Mode} {S : World → Prop} {L : Nat} {oi : Oper} {v : Value} {fuel : Nat} {listed : Array Bool} {a : Act} {w : World} (hSg : ∀ w w', S w → Gr w w' → S w') (i : Nat) (hi : ops[i]? = some oi) (hy : YieldsG P ops S oi v a) (h : wpAnyG P md ops Q S L fuel (listed.setIfInBounds i true) (a.put oi.dst v) w)
   (hs : (Region.noSelect ops && Region.free md ops listed i && (Region.ready md ops listed).contains i && waitsB md ops L i) = true := by kernel_rfl) (hQ : ∀ c a w, Q (.panic c) (a.put oi.dst v) w → Q (.panic c) a w := by exact fun _ _ _ h => h) : wpAnyG P md ops Q S L (fuel + 1) listed a w := wpAnyG_take hSg hi hs hQ hy h
theorem tkp {P : Program} {ops : Array Oper} {Q : Exit → Act → World → Prop} {md : Region.Mode} {S : World → Prop} {L : Nat} {oi : Oper} {v : Value} {fuel : Nat} {listed : Array Bool} {a : Act} {w : World} (hSg : ∀ w w', S w → Gr w w' → S w') (i : Nat) (hi : ops[i]? = some oi) (h : wpAnyG P md ops Q S L fuel (listed.setIfInBounds i true) (a.put oi.dst v) w)
   (hs : (Region.noSelect ops && Region.free md ops listed i && (Region.ready md ops listed).contains i && waitsB md ops L i) = true := by kernel_rfl) (hw : Region.wanted oi (yielded ops a.tmps) = true := by rfl) (hrun : ∀ w, (execOp a.eval oi).run P w = .ok (.value v) w := by intro w; go_simp; first | done | with_reducible rfl)
   (hQ : ∀ c a w, Q (.panic c) (a.put oi.dst v) w → Q (.panic c) a w := by exact fun _ _ _ h => h) : wpAnyG P md ops Q S L (fuel + 1) listed a w := wpAnyG_take hSg hi hs hQ (.inl ⟨hw, fun w _ => .inl (hrun w)⟩) h
theorem tks {P : Program} {ops : Array Oper} {Q : Exit → Act → World → Prop} {md : Region.Mode} {S : World → Prop} {L : Nat} {oi : Oper} {fuel : Nat} {listed : Array Bool} {a : Act} {w : World} (hSg : ∀ w w', S w → Gr w w' → S w') (i : Nat) (hi : ops[i]? = some oi) (h : wpAnyG P md ops Q S L fuel (listed.setIfInBounds i true) (a.put oi.dst undef) w)
   (hs : (Region.noSelect ops && Region.free md ops listed i && (Region.ready md ops listed).contains i && waitsB md ops L i) = true := by kernel_rfl) (hw : Region.wanted oi (yielded ops a.tmps) = false := by rfl) (hQ : ∀ c a w, Q (.panic c) (a.put oi.dst undef) w → Q (.panic c) a w := by exact fun _ _ _ h => h) : wpAnyG P md ops Q S L (fuel + 1) listed a w := wpAnyG_take hSg hi hs hQ (.inr ⟨hw, rfl⟩) h
theorem lg' {P : Program} {ops : Array Oper} {S : World → Prop} {op : Oper} {a : Act} {ty : TypeId} {x : Operand} {b o : Nat} {cs : List Value} {d : TypeDesc} (hS : ∀ w, S w → w.rangeAt b o cs) (hu : P.underlying ty = some d) (hi : (P.info? ty).map (·.size) = some cs.length)
   (hw : Region.wanted op (yielded ops a.tmps) = true := by rfl) (ho : op.op = .load ty x := by rfl) (hx : a.eval x = .pointer (some ⟨b, o, none⟩) := by rfl) (hd : d.isRow = true := by rfl) : YieldsG P ops S op (.agg cs.toArray) a := loadG hw ty x ho b o hx cs d hS hu hd hi
theorem cg' {P : Program} {ops : Array Oper} {S : World → Prop} {o : Oper} {v : Value} {a : Act} {f : FuncId} {fn : Func} {xs : Array Operand} {ats : Array TypeId} {args : Array Value} (hf : P.funcs[f]? = some fn)
   (hc : ∀ w, S w → Calls P f args w (fun e w' => e = .returned v ∧ Below w.heap.size w w'))
   (hw : Region.wanted o (yielded ops a.tmps) = true := by rfl) (ho : o.op = .call { callee := .value (.func f), args := xs, argTypes := ats } := by rfl) (hname : (fn.name == "runtime.NumGoroutine") = false := by kernel_rfl) (hb : fn.body.isSome = true := by kernel_rfl)
   (ha : #[] ++ xs.map a.eval ++ #[] = args := by simp [Act.eval]) : YieldsG P ops S o v a := callG hw ho hf hname hb args ha hc
theorem nl' {k : IntKind} {l : List Nat} {n : Nat} (h : l.length = n) : (natsV k l).length = n := by rw [natsV_length, h]
theorem nz4 : (natsV .u64 (zeros 4)).length = 4 := rfl
theorem lz4 {l : List Nat} (h : l.length = 4) : (natsV .u64 (zeros 4)).length = (natsV .u64 l).length := nz4.trans (nl' h).symm
theorem pz9 : (pv (zeros 4) (zeros 4) false).length = 9 := rfl
theorem n1' {k : IntKind} {l : List Nat} : ∀ v ∈ natsV k l, v.oneCell' = true := natsV_one _ _
theorem p1_ {lx ly : List Nat} {i : Bool} : ∀ v ∈ pv lx ly i, v.oneCell' = true := pv_one _ _ _
theorem stN {ops : Array Oper} {rest : List Oper} {o : Oper} {a : Act} {Q : Exit → Act → World → Prop} (hgd : o.guard = none) (ty : TypeId) (x y : Operand) (ho : o.op = .store ty x y) (W0 : World) (hx : a.eval x = .pointer (some ⟨W0.heap.size, 0, none⟩)) (cs : List Value) (hy : a.eval y = .agg cs.toArray) (ta : TypeId) (zs : List Value)
   (hi : (Try.prog.info? ty).map (·.size) = some cs.length) (hl : zs.length = cs.length) (h1 : ∀ v ∈ cs, v.oneCell' = true)
   (h : ∀ N, Gr W0 N → Blk N W0.heap.size ta cs → wpList Try.prog ops Q rest (a.put o.dst undef) N) : wpList Try.prog ops Q (o :: rest) a (W0.alloc (.cells zs.toArray ta)) :=
 stB hgd ty x y ho W0.heap.size hx cs hy ta zs (Blk.new W0 ta zs) hi hl h1 (by obtain ⟨k, b⟩ := newfacts (W := W0) (t := ta) (zs := zs) (cs := cs) rfl; exact h _ k b)
theorem gq' {w w' : World} {g : Nat} {t : TypeId} {cs : List Value} (h : Go.RowKit.Hid (Blk w g t cs)) (k : Gr w w') : Go.RowKit.Hid (Blk w' g t cs) := Hd (h.out.gr k)
theorem dq' {w w' : World} {g : Nat} {t : TypeId} {cs : List Value} (h : Go.RowKit.Hid (Blk w g t cs)) (k : Gr w.drew w') : Go.RowKit.Hid (Blk w' g t cs) := Hd (h.out.drew.gr k)
def bl (v : Nat) : Nat := if v = 0 then 0 else v.log2 + 1
theorem bl_zero : bl 0 = 0 := rfl
theorem bl_half (v : Nat) (h : v ≠ 0) : bl v = bl (v / 2) + 1 := by
 unfold bl
 rw [if_neg h]
 by_cases h2 : v / 2 = 0
 · have : v = 1 := by omega
   subst this; rfl
 · rw [if_neg h2]
   conv => lhs; rw [Nat.log2_def, if_pos (by omega)]
theorem bl_shift : ∀ (k x : Nat), x / 2 ^ k ≠ 0 → bl x = k + bl (x / 2 ^ k)
 | 0, x, _ => by simp
 | k + 1, x, h => by
   have e : x / 2 ^ (k + 1) = x / 2 / 2 ^ k := by rw [Nat.pow_succ, Nat.mul_comm, Nat.div_div_eq_div_mul]
   rw [e] at h ⊢
   have hx : x ≠ 0 := by rintro rfl; simp at h
   rw [bl_half x hx, bl_shift k (x / 2) h]; omega
theorem bl_le_iff : ∀ (n v : Nat), bl v ≤ n ↔ v < 2 ^ n
 | 0, v => by
   constructor
   · intro h
     by_cases h0 : v = 0
     · subst h0; simp
     · rw [bl_half v h0] at h; omega
   · intro h
     have : v = 0 := by simpa using h
     subst this; simp [bl]
 | n + 1, v => by
   by_cases h0 : v = 0
   · subst h0; simp [bl, Nat.two_pow_pos]
   · rw [bl_half v h0, Nat.add_le_add_iff_right, bl_le_iff n (v / 2), Nat.pow_succ]; omega
theorem bitsOf_any (v : Nat) (w : World) (hv : v < 2 ^ 64) : Calls Try.prog 79 #[.int .u64 (v : Nat)] w fun e w' => e = .returned (.int .i64 (bl v : Nat)) ∧ w = w' := by
 have hbl := (bl_le_iff 64 v).2 hv
 obtain ⟨r, hr⟩ : ∃ r, r = bl v := ⟨_, rfl⟩
 rw [← hr] at hbl ⊢
 have HR := Hd hr
 clear hr
 go_enter Try.func79, Try.ntmps79
 go_wp2_with fail
 go_loop [0, 3] (fun x n => ∃ q k : Nat, x = .int .u64 q ∧ n = .int .i64 k ∧ q < 2 ^ 64 ∧ r = k + bl q) (fun x _ => (intOf x).toNat)
 case atStart => exact ⟨v, 0, rfl, rfl, hv, by rw [HR.out]; simp⟩
 case round =>
   obtain ⟨q, k, rfl, rfl, hq, hrel⟩ := hrel
   by_cases h0 : q = 0
   · subst h0
     have hk : r = k := by rw [hrel, bl_zero]; rfl
     subst hk
     clear hrel
     go_wp2_with fail
     go_ret
     exact ⟨rfl, rfl⟩
   · have h1 : ((q : Int) != 0) = true := by simpa using h0
     have HB := Hd (bl_half q h0)
     have HREL := Hd hrel
     have hk : k ≤ 64 := by omega
     clear hrel
     go_wp2_with fail
     go_round
     case rel => exact ⟨q / 2, k + 1, by go_num, by go_num, by omega, by rw [HREL.out, HB.out]; omega⟩
     case measure => simp [intOf] <;> omega
theorem dgt_top (B x s : Nat) (hB : 0 < B) (h : x < B ^ (s + 1)) : dgt B x s = x / B ^ s := by
 unfold dgt
 rw [Nat.mod_eq_of_lt]
 rw [Nat.div_lt_iff_lt_mul (Nat.pow_pos hB), Nat.mul_comm, ← Nat.pow_succ]; exact h
theorem lt_of_top (B x s : Nat) (hB : 0 < B) (h : x / B ^ s = 0) : x < B ^ s := by
 rcases Nat.div_eq_zero_iff.1 h with h | h
 · have := Nat.pow_pos (n := s) hB; omega
 · exact h
theorem Bits_any (x : Nat) (w : World) (hx : x < 2 ^ 256) : Calls Try.prog 59 #[.agg (natsV .u64 (wds 4 x)).toArray] w fun e w' => e = .returned (.int .i64 (bl x : Nat)) ∧ Below w.heap.size w w' := by
 have hbl := (bl_le_iff 256 x).2 hx
 obtain ⟨r, hr⟩ : ∃ r, r = bl x := ⟨_, rfl⟩
 rw [← hr] at hbl ⊢
 have HR := Hd hr
 have LA := Hd (wds_len 4 x)
 have AA := Hd (wds_at 4 x)
 clear hr
 have HX4 : x < (2 ^ 64) ^ 4 := by rw [← Nat.pow_mul]; exact hx
 generalize wds 4 x = la at *
 have B1 := Hd (Blk.new w 24 (natsV .u64 la))
 have BEL := Hd ((Below.refl w.heap.size w).alloc (Nat.le_refl _) (.cells (natsV .u64 la).toArray 24))
 go_enter Try.func59, Try.ntmps59
 go_wp2_with fail
 go_loop [3] (fun i => ∃ t : Nat, t ≤ 4 ∧ i = .int .i64 ((t : Int) - 1) ∧ x < (2 ^ 64) ^ t) (fun i => (intOf i + 1).toNat)
 case atStart => exact ⟨4, by omega, rfl, HX4⟩
 case round =>
   obtain ⟨t, ht, rfl, hxt⟩ := hrel
   rcases t with _ | s
   · obtain rfl : x = 0 := by simpa using hxt
     rw [show ((0 : Nat) : Int) - 1 = -1 from rfl]
     have h0 : r = 0 := HR.out
     subst h0
     have hbel := BEL.out
     go_wp2_with fail
     go_ret
     exact ⟨rfl, hbel⟩
   · rw [show ((s + 1 : Nat) : Int) - 1 = (s : Int) by omega]
     have hs : s < 4 := by omega
     have hsi : (s : Int) < 4 := by omega
     have c0 := B1.out.nat s (by rw [LA.out]; exact hs)
     rw [AA.out s hs] at c0
     have HT := Hd (dgt_top (2 ^ 64) x s (by decide) hxt)
     have HQ := dgt_lt (B := 2 ^ 64) (by decide) x s
     have HXT := Hd hxt
     clear hxt
     generalize dgt (2 ^ 64) x s = q at *
     by_cases h0 : q = 0
     · subst h0
       have hlt := Hd (lt_of_top (2 ^ 64) x s (by decide) HT.out.symm)
       go_wp2_with fail
       go_round
       case rel => exact ⟨s, by omega, rfl, hlt.out⟩
       case measure => simp [intOf] <;> omega
     · have h1 : ((q : Int) != 0) = true := by simpa using h0
       have HB := Hd (show r = 64 * s + bl q by
         rw [HR.out, HT.out, ← Nat.pow_mul]
         exact bl_shift (64 * s) x (by rw [Nat.pow_mul, ← HT.out]; exact h0))
       have HBO := Hd (fun w => bitsOf_any q w HQ)
       have hq2 := (bl_le_iff 64 q).2 HQ
       generalize bl q = bq at *
       have hbel := BEL.out
       go_wp2_with fail
       refine (HBO.out _).mono ?_
       rintro e w1 ⟨rfl, rfl⟩
       go_wp2_with fail
       go_ret
       exact ⟨ret1 (by rw [HB.out]; omega), hbel⟩
def bitZ (x : Nat) (n : Int) : Nat := if 0 ≤ n ∧ n < 256 then x / 2 ^ n.toNat % 2 else 0
theorem bitZ_out (x : Nat) (n : Int) (h : n < 0 ∨ 256 ≤ n) : bitZ x n = 0 := by unfold bitZ; rw [if_neg (by omega)]
theorem bitZ_in (x k : Nat) (h : k < 256) : bitZ x (k : Int) = x / 2 ^ k % 2 := by unfold bitZ; rw [if_pos (by omega)]; simp
theorem bitZ_le (x : Nat) (n : Int) : bitZ x n ≤ 1 := by unfold bitZ; split <;> omega
theorem bit_word (x j s : Nat) (hs : s < 64) : dgt (2 ^ 64) x j / 2 ^ s % 2 = x / 2 ^ (64 * j + s) % 2 := by
 have h1 : dgt 2 (x / 2 ^ (64 * j) % 2 ^ 64) s = dgt 2 (x / 2 ^ (64 * j)) s := by
   have := tell_mod 2 (x / 2 ^ (64 * j)) (s + 1) 64 (by omega)
   rw [tell_succ, tell_succ] at this
   have h := List.append_inj_right this (by rw [tell_length, tell_length])
   simpa using h
 unfold dgt at h1 ⊢
 rw [← Nat.pow_mul, h1, Nat.div_div_eq_div_mul, ← Nat.pow_add]
theorem and_one (y s : Nat) : bits .and .u64 ((y : Int) / 2 ^ s) 1 = ((y / 2 ^ s % 2 : Nat) : Int) := by
 have h := u64_ba (y / 2 ^ s) 1
 have e : ba 64 (y / 2 ^ s) 1 = y / 2 ^ s % 2 := by
   unfold ba
   rw [show 1 % 2 ^ 64 = 1 from rfl, Nat.and_one_is_mod, Nat.mod_mod_of_dvd _ (by decide)]
 rw [e] at h
 rw [← h]
 congr 1 <;> simp
theorem Bit_any (x : Nat) (n : Int) (w : World) (h0 : -9223372036854775808 ≤ n) (h1 : n < 9223372036854775808) : Calls Try.prog 61 #[.agg (natsV .u64 (wds 4 x)).toArray, .int .i64 n] w fun e w' => e = .returned (.int .i64 (bitZ x n : Nat)) ∧ Below w.heap.size w w' := by
 have LA := Hd (wds_len 4 x)
 have AA := Hd (wds_at 4 x)
 generalize wds 4 x = la at *
 have B1 := Hd (Blk.new w 24 (natsV .u64 la))
 have BEL := Hd ((Below.refl w.heap.size w).alloc (Nat.le_refl _) (.cells (natsV .u64 la).toArray 24))
 have hbel := BEL.out
 by_cases hneg : n < 0
 · rw [bitZ_out x n (.inl hneg)]
   go_enter Try.func61, Try.ntmps61
   go_wp2_with fail
   go_ret
   exact ⟨rfl, hbel⟩
 · by_cases hbig : 256 ≤ n
   · rw [bitZ_out x n (.inr hbig)]
     go_enter Try.func61, Try.ntmps61
     go_wp2_with fail
     go_ret
     exact ⟨rfl, hbel⟩
   · obtain ⟨k, rfl⟩ := Int.eq_ofNat_of_zero_le (show 0 ≤ n by omega)
     have hk : k < 256 := by omega
     have HV := Hd (bitZ_in x k hk)
     obtain ⟨j, hj⟩ : ∃ j, j = k / 64 := ⟨_, rfl⟩
     obtain ⟨s, hs⟩ : ∃ s, s = k % 64 := ⟨_, rfl⟩
     have HW := Hd (bit_word x j s (by omega))
     rw [show 64 * j + s = k by omega, ← HV.out] at HW
     have hj4 : j < 4 := by omega
     have hs64 : s < 64 := by omega
     have c0 := B1.out.nat j (by rw [LA.out]; omega)
     rw [AA.out j hj4] at c0
     have HY := dgt_lt (B := 2 ^ 64) (by decide) x j
     generalize dgt (2 ^ 64) x j = y at *
     have hbl := bitZ_le x k
     obtain ⟨bz, hbz⟩ : ∃ bz, bz = bitZ x (k : Int) := ⟨_, rfl⟩
     rw [← hbz] at HW hbl ⊢
     have e1 : (k : Int) / 64 = (j : Int) := by omega
     have e2 : (k : Int) % 64 = (s : Int) := by omega
     have hji : (j : Int) < 4 := by omega
     have HJ := Hd hj
     have HSS := Hd hs
     have r2 := u64_ba
     clear hj hs HV hbz
     go_enter Try.func61, Try.ntmps61
     go_wp2_with fail
     go_ret
     exact ⟨ret1 (by rw [and_one, HW.out, IntWalk.wrap64_in _ (by omega)]), hbel⟩
def wz (x : Nat) (j : Int) : Nat := if 0 ≤ j then dgt (2 ^ 64) x j.toNat else 0
theorem wz_lt (x : Nat) (j : Int) : wz x j < 2 ^ 64 := by unfold wz; split; exact dgt_lt (by decide) _ _; decide
theorem wz_neg (x : Nat) (j : Int) (h : j < 0) : wz x j = 0 := by unfold wz; rw [if_neg (by omega)]
theorem wz_nat (x j : Nat) : wz x (j : Int) = dgt (2 ^ 64) x j := by unfold wz; rw [if_pos (by omega)]; rfl
theorem dgt_high {B x n j : Nat} (hB : 0 < B) (h : x < B ^ n) (hj : n ≤ j) : dgt B x j = 0 := by
 unfold dgt
 rw [Nat.div_eq_of_lt (Nat.lt_of_lt_of_le h (Nat.pow_le_pow_right hB hj))]; simp
theorem dgt_bit (x j c : Nat) : (dgt (2 ^ 64) x j).testBit c = (decide (c < 64) && x.testBit (64 * j + c)) := by
 unfold dgt
 rw [← Nat.pow_mul, Nat.testBit_mod_two_pow, Nat.testBit_div_two_pow, Nat.add_comm]
theorem wz_bit (x : Nat) (j : Int) (c : Nat) : (wz x j).testBit c = (decide (0 ≤ j) && (decide (c < 64) && x.testBit (64 * j.toNat + c))) := by
 unfold wz
 split
 · rename_i h; rw [dgt_bit]; simp [h]
 · rename_i h; simp [h]
theorem shl_word (x N i : Nat) : dgt (2 ^ 64) (x * 2 ^ N) i = (wz x ((i : Int) - (N / 64 : Nat)) * 2 ^ (N % 64) % 2 ^ 64) ||| (wz x ((i : Int) - (N / 64 : Nat) - 1) / 2 ^ (64 - N % 64)) := by
 apply Nat.eq_of_testBit_eq
 intro b
 simp only [dgt_bit, Nat.testBit_or, Nat.testBit_mod_two_pow, Nat.testBit_mul_two_pow, Nat.testBit_div_two_pow, wz_bit]
 obtain ⟨q, hq⟩ : ∃ q, q = N / 64 := ⟨_, rfl⟩
 obtain ⟨r, hr⟩ : ∃ r, r = N % 64 := ⟨_, rfl⟩
 rw [← hq, ← hr]
 have hN : N = 64 * q + r := by omega
 have hr64 : r < 64 := by omega
 clear hq hr
 obtain ⟨z, hz⟩ : ∃ z, z = (i : Int) - (q : Int) := ⟨_, rfl⟩
 obtain ⟨y, hy⟩ : ∃ y, y = z - 1 := ⟨_, rfl⟩
 rw [← hz, ← hy]
 by_cases hb : b < 64
 · by_cases hbr : r ≤ b
   · have h2 : ¬ (b + (64 - r) < 64) := by omega
     have h3 : b - r < 64 := by omega
     by_cases hi : q ≤ i
     · have h4 : N ≤ 64 * i + b := by omega
       have h5 : (0 : Int) ≤ z := by omega
       have e1 : 64 * z.toNat + (b - r) = 64 * i + b - N := by omega
       simp [hb, hbr, h2, h3, h4, h5, e1]
     · have h4 : ¬ (N ≤ 64 * i + b) := by omega
       have h5 : ¬ ((0 : Int) ≤ z) := by omega
       simp [hb, h2, h4, h5]
   · have h2 : b + (64 - r) < 64 := by omega
     by_cases hi : q + 1 ≤ i
     · have h4 : N ≤ 64 * i + b := by omega
       have h5 : (0 : Int) ≤ y := by omega
       have e1 : 64 * y.toNat + (b + (64 - r)) = 64 * i + b - N := by omega
       simp [hb, hbr, h2, h4, h5, e1]
     · have h4 : ¬ (N ≤ 64 * i + b) := by omega
       have h5 : ¬ ((0 : Int) ≤ y) := by omega
       simp [hb, hbr, h4, h5]
 · have h2 : ¬ (b + (64 - r) < 64) := by omega
   simp [hb, h2]
theorem shr_word (x N i : Nat) : dgt (2 ^ 64) (x / 2 ^ N) i = (wz x ((i : Int) + (N / 64 : Nat)) / 2 ^ (N % 64)) ||| (wz x ((i : Int) + (N / 64 : Nat) + 1) * 2 ^ (64 - N % 64) % 2 ^ 64) := by
 apply Nat.eq_of_testBit_eq
 intro b
 simp only [dgt_bit, Nat.testBit_or, Nat.testBit_mod_two_pow, Nat.testBit_mul_two_pow, Nat.testBit_div_two_pow, wz_bit]
 obtain ⟨q, hq⟩ : ∃ q, q = N / 64 := ⟨_, rfl⟩
 obtain ⟨r, hr⟩ : ∃ r, r = N % 64 := ⟨_, rfl⟩
 rw [← hq, ← hr]
 have hN : N = 64 * q + r := by omega
 have hr64 : r < 64 := by omega
 clear hq hr
 have h5 : (0 : Int) ≤ (i : Int) + (q : Int) := by omega
 have h6 : (0 : Int) ≤ (i : Int) + (q : Int) + 1 := by omega
 by_cases hb : b < 64
 · by_cases hbr : b + r < 64
   · have h2 : ¬ (64 - r ≤ b) := by omega
     have e1 : 64 * ((i : Int) + (q : Int)).toNat + (b + r) = 64 * i + b + N := by omega
     simp [hb, hbr, h2, h5, e1]
   · have h2 : 64 - r ≤ b := by omega
     have h3 : b - (64 - r) < 64 := by omega
     have e1 : 64 * ((i : Int) + (q : Int) + 1).toNat + (b - (64 - r)) = 64 * i + b + N := by omega
     simp [hb, hbr, h2, h3, h5, h6, e1]
 · have h2 : ¬ (b + r < 64) := by omega
   simp [hb, h2]
theorem range_keep {w w' : World} {g : Nat} {l : List Nat} (h : w.rangeAt g 0 (natsV .u64 l)) (hb : Below w.heap.size w w') : w'.rangeAt g 0 (natsV .u64 l) := by
 intro j v hv
 have h1 := h j v hv
 exact (hb.cell (World.block_lt_of_cell? w _ h1)).trans h1
theorem blk_range {w : World} {G : Nat} {t : TypeId} {l : List Nat} (h : Blk w G t (natsV .u64 l)) : w.rangeAt G 0 (natsV .u64 l) := by
 intro j v hv
 rw [Nat.zero_add, h.cell, hv]
theorem tell_set (f : Nat → Nat) (n p v : Nat) : (tell f n).set p v = tell (fun i => if i = p then v else f i) n := by
 apply List.ext_getElem?
 intro i
 rw [List.getElem?_set]
 simp only [tell, List.getElem?_map, List.length_map, List.length_range]
 by_cases hi : i < n
 · rw [List.getElem?_range hi]
   by_cases hp : p = i
   · subst hp; simp [hi]
   · rw [if_neg hp]; simp [Ne.symm hp, fun h : i = p => hp h.symm]
 · rw [List.getElem?_eq_none (by simpa using hi)]
   by_cases hp : p = i
   · subst hp; simp [hi]
   · simp [hp]
end Go.Proofs.Ytdkkombpkojjaaa
