/- Rows of regions: copies, clears, appends of whole regions. No condition. -/
import Derived.Test.YtelfhpmbnficfaaRs
import Derived.Test.YtelfhpmbnficfaaGl
import Derived.Maps.AppendAt
import Derived.Deep.AppendLies
import Derived.Lib.Overlaps
import Derived.Lib.AppendZerosOnto
import Derived.Laws.IdiomCopy
namespace Go.Proofs.Ytelfhpmbnficfaa
open Go.RowKit
set_option linter.unusedVariables false
set_option maxRecDepth 100000
set_option linter.unusedSimpArgs false
theorem info67z : (Try.prog.info? 67).map (fun i => (i.zero, i.size, i.bytes)) = some (some (.agg #[.int .u64 0, .int .u64 0, .bool false, .bool false, .bool false, .bool false, .bool false]), 7, 24) := by kernel_rfl
theorem info34z : (Try.prog.info? 34).map (fun i => (i.zero, i.size, i.bytes)) = some (some (.agg #[.int .u64 0, .int .u64 0, .bool false, .bool false, .bool false, .bool false]), 6, 24) := by kernel_rfl
section
variable {P : Program}
/-- elements of k cells go over: all are read first -/
theorem run_copy_k (w : World) (dT sT ty elem : TypeId) (k b o dLen dCap : Nat) (a : Addr) (sLen sCap q : Nat) (cs : List Value)
    (hu : P.underlying dT = some (.slice elem)) (hs : (P.info? elem).map (·.size) = some k) (hq : Nat.min sLen dLen = q) (hn : cs.length = q * k)
    (hsrc : ∀ j v, cs[j]? = some v → w.cell? (a.add j) = some v) (hc : ∀ j, j < cs.length → (w.cell? ⟨b, o + j, none⟩).isSome = true) (hf : ∀ j, j < cs.length → w.frozen? ⟨b, o + j, none⟩ = false) (h1 : ∀ v ∈ cs, v.oneCell' = true) :
    (Builtin.copy_ #[dT, sT] ty #[.slice (some ⟨b, o, none⟩) dLen dCap, .slice (some a) sLen sCap]).run P w = .ok (goInt q) (w.setCells b o cs) := by
  have hl := run_loadCells_list (P := P) w a cs hsrc
  have hst := run_storeCells_cells (P := P) b o cs 0 w (by simpa using hc) (by simpa using hf) h1
  cases hi0 : P.info? elem with
  | none => simp [hi0] at hs
  | some i =>
    have hi : i.size = k := by simpa [hi0] using hs
    simp [Builtin.copy_, run_underlying hu, Builtin.lenOf, Builtin.firstCells, sizeOf, typeInfo, hi0, hi, hq, ← hn, hl, hst]
theorem run_clear_k (w : World) (t e ty : TypeId) (z : Value) (ht : P.underlying t = some (.slice e)) (hv : ∀ w, (zeroValue e).run P w = .ok z w) (b o n c : Nat) (hn : 0 < n) (cs : List Value) (hz : (Builtin.zeroCells z.cells n).toList = cs) (h1 : ∀ v ∈ cs, v.oneCell' = true)
    (hc : ∀ j, j < cs.length → (w.cell? ⟨b, o + j, none⟩).isSome = true) (hf : ∀ j, j < cs.length → w.frozen? ⟨b, o + j, none⟩ = false) :
    (Builtin.clear_ #[t] ty #[.slice (some ⟨b, o, none⟩) n c]).run P w = .ok (.tuple #[]) (w.setCells b o cs) := by
  have hst := run_storeCells_cells (P := P) b o cs 0 w (by simpa using hc) (by simpa using hf) h1
  simp only [Nat.add_zero] at hst
  obtain ⟨m, rfl⟩ : ∃ m, n = m + 1 := ⟨n - 1, by omega⟩
  simp [Builtin.clear_, run_underlying ht, hv, hz, hst]
/-- one operation of a list, its run told by an equation -/
theorem wpList_run {ops : Array Oper} {rest : List Oper} {o : Oper} {a : Act} {w : World} {Q : Exit → Act → World → Prop} (hgd : o.guard = none) {v : Value} {w' : World} (hrun : (execOp a.eval o).run P w = .ok (.value v) w') (h : wpList P ops Q rest (a.put o.dst v) w') : wpList P ops Q (o :: rest) a w :=
  wpList_plain hgd fun K hK => by unfold Oper.wp; rw [hrun]; exact hK _ _ h
theorem exec_append {a : Act} {w w' : World} {o : Oper} {x y : Operand} {t u : TypeId} {vx vy r : Value} (ho : o.op = .call { callee := .builtin .append, args := #[x, y], argTypes := #[t, u] }) (hx : a.eval x = vx) (hy : a.eval y = vy)
    (hr : (Builtin.append_ #[t, u] o.type #[vx, vy]).run P w = .ok r w') : (execOp a.eval o).run P w = .ok (.value r) w' := by
  unfold execOp
  simp only [ho, resolve, invoke, builtin, Sem.run_bind, Sem.run_pure, Result.andThen_ok, List.map_toArray, List.map_cons, List.map_nil, hx, hy, hr]
theorem exec_copy {a : Act} {w w' : World} {o : Oper} {x y : Operand} {t u : TypeId} {vx vy r : Value} (ho : o.op = .call { callee := .builtin .copy, args := #[x, y], argTypes := #[t, u] }) (hx : a.eval x = vx) (hy : a.eval y = vy)
    (hr : (Builtin.copy_ #[t, u] o.type #[vx, vy]).run P w = .ok r w') : (execOp a.eval o).run P w = .ok (.value r) w' := by
  unfold execOp
  simp only [ho, resolve, invoke, builtin, Sem.run_bind, Sem.run_pure, Result.andThen_ok, List.map_toArray, List.map_cons, List.map_nil, hx, hy, hr]
theorem exec_clear {a : Act} {w w' : World} {o : Oper} {x : Operand} {t : TypeId} {vx r : Value} (ho : o.op = .call { callee := .builtin .clear, args := #[x], argTypes := #[t] }) (hx : a.eval x = vx)
    (hr : (Builtin.clear_ #[t] o.type #[vx]).run P w = .ok r w') : (execOp a.eval o).run P w = .ok (.value r) w' := by
  unfold execOp
  simp only [ho, resolve, invoke, builtin, Sem.run_bind, Sem.run_pure, Result.andThen_ok, List.map_toArray, List.map_cons, List.map_nil, hx, hr]
end
theorem Blk.there {w : World} {g t : Nat} {cs : List Value} (h : Blk w g t cs) (i : Nat) (hi : i < cs.length) : (w.cell? ⟨g, i, none⟩).isSome = true ∧ w.frozen? ⟨g, i, none⟩ = false :=
  ⟨by rw [h.cell, List.getElem?_eq_getElem hi]; rfl, h.free i⟩
theorem addr_k (g i k j : Nat) : ((⟨g, i * k, none⟩ : Addr).add j) = ⟨g, i * k + j, none⟩ := Addr.add_mid _ _ _
/-- what an inserting leaves -/
def InsIs (base n : Nat) (t : List Reg) (ob : Option Nat) (w : World) (e : Ending) (w' : World) : Prop := ∃ A c, e = .returned (.slice A n c) ∧ w'.ownsRow base 67 7 (.slice A n c) n (cellsP t) ∧ w.grownBy w' ob
theorem regP_one (x : Reg) : ∀ v ∈ regP x, v.oneCell' = true := fun v hv => cellsP_one [x] v (by simpa [cellsP] using hv)
set_option maxHeartbeats 1600000 in
theorem ins_end (base n c vb : Nat) (A : Option Addr) (t : List Reg) (x : Reg) (w : World) (hn : t.length = n) (h15 : n ≤ 15) (hown : w.ownsRow base 67 7 (.slice A n c) n (cellsP t)) (hv : Blk w vb 67 (regP x)) (hb : base ≤ w.heap.size) :
    Calls Try.prog 39 #[.slice A n c, .int .i64 (n : Nat), .slice (some ⟨vb, 0, none⟩) 1 1] w (InsIs base (n + 1) (t ++ [x]) (Value.slice A n c).ownBlock w) := by
  obtain ⟨i0, hi0, hz0, hz1, hz2⟩ := info_parts info67z
  obtain ⟨v', w', hrun, h2, h3, h4, h5⟩ := run_append_own_at (P := Try.prog) w base 59 59 67 i0 _ 7 24 Try.underlying59 hi0 hz0 hz1 hz2 rfl (by decide) (.slice A n c) n (cellsP t) hown ⟨vb, 0, none⟩ 1 1 (regP x) rfl (fun j u hj => by rw [Addr.add_mid, Nat.zero_add, hv.cell]; exact hj) (regP_one x) (by simp only [maxLen]; omega) (by omega) hb
  have hfm := World.ownsRow.form h2 (by omega)
  have hcs : cellsP (t ++ [x]) = cellsP t ++ regP x := by rw [cellsP_append]; simp [cellsP]
  rw [← hcs] at h2
  have H2 := Lib.hid h2
  have H3 := Lib.hid h3
  have HR := Lib.hid hrun
  have HF := Lib.hid hfm
  have hnc : n ≤ c := by
    rcases hown.2 with ⟨h0, h1⟩ | ⟨g, cap, cur, he, _, _, h1, _, _⟩
    · omega
    · injection he with _ _ e3; subst e3; exact h1
  have hnz : (n : Int) ≤ 15 := by omega
  clear h2 h3 h4 h5 hrun hfm hcs hz0 hz1 hz2 hi0 hown hv hn
  cases A with
  | none =>
    go_enter Try.func39, Try.ntmps39
    go_wp2_with (at_builtin; refine wpList_run rfl (exec_append rfl rfl rfl HR.out) ?_)
    go_ret
    obtain ⟨g, cp, e, _, _⟩ := HF.out
    subst e
    exact ⟨_, _, rfl, H2.out, H3.out⟩
  | some ad =>
    go_enter Try.func39, Try.ntmps39
    go_wp2_with (at_builtin; refine wpList_run rfl (exec_append rfl rfl rfl HR.out) ?_)
    all_goals go_ret
    all_goals obtain ⟨g, cp, e, _, _⟩ := HF.out
    all_goals subst e
    all_goals exact ⟨_, _, rfl, H2.out, H3.out⟩
end Go.Proofs.Ytelfhpmbnficfaa
