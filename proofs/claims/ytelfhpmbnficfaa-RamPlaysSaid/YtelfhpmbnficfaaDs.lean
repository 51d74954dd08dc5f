/- The document's comparison of two lists of regions. No condition. -/
import Derived.Test.YtelfhpmbnficfaaDr
import Derived.Laws.StructEq
namespace Go.Proofs.Ytelfhpmbnficfaa
open Go.RowKit
set_option linter.unusedVariables false
set_option maxRecDepth 100000
set_option linter.unusedSimpArgs false
theorem eqIn (x : Reg) (w : World) : (Op.equalIn 10000 34 (.agg (regD x).toArray) (.agg (regD x).toArray)).run Try.prog w = .ok true w := by
  obtain ⟨b, n, rd, wrt, ex, sc⟩ := x
  have hS : Try.prog.underlying 34 = some (.struct (Try.prog.fieldsOf 34)) := by kernel_rfl
  have hp : Try.prog.stoodInHeld 34 = false := by kernel_rfl
  rw [show (10000 : Nat) = 9999 + 1 from rfl, run_equalIn_agg w 9999 34 _ _ hS hp]
  simp only [Program.fieldsOf, Try.underlying34, regD]
  go_simp
theorem eqReg (x : Reg) (w : World) : (binOp .eql 34 (.agg (regD x).toArray) (.agg (regD x).toArray)).run Try.prog w = .ok (.bool true) w := by rw [run_eql_struct, eqIn]; rfl
theorem neqReg (x : Reg) (w : World) : (binOp .neq 34 (.agg (regD x).toArray) (.agg (regD x).toArray)).run Try.prog w = .ok (.bool false) w := by rw [run_neq_struct, eqIn]; rfl
theorem grdReg : Try.prog.eqGuardType Try.prog.depth 34 = false := by kernel_rfl
theorem exec_eqs {w : World} {o : Oper} {a : Act} {bo : BinOp} {ty : TypeId} {x y : Operand} {u v : Array Value} {c : Bool} (ho : o.op = .binOp bo ty x y ty) (hx : a.eval x = .agg u) (hy : a.eval y = .agg v) (hm : Try.prog.eqGuardType Try.prog.depth ty = false) (hrun : (binOp bo ty (.agg u) (.agg v)).run Try.prog w = .ok (.bool c) w) : (execOp a.eval o).run Try.prog w = .ok (.value (.bool c)) w := by
  unfold execOp
  simp only [ho, hx, hy]
  simp [run_eqGuard_agg (hm := hm), hrun]
/-- a region of a list -/
theorem RIn.reg {w : World} {A : Option Addr} {n c : Nat} {t : List Reg} (h : RIn w A n c t) (k : Nat) (x : Reg) (hx : t[k]? = some x) : ∃ g o, A = some ⟨g, o, none⟩ ∧ w.rangeAt g (o + k * 6) (regD x) := by
  have hk := len_of hx
  rw [h.1] at hk
  obtain ⟨g, o, e, hr⟩ := h.2.2.resolve_left (by omega)
  refine ⟨g, o, e, fun j v hj => ?_⟩
  have hj6 : j < 6 := by have := (List.getElem?_eq_some_iff.1 hj).1; simpa [regD] using this
  rw [Nat.add_assoc]
  exact hr (k * 6 + j) v (by rw [cellsD_get t k j x hx hj6]; exact hj)
set_option maxHeartbeats 1600000 in
theorem same_regs (w : World) (A B : Option Addr) (n c d : Nat) (t : List Reg) (h1 : RIn w A n c t) (h2 : RIn w B n d t) (hn : n ≤ 16) :
    Calls Try.prog 13 #[.slice A n c, .slice B n d] w fun e w' => e = .returned (.bool true) ∧ Below w.heap.size w w' := by
  have H1 := Lib.hid h1
  have H2 := Lib.hid h2
  clear h1 h2
  go_enter Try.func13, Try.ntmps13
  go_wp2
  go_loopw [5] (fun v5 wr => ∃ k : Nat, v5 = .int .i64 (k : Nat) ∧ k ≤ n ∧ Gr w wr) (fun v5 _ => n - (intOf v5).toNat)
  case atStart => exact ⟨0, rfl, Nat.zero_le _, Gr.refl _⟩
  case round =>
    obtain ⟨k, rfl, hk, hgr⟩ := hrel
    have HG := Lib.hid hgr
    clear hgr
    by_cases hkn : k < n
    · have hkI : (k : Int) < (n : Int) := by omega
      obtain ⟨x, hx⟩ := ent (t := t) (j := k) (by rw [H1.out.1]; exact hkn)
      obtain ⟨g, o, hA, hr⟩ := (H1.out.gr HG.out).reg k x hx
      obtain ⟨g2, o2, hB, hr2⟩ := (H2.out.gr HG.out).reg k x hx
      subst hA hB
      have HR := Lib.hid hr
      have HR2 := Lib.hid hr2
      clear hr hr2 hx
      go_upto_region 6 with (fail)
      refine wp_region_L (fun w_ => Gr wr w_) [] [] (by kernel_rfl) (Gr.drew _) ?_
      refine wpAnyL_take (oi := _) (v := _) (fun _ _ hS_ hb_ => Gr.trans hS_ hb_) (i := 0) rfl (by kernel_rfl) (fun _ _ _ h => h) (pureG (by rfl) (by intro w; go_simp; first | done | with_reducible rfl)) ?_
      try simp only [Act.put, List.getElem_toArray, List.getElem_cons_succ, List.getElem_cons_zero, List.setIfInBounds_toArray, List.set_cons_zero, List.set_cons_succ]
      refine wpAnyL_take (oi := _) (v := _) (fun _ _ hS_ hb_ => Gr.trans hS_ hb_) (i := 1) rfl (by kernel_rfl) (fun _ _ _ h => h) (pureG (by rfl) (by intro w; go_simp; first | done | with_reducible rfl)) ?_
      try simp only [Act.put, List.getElem_toArray, List.getElem_cons_succ, List.getElem_cons_zero, List.setIfInBounds_toArray, List.set_cons_zero, List.set_cons_succ]
      refine wpAnyL_take (oi := _) (v := _) (fun _ _ hS_ hb_ => Gr.trans hS_ hb_) (i := 2) rfl (by kernel_rfl) (fun _ _ _ h => h) (pureG (by rfl) (by intro w; go_simp; first | done | with_reducible rfl)) ?_
      try simp only [Act.put, List.getElem_toArray, List.getElem_cons_succ, List.getElem_cons_zero, List.setIfInBounds_toArray, List.set_cons_zero, List.set_cons_succ]
      refine wpAnyL_take (oi := _) (v := _) (fun _ _ hS_ hb_ => Gr.trans hS_ hb_) (i := 3) rfl (by kernel_rfl) (fun _ _ _ h => h) (loadG (by rfl) 34 (.tmp 19) rfl (g) (o + k * 6) rfl (regD x) _ (fun w_ hS_ => grange (HR.out) hS_) Try.underlying34 rfl (by rw [info34]; rfl)) ?_
      try simp only [Act.put, List.getElem_toArray, List.getElem_cons_succ, List.getElem_cons_zero, List.setIfInBounds_toArray, List.set_cons_zero, List.set_cons_succ]
      refine wpAnyL_take (oi := _) (v := _) (fun _ _ hS_ hb_ => Gr.trans hS_ hb_) (i := 4) rfl (by kernel_rfl) (fun _ _ _ h => h) (pureG (by rfl) (by intro w; go_simp; first | done | with_reducible rfl)) ?_
      try simp only [Act.put, List.getElem_toArray, List.getElem_cons_succ, List.getElem_cons_zero, List.setIfInBounds_toArray, List.set_cons_zero, List.set_cons_succ]
      refine wpAnyL_take (oi := _) (v := _) (fun _ _ hS_ hb_ => Gr.trans hS_ hb_) (i := 5) rfl (by kernel_rfl) (fun _ _ _ h => h) (pureG (by rfl) (by intro w; go_simp; first | done | with_reducible rfl)) ?_
      try simp only [Act.put, List.getElem_toArray, List.getElem_cons_succ, List.getElem_cons_zero, List.setIfInBounds_toArray, List.set_cons_zero, List.set_cons_succ]
      refine wpAnyL_take (oi := _) (v := _) (fun _ _ hS_ hb_ => Gr.trans hS_ hb_) (i := 6) rfl (by kernel_rfl) (fun _ _ _ h => h) (pureG (by rfl) (by intro w; go_simp; first | done | with_reducible rfl)) ?_
      try simp only [Act.put, List.getElem_toArray, List.getElem_cons_succ, List.getElem_cons_zero, List.setIfInBounds_toArray, List.set_cons_zero, List.set_cons_succ]
      refine wpAnyL_take (oi := _) (v := _) (fun _ _ hS_ hb_ => Gr.trans hS_ hb_) (i := 7) rfl (by kernel_rfl) (fun _ _ _ h => h) (loadG (by rfl) 34 (.tmp 23) rfl (g2) (o2 + k * 6) rfl (regD x) _ (fun w_ hS_ => grange (HR2.out) hS_) Try.underlying34 rfl (by rw [info34]; rfl)) ?_
      try simp only [Act.put, List.getElem_toArray, List.getElem_cons_succ, List.getElem_cons_zero, List.setIfInBounds_toArray, List.set_cons_zero, List.set_cons_succ]
      refine wpAnyL_take (oi := _) (v := _) (fun _ _ hS_ hb_ => Gr.trans hS_ hb_) (i := 8) rfl (by kernel_rfl) (fun _ _ _ h => h) (pureG (by rfl) (fun w_ => exec_eqs rfl rfl rfl grdReg (neqReg x w_))) ?_
      try simp only [Act.put, List.getElem_toArray, List.getElem_cons_succ, List.getElem_cons_zero, List.setIfInBounds_toArray, List.set_cons_zero, List.set_cons_succ]
      refine wpAnyL_done (by kernel_rfl) (fun WA hWA => ?_) _
      have HGA := Lib.hid (show Gr w WA from HG.out.trans ((Gr.drew wr).trans hWA))
      clear hWA
      go_wp2_with fail
      go_roundw
      case rel => exact ⟨k + 1, by go_num, hkn, HGA.out⟩
      case measure => simp [intOf]; omega
    · obtain rfl : k = n := by omega
      clear hkn
      go_wp2_with fail
      go_ret
      exact ⟨rfl, HG.out⟩
end Go.Proofs.Ytelfhpmbnficfaa
