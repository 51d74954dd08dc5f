/- Is a block blank? No condition. -/
import Derived.Test.YtlgpaglkhgomiaaMr
import Derived.Test.YtlgpaglkhgomiaaFa
import Derived.Outline
namespace Go.Proofs.Ytlgpaglkhgomiaa
open Go.RowKit
set_option linter.unusedVariables false
set_option maxRecDepth 100000
set_option linter.unusedSimpArgs false
theorem infoB : (Try.prog.info? 70).map (·.size) = some 512 := by kernel_rfl
theorem built0 : Try.prog.built 70 [] = some (natsV .u8 zB).toArray := by kernel_rfl
theorem sizeB {l : List Nat} (h : IsB l) : (natsV .u8 l).length = 512 := by rw [natsV_length]; exact h.1
theorem infoBl {l : List Nat} (h : IsB l) : (Try.prog.info? 70).map (·.size) = some (natsV .u8 l).length := by rw [infoB, sizeB h]
theorem eqlB (w : World) (a b : List Nat) (ha : IsB a) (hb : IsB b) : (binOp .eql 70 (arrV a) (arrV b)).run Try.prog w = .ok (.bool (decide (a = b))) w := by
  obtain ⟨i0, hi, hz0, hz1, hz2⟩ := info_parts info5
  exact eql_nats w 70 5 .u8 512 i0 Try.underlying70 Try.underlying5 hi hz1 (by kernel_rfl) a b ha.1 hb.1
section
variable {w : World} {ops : Array Oper} {rest : List Oper} {o : Oper} {a : Act} {Q : Exit → Act → World → Prop}
/-- a block is loaded whole -/
theorem ldB (hgd : o.guard = none) (x : Operand) (ho : o.op = .load 70 x) (b off : Nat) (hx : a.eval x = .pointer (some ⟨b, off, none⟩)) (l : List Nat) (hl : IsB l) (hr : w.rangeAt b off (natsV .u8 l))
    (h : wpList Try.prog ops Q rest (a.put o.dst (arrV l)) w) : wpList Try.prog ops Q (o :: rest) a w := by
  refine wpList_plain hgd fun K hK => ?_
  unfold Oper.wp execOp
  simp only [ho, hx, Instr.loadAt, Instr.sureAddr, Sem.run_bind, Sem.run_pure, Result.andThen_ok, run_loadVar_mid w b off 70 (natsV .u8 l) _ hr Try.underlying70 rfl (infoBl hl)]
  exact hK _ _ h
theorem eqB (hgd : o.guard = none) (x y : Operand) (ho : o.op = .binOp .eql 70 x y 70) (l m : List Nat) (hl : IsB l) (hm : IsB m) (hx : a.eval x = arrV l) (hy : a.eval y = arrV m) (b : Bool) (hb : decide (l = m) = b)
    (h : wpList Try.prog ops Q rest (a.put o.dst (.bool b)) w) : wpList Try.prog ops Q (o :: rest) a w := by
  refine wpList_plain hgd fun K hK => ?_
  have hg : Try.prog.eqGuardType Try.prog.depth 70 = false := by kernel_rfl
  have he := eqlB w l m hl hm
  unfold arrV at he hx hy
  unfold Oper.wp execOp
  simp only [ho, hx, hy]
  simp only [run_eqGuard_agg (hm := hg), he, hb, Sem.run_bind, Result.andThen_ok]
  exact hK _ _ h
end
theorem zc : Value.agg Try.zeroCells70 = arrV zB := by kernel_rfl
theorem range_new (w : World) (t : TypeId) (cs : List Value) : (w.alloc (.cells cs.toArray t)).rangeAt w.heap.size 0 cs := by
  intro j v hv
  rw [(Blk.new w t cs).cell, Nat.zero_add]; exact hv
/-- new memory at most, and this answer -/
def NewIs (v : Value) (w : World) (e : Ending) (w' : World) : Prop := e = .returned v ∧ Below w.heap.size w w'
set_option maxHeartbeats 400000 in
theorem blank_any (l : List Nat) (hl : IsB l) (w : World) :
    Calls Try.prog 30 #[arrV l] w (NewIs (.bool (decide (l = zB))) w) := by
  have HR := Lib.hid (range_new w 70 (natsV .u8 l))
  obtain ⟨b, hb⟩ : ∃ b, decide (l = zB) = b := ⟨_, rfl⟩
  rw [hb]
  have HE := Lib.hid hb
  have ZC := zc
  clear hb
  unfold NewIs
  unfold arrV
  go_enter Try.func30, Try.ntmps30
  go_wp2_with (first | (refine eqB rfl (.tmp 3) (.tmp 4) rfl l zB hl zB_is rfl ZC b HE.out ?_) | (refine ldB rfl (.tmp 1) rfl w.heap.size 0 rfl l hl HR.out ?_) | fail)
  go_ret
  exact ⟨rfl, (Below.refl _ _).alloc (Nat.le_refl _) _⟩
theorem new1_any (k : Int) (l : List Nat) (hl : IsB l) (w : World) :
    Calls Try.prog 29 #[.int .i64 k, arrV l] w (NewIs (.bool (decide (l = zB))) w) := by
  have HR := Lib.hid (range_new w 70 (natsV .u8 l))
  have HB := Lib.hid (blank_any l hl (w.alloc (.cells (natsV .u8 l).toArray 70)))
  obtain ⟨b, hb⟩ : ∃ b, decide (l = zB) = b := ⟨_, rfl⟩
  rw [hb] at HB
  rw [hb]
  clear hb
  unfold NewIs at *
  unfold arrV
  go_enter Try.func29, Try.ntmps29
  go_wp2_with (first | (refine ldB rfl (.tmp 3) rfl w.heap.size 0 rfl l hl HR.out ?_) | (go_at_call 30; refine HB.out.mono ?_; rintro e w' ⟨rfl, hb⟩))
  go_ret
  exact ⟨rfl, ((Below.refl _ _).alloc (Nat.le_refl _) _).trans (hb.mono (by simp))⟩
end Go.Proofs.Ytlgpaglkhgomiaa
