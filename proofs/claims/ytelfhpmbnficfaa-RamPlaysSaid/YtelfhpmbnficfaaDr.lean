/- The document's lists of regions: appends. No condition. -/
import Derived.Test.YtelfhpmbnficfaaPa
namespace Go.Proofs.Ytelfhpmbnficfaa
open Go.RowKit
set_option linter.unusedVariables false
set_option maxRecDepth 100000
set_option linter.unusedSimpArgs false
/-- a slice that leads to these regions -/
def RIn (w : World) (A : Option Addr) (n c : Nat) (l : List Reg) : Prop := l.length = n ∧ (A = none → n = 0 ∧ c = 0) ∧ (n = 0 ∨ ∃ g o, A = some ⟨g, o, none⟩ ∧ w.rangeAt g o (cellsD l))
theorem RIn.gr {w w' : World} {A : Option Addr} {n c : Nat} {l : List Reg} (h : RIn w A n c l) (hb : Gr w w') : RIn w' A n c l := by
  refine ⟨h.1, h.2.1, ?_⟩
  rcases h.2.2 with h0 | ⟨g, o, e, hr⟩
  · exact .inl h0
  · exact .inr ⟨g, o, e, grange hr hb⟩
theorem run_append_regs (w : World) (ty : TypeId) (base n m c cv : Nat) (V A : Option Addr) (xs l : List Reg) (hn : n ≤ 16) (hm : m ≤ 16) (hown : w.ownsRow base 34 6 (.slice V n cv) n (cellsD xs)) (hin : RIn w A m c l) (hb : base ≤ w.heap.size) :
    ∃ V' c' w', (Builtin.append_ #[27, 27] ty #[.slice V n cv, .slice A m c]).run Try.prog w = .ok (.slice V' (n + m) c') w' ∧ w'.ownsRow base 34 6 (.slice V' (n + m) c') (n + m) (cellsD (xs ++ l)) ∧ w.grownBy w' (Value.slice V n cv).ownBlock := by
  obtain ⟨i0, hi0, hz0, hz1, hz2⟩ := info_parts info34z
  obtain ⟨hl, hnil, hrow⟩ := hin
  cases A with
  | none =>
    obtain ⟨rfl, rfl⟩ := hnil rfl
    obtain rfl : l = [] := List.eq_nil_of_length_eq_zero hl
    exact ⟨V, cv, w, run_append_owned_none (P := Try.prog) w base 27 ty 34 i0 6 Try.underlying27 hi0 (.slice V n cv) n (cellsD xs) hown, by simpa using hown, grown_refl _ _⟩
  | some ad =>
    obtain ⟨v', w', hrun, h2, h3, h4, h5⟩ := run_append_own_at (P := Try.prog) w base 27 ty 34 i0 _ 6 24 Try.underlying27 hi0 hz0 hz1 hz2 rfl (by decide) (.slice V n cv) n (cellsD xs) hown ad m c (cellsD l) (by rw [cellsD_length, hl]) (fun j u hj => by
      have hj6 := (List.getElem?_eq_some_iff.1 hj).1
      rw [cellsD_length, hl] at hj6
      obtain ⟨g, o, e, hr⟩ := hrow.resolve_left (by omega)
      injection e with e
      subst e
      rw [Addr.add_mid]
      exact hr j u hj) (cellsD_one l) (by simp only [maxLen]; omega) (by omega) hb
    have hf : ∃ V' c', v' = .slice V' (n + m) c' := by
      rcases h2.2 with ⟨e1, e2⟩ | ⟨g, cap, cur, e1, _⟩
      · exact ⟨none, 0, by rw [e1, e2]⟩
      · exact ⟨_, _, e1⟩
    obtain ⟨V', c', rfl⟩ := hf
    rw [← cellsD_append] at h2
    exact ⟨V', c', w', hrun, h2, h3⟩
theorem wpList_append_regs {ops : Array Oper} {rest : List Oper} {o : Oper} {a : Act} {Q : Exit → Act → World → Prop} (w : World) (hgd : o.guard = none) (s x : Operand)
    (ho : o.op = .call { callee := .builtin .append, args := #[s, x], argTypes := #[27, 27] }) (base n m c cv : Nat) (V A : Option Addr) (xs l : List Reg) (hs : a.eval s = .slice V n cv) (hx : a.eval x = .slice A m c) (hn : n ≤ 16) (hm : m ≤ 16) (hown : w.ownsRow base 34 6 (.slice V n cv) n (cellsD xs)) (hin : RIn w A m c l) (hb : base ≤ w.heap.size)
    (h : ∀ V' c' w', w'.ownsRow base 34 6 (.slice V' (n + m) c') (n + m) (cellsD (xs ++ l)) → w.grownBy w' (Value.slice V n cv).ownBlock → wpList Try.prog ops Q rest (a.put o.dst (.slice V' (n + m) c')) w') : wpList Try.prog ops Q (o :: rest) a w := by
  obtain ⟨V', c', w', hrun, h1, h2⟩ := run_append_regs w o.type base n m c cv V A xs l hn hm hown hin hb
  exact wpList_run hgd (exec_append ho hs hx hrun) (h V' c' w' h1 h2)
theorem gr_own {w0 w w' : World} {e size n : Nat} {v : Value} {xs : List Value} (h : Gr w0 w) (ho : w.ownsRow w0.heap.size e size v n xs) (hg : w.grownBy w' v.ownBlock) : Gr w0 w' :=
  ⟨hg.os.trans h.os, hg.tape.trans h.tape, hg.output.trans h.output, Nat.le_trans h.size hg.size, fun j hj => (hg.block j (Nat.lt_of_lt_of_le hj h.size) (fun e => by
    obtain ⟨_, _, hq⟩ := own_is ho e.symm
    omega)).trans (h.block j hj)⟩
theorem own_mono {w : World} {B base e size n : Nat} {v : Value} {xs : List Value} (h : w.ownsRow B e size v n xs) (hb : base ≤ B) : w.ownsRow base e size v n xs := by
  refine ⟨h.1, ?_⟩
  rcases h.2 with h2 | ⟨g, cap, cur, rfl, hbg, rest⟩
  · exact .inl h2
  · exact .inr ⟨g, cap, cur, rfl, by omega, rest⟩
section
variable {w : World} {base a : Nat} {m : List Nat} {t : List Reg} {A : Option Addr} {c : Nat}
/-- the head and the tail of the document's table, as slices -/
theorem RAt.head (h : RAt w base a m t A c) (i : Nat) (hi : i ≤ t.length) : RIn w A i c (t.take i) := by
  refine ⟨by rw [List.length_take]; omega, fun e => ?_, ?_⟩
  · rcases h.row.2 with ⟨he, h0⟩ | ⟨g, cap, cur, he, _⟩
    · injection he with _ _ e3
      exact ⟨by omega, e3⟩
    · injection he with e1; rw [e] at e1; cases e1
  · by_cases h0 : i = 0
    · exact .inl h0
    · rcases h.row.2 with ⟨_, h1⟩ | ⟨g, cap, cur, he, _⟩
      · omega
      · injection he with e1
        refine .inr ⟨g, 0, e1, fun j v hj => ?_⟩
        have hr := h.row
        rw [e1] at hr
        have hjl := (List.getElem?_eq_some_iff.1 hj).1
        rw [cellsD_length, List.length_take, Nat.min_eq_left hi] at hjl
        rw [Nat.zero_add, hr.cellAt j (by omega)]
        rw [← cellsD_take, List.getElem?_take] at hj
        by_cases hji : j < i * 6
        · rwa [if_pos hji] at hj
        · rw [if_neg hji] at hj; exact absurd hj (by simp)
theorem RAt.tail (h : RAt w base a m t A c) (i : Nat) (hi : i < t.length) : ∃ g, A = some ⟨g, 0, none⟩ ∧ RIn w (some ⟨g, i * 6, none⟩) (t.length - i) (c - i) (t.drop i) := by
  rcases h.row.2 with ⟨_, h1⟩ | ⟨g, cap, cur, he, _⟩
  · omega
  · injection he with e1
    refine ⟨g, e1, by rw [List.length_drop], (fun e => by cases e), .inr ⟨g, i * 6, rfl, fun j v hj => ?_⟩⟩
    have hr := h.row
    rw [e1] at hr
    have hjl := (List.getElem?_eq_some_iff.1 hj).1
    rw [cellsD_length, List.length_drop] at hjl
    rw [hr.cellAt (i * 6 + j) (by omega)]
    rw [← cellsD_drop, List.getElem?_drop] at hj
    exact hj
end
theorem RAt.tail2 {w : World} {base a : Nat} {m : List Nat} {t : List Reg} {g c : Nat} (h : RAt w base a m t (some ⟨g, 0, none⟩) c) (i : Nat) (hi : i ≤ t.length) : RIn w (if c = i then some ⟨g, 0, none⟩ else some ⟨g, i * 6, none⟩) (t.length - i) (c - i) (t.drop i) ∧ t.length ≤ c := by
  have hc : t.length ≤ c := by
    rcases h.row.2 with ⟨he, h1⟩ | ⟨g', cap, cur, he, _, _, h3, _⟩
    · cases he
    · injection he with _ _ e3; omega
  refine ⟨?_, hc⟩
  by_cases he : i = t.length
  · refine ⟨by rw [List.length_drop], (fun e => by split at e <;> cases e), .inl (by omega)⟩
  · obtain ⟨g', e, hr⟩ := h.tail i (by omega)
    injection e with e
    injection e with e
    subst e
    rw [if_neg (by omega)]
    exact hr
theorem RAt.tail0 {w : World} {base a : Nat} {m : List Nat} {t : List Reg} {c : Nat} (h : RAt w base a m t none c) : t = [] ∧ c = 0 := by
  rcases h.row.2 with ⟨he, h1⟩ | ⟨g', cap, cur, he, _⟩
  · injection he with _ _ e3; exact ⟨List.eq_nil_of_length_eq_zero h1, e3⟩
  · injection he with e1; cases e1
/-- the document's method: its answer, its bytes, its table; nothing else turns -/
def DDone (base a : Nat) (v : Value) (m : List Nat) (t : List Reg) (w : World) (e : Ending) (w' : World) : Prop := e = .returned v ∧ (∃ A c, RAt w' base a m t A c) ∧ FrT base tyD w w'
theorem DDone.same {base a : Nat} {m : List Nat} {t : List Reg} {A : Option Addr} {c : Nat} {w w' : World} {v : Value} (hp : RAt w base a m t A c) (hb : Below w.heap.size w w') : DDone base a v m t w (.returned v) w' := ⟨rfl, ⟨A, c, hp.bel hb⟩, FrT.bel hb⟩
/-- a new list becomes the table -/
theorem DDone.put {base a : Nat} {m : List Nat} {t t' : List Reg} {A : Option Addr} {c : Nat} {w w3 : World} {v : Value} {A3 : Option Addr} {c3 n : Nat} (hp : RAt w base a m t A c) (km : MOk m) (hba : base ≤ a) (hbw : base ≤ w.heap.size) (hg : Gr w w3) (hn : t'.length = n) (hrow : w3.ownsRow w.heap.size 34 6 (.slice A3 n c3) n (cellsD t')) :
    DDone base a v m t' w (.returned v) (w3.setCell ⟨a, 65536, none⟩ (.slice A3 n c3)) := by
  subst hn
  have hb := (hp.bel hg).blk
  refine ⟨rfl, ⟨A3, c3, ⟨?_, own_mono (own_grown hrow (grown_setCell w3 ⟨a, 65536, none⟩ _) (fun q hq e => ?_)) hbw⟩⟩, (FrT.bel hg).trans (FrT.grown hb hba (by decide) (grown_setCell w3 ⟨a, 65536, none⟩ _))⟩
  · have := hb.set 65536 (.slice A3 t'.length c3)
    rwa [List.set_append_right _ _ (by rw [natsV_length, km.ln]; omega), natsV_length, km.ln] at this
  · obtain ⟨sp, hbq, _⟩ := own_is hrow hq
    injection e with e
    exact blk_ne hb hbq (by decide) e
end Go.Proofs.Ytelfhpmbnficfaa
