/- What the calls of WideAlgebra answer, by lists alone. Condition: 256 bits. -/
import Derived.Test.YtmibkgdfgaiedaaDr
import Derived.Test.YtmibkgdfgaiedaaMu
import Derived.Test.YtmibkgdfgaiedaaRb
namespace Go.Proofs.Ytmibkgdfgaiedaa
open Go.RowKit
set_option linter.unusedVariables false
set_option linter.unusedSimpArgs false
theorem halvesP (P : Nat) (w : World) : Calls Try.prog 35 #[.agg (natsV .u64 (wds 8 P)).toArray] w fun e w' => e = .returned (.tuple #[.agg (natsV .u64 (wds 4 (P % 2 ^ 256))).toArray, .agg (natsV .u64 (wds 4 (P / 2 ^ 256))).toArray]) ∧ Below w.heap.size w w' := by
  have h := halves_any (P % 2 ^ 256) (P / 2 ^ 256) w (Nat.mod_lt _ (by decide))
  rw [Nat.mod_add_div] at h
  exact h
theorem DivP (P m : Nat) (w : World) (hP : P < 2 ^ 256 * 2 ^ 256) (hm : m < 2 ^ 256) (h0 : m ≠ 0) : Calls Try.prog 29 #[.agg (natsV .u64 (wds 8 P)).toArray, .agg (natsV .u64 (wds 4 m)).toArray] w fun e w' => e = .returned (.tuple #[.agg (natsV .u64 (wds 8 (P / m))).toArray, .agg (natsV .u64 (wds 4 (P % m))).toArray, .int .i64 0]) ∧ Below w.heap.size w w' := by
  have h := DivRem_any (P % 2 ^ 256) (P / 2 ^ 256) m w (Nat.mod_lt _ (by decide)) (by rw [Nat.div_lt_iff_lt_mul (by decide)]; exact hP) hm h0
  rw [Nat.mod_add_div] at h
  exact h
theorem wm4 (v : Nat) : wds 4 (v % 2 ^ 256) = wds 4 v := wds_mod 4 4 v (Nat.le_refl _)
theorem prod_lt {a b : Nat} (ha : a < 2 ^ 256) (hb : b < 2 ^ 256) : a * b < 2 ^ 256 * 2 ^ 256 := Nat.mul_lt_mul_of_lt_of_le ha (Nat.le_of_lt hb) (by decide)
/-- one call's answer: arguments, value -/
abbrev An (f : FuncId) (args : Array Value) (v : Value) : Prop := ∀ w, Calls Try.prog f args w fun e w' => e = .returned v ∧ Below w.heap.size w w'
abbrev vv (l : List Nat) : Value := .agg (natsV .u64 l).toArray
theorem back_words (a b : Nat) (ha : a < 2 ^ 256) (hb : b < 2 ^ 256) : wds 4 ((a + b) % 2 ^ 256 + 2 ^ 256 - b) = wds 4 a ∧ lt01 ((a + b) % 2 ^ 256) b = addC a b := by
  constructor
  · rw [← wm4, ← wm4 a]
    congr 1
    omega
  · unfold lt01 addC
    split <;> omega
theorem three_words (a b c : Nat) : wds 4 ((a * ((b + c) % 2 ^ 256)) % 2 ^ 256) = wds 4 (a * b % 2 ^ 256 + a * c % 2 ^ 256) := by
  rw [← wm4 (a * b % 2 ^ 256 + a * c % 2 ^ 256), ← Nat.add_mod, ← Nat.mul_add, Nat.mul_mod, Nat.mod_mod, ← Nat.mul_mod]
theorem alg1 (a b c : Nat) (ha : a < 2 ^ 256) (hb : b < 2 ^ 256) (hc : c < 2 ^ 256) : ∃ (lx lp ls l3 lw l3h lpl lph l4 l4l l4h : List Nat) (kk k3 k5 : Nat),
    lx.length = 4 ∧ lp.length = 8 ∧ ls.length = 4 ∧ lw.length = 4 ∧ l3h.length = 4 ∧ lpl.length = 4 ∧ lph.length = 4 ∧ l4l.length = 4 ∧ l4h.length = 4 ∧ lp = wds 8 (a * b) ∧ lpl = wds 4 (a * b % 2 ^ 256) ∧ lph = wds 4 (a * b / 2 ^ 256) ∧
    An 24 #[vv (wds 4 a), vv (wds 4 b)] (.tuple #[vv lx, .int .i64 (kk : Nat)]) ∧ An 24 #[vv (wds 4 b), vv (wds 4 a)] (.tuple #[vv lx, .int .i64 (kk : Nat)]) ∧ An 25 #[vv lx, vv (wds 4 b)] (.tuple #[vv (wds 4 a), .int .i64 (kk : Nat)]) ∧
    An 28 #[vv (wds 4 a), vv (wds 4 b)] (vv lp) ∧ An 28 #[vv (wds 4 b), vv (wds 4 a)] (vv lp) ∧ An 24 #[vv (wds 4 b), vv (wds 4 c)] (.tuple #[vv ls, .int .i64 (k3 : Nat)]) ∧
    An 28 #[vv (wds 4 a), vv ls] (vv l3) ∧ An 35 #[vv l3] (.tuple #[vv lw, vv l3h]) ∧ An 35 #[vv lp] (.tuple #[vv lpl, vv lph]) ∧ An 28 #[vv (wds 4 a), vv (wds 4 c)] (vv l4) ∧ An 35 #[vv l4] (.tuple #[vv l4l, vv l4h]) ∧
    An 24 #[vv lpl, vv l4l] (.tuple #[vv lw, .int .i64 (k5 : Nat)]) := by
  have hbk := back_words a b ha hb
  have hS : (b + c) % 2 ^ 256 < 2 ^ 256 := Nat.mod_lt _ (by decide)
  refine ⟨wds 4 (a + b), wds 8 (a * b), wds 4 (b + c), wds 8 (a * ((b + c) % 2 ^ 256)), wds 4 (a * ((b + c) % 2 ^ 256) % 2 ^ 256), wds 4 (a * ((b + c) % 2 ^ 256) / 2 ^ 256), wds 4 (a * b % 2 ^ 256), wds 4 (a * b / 2 ^ 256), wds 8 (a * c), wds 4 (a * c % 2 ^ 256), wds 4 (a * c / 2 ^ 256), addC a b, addC b c, addC (a * b % 2 ^ 256) (a * c % 2 ^ 256),
    wds_len _ _, wds_len _ _, wds_len _ _, wds_len _ _, wds_len _ _, wds_len _ _, wds_len _ _, wds_len _ _, wds_len _ _, rfl, rfl, rfl, fun w => Add_any a b w ha hb, fun w => ?_, fun w => ?_, fun w => Mul_any a b w ha hb, fun w => ?_, fun w => Add_any b c w hb hc, fun w => ?_, fun w => halvesP _ w, fun w => halvesP _ w, fun w => Mul_any a c w ha hc, fun w => halvesP _ w, fun w => ?_⟩
  · have h := Add_any b a w hb ha
    rw [Nat.add_comm b a, show addC b a = addC a b by unfold addC; rw [Nat.add_comm]] at h
    exact h
  · have h := Sub_any ((a + b) % 2 ^ 256) b w (Nat.mod_lt _ (by decide)) hb
    rw [wm4, hbk.1, hbk.2] at h
    exact h
  · have h := Mul_any b a w hb ha
    rw [Nat.mul_comm b a] at h
    exact h
  · have h := Mul_any a ((b + c) % 2 ^ 256) w ha hS
    rw [wm4 (b + c)] at h
    exact h
  · have h := Add_any (a * b % 2 ^ 256) (a * c % 2 ^ 256) w (Nat.mod_lt _ (by decide)) (Nat.mod_lt _ (by decide))
    rw [← three_words a b c] at h
    exact h
theorem four_math (P c q r ql qh : Nat) (hP : P < 2 ^ 256 * 2 ^ 256) (h : P = q * c + r) (hr : r < 2 ^ 256) (hql : ql = q % 2 ^ 256) (hqh : qh = q / 2 ^ 256) :
    qh * c / 2 ^ 256 = 0 ∧ (ql * c % 2 ^ 256 + r) % 2 ^ 256 = P % 2 ^ 256 ∧ ql * c / 2 ^ 256 + qh * c % 2 ^ 256 < 2 ^ 256 ∧ ql * c / 2 ^ 256 + qh * c % 2 ^ 256 + addC (ql * c % 2 ^ 256) r = P / 2 ^ 256 := by
  have e : q * c = ql * c + 2 ^ 256 * (qh * c) := by
    have := Nat.mod_add_div q (2 ^ 256)
    rw [← hql, ← hqh] at this
    rw [← this, Nat.add_mul, Nat.mul_assoc]
  rw [e] at h
  unfold addC
  clear hql hqh e
  generalize ql * c = t at *
  generalize qh * c = f at *
  subst h
  omega
theorem alg2 (a b c : Nat) (ha : a < 2 ^ 256) (hb : b < 2 ^ 256) (hc : c < 2 ^ 256) (h0 : c ≠ 0) : ∃ (lq lr lql lqh l6 ltl lth l7 lfl lhi : List Nat) (up : Nat),
    lq.length = 8 ∧ lr.length = 4 ∧ lql.length = 4 ∧ lqh.length = 4 ∧ ltl.length = 4 ∧ lth.length = 4 ∧ lfl.length = 4 ∧ lhi.length = 4 ∧ up ≤ 1 ∧
    An 29 #[vv (wds 8 (a * b)), vv (wds 4 c)] (.tuple #[vv lq, vv lr, .int .i64 0]) ∧ An 35 #[vv lq] (.tuple #[vv lql, vv lqh]) ∧ An 28 #[vv lql, vv (wds 4 c)] (vv l6) ∧ An 35 #[vv l6] (.tuple #[vv ltl, vv lth]) ∧
    An 28 #[vv lqh, vv (wds 4 c)] (vv l7) ∧ An 35 #[vv l7] (.tuple #[vv lfl, vv (zeros 4)]) ∧ An 24 #[vv ltl, vv lr] (.tuple #[vv (wds 4 (a * b % 2 ^ 256)), .int .i64 (up : Nat)]) ∧ An 24 #[vv lth, vv lfl] (.tuple #[vv lhi, .int .i64 0]) ∧
    An 24 #[vv lhi, .agg #[.int .u64 (up : Nat), .int .u64 0, .int .u64 0, .int .u64 0]] (.tuple #[vv (wds 4 (a * b / 2 ^ 256)), .int .i64 0]) ∧ An 14 #[vv lr, vv (wds 4 c)] (.int .i64 (-1)) := by
  have hP := prod_lt ha hb
  have hrc : a * b % c < c := Nat.mod_lt _ (by omega)
  have hr : a * b % c < 2 ^ 256 := by omega
  have hdm : a * b = a * b / c * c + a * b % c := by have := Nat.div_add_mod (a * b) c; rw [Nat.mul_comm c] at this; exact this.symm
  obtain ⟨m1, m2, m3, m4⟩ := four_math (a * b) c (a * b / c) (a * b % c) _ _ hP hdm hr rfl rfl
  have hql : a * b / c % 2 ^ 256 < 2 ^ 256 := Nat.mod_lt _ (by decide)
  have hqh : a * b / c / 2 ^ 256 < 2 ^ 256 := by
    rw [Nat.div_lt_iff_lt_mul (by decide)]
    exact Nat.lt_of_le_of_lt (Nat.div_le_self _ _) hP
  obtain ⟨ql, hqle⟩ : ∃ ql, ql = a * b / c % 2 ^ 256 := ⟨_, rfl⟩
  obtain ⟨qh, hqhe⟩ : ∃ qh, qh = a * b / c / 2 ^ 256 := ⟨_, rfl⟩
  rw [← hqhe] at m1 m3 m4 hqh
  rw [← hqle] at m2 m3 m4 hql
  have hup : addC (ql * c % 2 ^ 256) (a * b % c) ≤ 1 := by
    have := Nat.mod_lt (ql * c) (Nat.two_pow_pos 256)
    unfold addC; omega
  have hPW : a * b / 2 ^ 256 < 2 ^ 256 := by rw [Nat.div_lt_iff_lt_mul (by decide)]; exact hP
  obtain ⟨up, hupe⟩ : ∃ up, up = addC (ql * c % 2 ^ 256) (a * b % c) := ⟨_, rfl⟩
  rw [← hupe] at hup m4
  have hul : vv (wds 4 up) = .agg #[.int .u64 (up : Nat), .int .u64 0, .int .u64 0, .int .u64 0] := by
    have : up = 0 ∨ up = 1 := by omega
    rcases this with h | h
    · rw [h]; exact num_lit0.symm
    · rw [h]; exact num_lit1.symm
  have hqc : ql * c / 2 ^ 256 < 2 ^ 256 := by rw [Nat.div_lt_iff_lt_mul (by decide)]; exact prod_lt hql hc
  refine ⟨wds 8 (a * b / c), wds 4 (a * b % c), wds 4 ql, wds 4 qh, wds 8 (ql * c), wds 4 (ql * c % 2 ^ 256), wds 4 (ql * c / 2 ^ 256), wds 8 (qh * c), wds 4 (qh * c % 2 ^ 256), wds 4 (ql * c / 2 ^ 256 + qh * c % 2 ^ 256), up,
    wds_len _ _, wds_len _ _, wds_len _ _, wds_len _ _, wds_len _ _, wds_len _ _, wds_len _ _, wds_len _ _, hup, fun w => DivP _ c w hP hc h0, fun w => ?_, fun w => Mul_any ql c w hql hc, fun w => halvesP _ w, fun w => Mul_any qh c w hqh hc, fun w => ?_, fun w => ?_, fun w => ?_, fun w => ?_, fun w => ?_⟩
  · have h := halvesP (a * b / c) w
    rw [← hqle, ← hqhe] at h
    exact h
  · have h := halvesP (qh * c) w
    rw [m1, num_zero] at h
    exact h
  · have h := Add_any (ql * c % 2 ^ 256) (a * b % c) w (Nat.mod_lt _ (by decide)) hr
    rw [← hupe, ← wm4 (ql * c % 2 ^ 256 + a * b % c), m2] at h
    exact h
  · have h := Add_any (ql * c / 2 ^ 256) (qh * c % 2 ^ 256) w hqc (Nat.mod_lt _ (by decide))
    rw [show addC (ql * c / 2 ^ 256) (qh * c % 2 ^ 256) = 0 from Nat.div_eq_of_lt m3] at h
    exact h
  · have h := Add_any (ql * c / 2 ^ 256 + qh * c % 2 ^ 256) up w m3 (by omega)
    rw [show addC (ql * c / 2 ^ 256 + qh * c % 2 ^ 256) up = 0 from Nat.div_eq_of_lt (by rw [m4]; exact hPW), m4] at h
    rw [← hul]
    exact h
  · have h := Cmp_any (a * b % c) c w hr hc
    rw [cmpZ_lt hrc] at h
    exact h
end Go.Proofs.Ytmibkgdfgaiedaa
