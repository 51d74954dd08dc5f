/- Lists of 64-bit numbers in memory. No condition. -/
import Derived.Test.YtbabpmncdphnjaaOw
import Derived.Test.YtbabpmncdphnjaaGq
namespace Go.Proofs.Ytbabpmncdphnjaa
open Go.RowKit
set_option linter.unusedVariables false
set_option maxRecDepth 100000

abbrev wordsV (l : List Nat) : List Value := natsV .u64 l
theorem info39 : (Try.prog.info? 39).map (fun i => (i.zero, i.size, i.bytes)) = some (some (.int .u64 0), 1, 8) := by kernel_rfl
/-- A slice's value leads to these numbers. -/
def WIn (w : World) (a : Option Addr) (n c : Nat) (l : List Nat) : Prop :=
  l.length = n ∧ n ≤ c ∧ c ≤ maxLen ∧ (∀ x ∈ l, x < 18446744073709551616) ∧ n ≤ 17592186044416 ∧ (a = none → c = 0) ∧ (n = 0 ∨ ∃ b off, a = some ⟨b, off, none⟩ ∧ ∀ i, i < n → w.cell? ⟨b, off + i, none⟩ = some (.int .u64 (l.getD i 0 : Nat)))
theorem WIn.below {w w' : World} {a : Option Addr} {n c : Nat} {l : List Nat} (h : WIn w a n c l) (hb : Below w.heap.size w w') : WIn w' a n c l := by
  obtain ⟨h1, h2, h3, h4, h5, h6, h7⟩ := h
  refine ⟨h1, h2, h3, h4, h5, h6, ?_⟩
  rcases h7 with h7 | ⟨b, off, rfl, hc⟩
  · exact .inl h7
  · exact .inr ⟨b, off, rfl, fun i hi => (hb.cell (World.block_lt_of_cell? w _ (hc i hi))).trans (hc i hi)⟩
theorem getD_ltw {l : List Nat} (h : ∀ x ∈ l, x < 18446744073709551616) (k : Nat) : l.getD k 0 < 18446744073709551616 := by
  by_cases hk : k < l.length
  · rw [List.getD_eq_getElem?_getD, List.getElem?_eq_getElem hk]; exact h _ (List.getElem_mem hk)
  · rw [List.getD_eq_getElem?_getD, List.getElem?_eq_none (by omega)]; decide
theorem ownw_cells {w : World} {B g n cap : Nat} {l : List Nat} (h : w.ownsRow B 39 1 (.slice (some ⟨g, 0, none⟩) n cap) n (wordsV l)) : l.length = n ∧ ∀ i, i < n → w.cell? ⟨g, 0 + i, none⟩ = some (.int .u64 (l.getD i 0 : Nat)) := by
  have hl : l.length = n := by have := h.1; simpa [natsV] using this
  refine ⟨hl, fun i hi => ?_⟩
  have := h.cellAt i (by omega)
  rw [Nat.zero_add, this]
  exact natsV_get .u64 l i (by omega)
theorem ownw_in {w : World} {base n : Nat} {v : Value} {l : List Nat} (h : w.ownsRow base 39 1 v n (wordsV l)) (hl : ∀ x ∈ l, x < 18446744073709551616) (hn : n ≤ 17592186044416) :
    ∃ a c, v = .slice a n c ∧ WIn w a n c l ∧ l.length = n := by
  have hlen : l.length = n := by have := h.1; simpa [natsV] using this
  rcases h.2 with ⟨rfl, rfl⟩ | ⟨g, cap, cur, rfl, hbg, hg, h1, h2, rest⟩
  · exact ⟨none, 0, rfl, ⟨hlen, Nat.le_refl _, Nat.zero_le _, hl, hn, fun _ => rfl, .inl rfl⟩, hlen⟩
  · exact ⟨some ⟨g, 0, none⟩, cap, rfl, ⟨hlen, h1, h2, hl, hn, fun h => (by cases h), .inr ⟨g, 0, rfl, (ownw_cells h).2⟩⟩, hlen⟩
theorem wordsV_append (a b : List Nat) : wordsV (a ++ b) = wordsV a ++ wordsV b := natsV_append _ a b
theorem litw (w : World) (l : List Nat) (hn : l.length ≤ 1000) : (w.alloc (.cells (wordsV l).toArray 39)).ownsRow w.heap.size 39 1 (.slice (some ⟨w.heap.size, 0, none⟩) l.length l.length) l.length (wordsV l) :=
  World.ownsRow_lit (base := w.heap.size) (e := 39) (size := 1) w (wordsV l).toArray l.length (Nat.le_refl _) (by simp only [maxLen]; omega) (by simp [natsV])
section
variable {w : World} {ops : Array Oper} {rest : List Oper} {o : Oper} {a : Act} {Q : Exit → Act → World → Prop}
theorem run_append_words (W : World) (base : Nat) (ty : TypeId) (v : Value) (n : Nat) (xs : List Nat) (hown : W.ownsRow base 39 1 v n (wordsV xs)) (A : Option Addr) (m c : Nat) (l : List Nat) (hr : WIn W A m c l) (hb : n + m ≤ 17592186044416) (hbase : base ≤ W.heap.size) :
    ∃ v' w', (Builtin.append_ #[47, 47] ty #[v, .slice A m c]).run Try.prog W = .ok v' w' ∧ w'.ownsRow base 39 1 v' (n + m) (wordsV (xs ++ l)) ∧ W.grownBy w' v.ownBlock := by
  obtain ⟨i0, hi0, hz0, hz1, hz2⟩ := info_parts info39
  obtain ⟨hl, h1, h2, hlt, hm, hnil, hrow⟩ := hr
  rcases A with _ | ad
  · have := hnil rfl
    obtain rfl : m = 0 := by omega
    subst this
    obtain rfl : l = [] := List.eq_nil_of_length_eq_zero hl
    have hrun := run_append_owned_none (P := Try.prog) W base 47 ty 39 i0 1 Try.underlying47 hi0 v n (wordsV xs) hown
    exact ⟨v, W, hrun, by simpa using hown, ⟨rfl, rfl, rfl, Nat.le_refl _, fun _ _ _ => rfl⟩⟩
  · have hone : ∀ u ∈ wordsV l, u.oneCell' = true := natsV_one .u64 l
    have hcs : ∀ j u, (wordsV l)[j]? = some u → W.cell? (ad.add j) = some u := by
      intro j u hu
      have hj : j < l.length := by
        rcases Nat.lt_or_ge j l.length with h | h
        · exact h
        · rw [List.getElem?_eq_none (by simpa [natsV] using h)] at hu; cases hu
      obtain ⟨b', off, hA, hc⟩ := hrow.resolve_left (by omega)
      injection hA with hA; subst hA
      rw [Addr.add_mid, hc j (by omega), ← hu]
      exact (natsV_get .u64 l j hj).symm
    obtain ⟨v', w', hrun, h2, h3, h4, h5⟩ := run_append_own_at (P := Try.prog) W base 47 ty 39 i0 (.int .u64 0) 1 8 Try.underlying47 hi0 hz0 hz1 hz2 rfl (by decide) v n (wordsV xs) hown ad m c (wordsV l) (by simpa [natsV] using hl) hcs hone (by simp only [maxLen]; omega) (by omega) hbase
    exact ⟨v', w', hrun, by rw [wordsV_append]; exact h2, h3⟩
theorem wpOp_append_words {i : Nat} {oi : Oper} {W : World} {K : Act → World → Prop} (hi : ops[i]? = some oi) (hw : Region.wanted oi (yielded ops a.tmps) = true) (s x : Operand)
    (ho : oi.op = .call { callee := .builtin .append, args := #[s, x], argTypes := #[47, 47] })
    (base : Nat) (v : Value) (n : Nat) (xs : List Nat) (hs : a.eval s = v) (hown : W.ownsRow base 39 1 v n (wordsV xs))
    (A : Option Addr) (m c : Nat) (l : List Nat) (hx : a.eval x = .slice A m c) (hr : WIn W A m c l) (hb : n + m ≤ 17592186044416) (hbase : base ≤ W.heap.size)
    (h : ∀ v' w', w'.ownsRow base 39 1 v' (n + m) (wordsV (xs ++ l)) → W.grownBy w' v.ownBlock → K (a.put oi.dst v') w') : wpOp Try.prog ops Q i K a W := by
  obtain ⟨v', w', hrun, h1, h2⟩ := run_append_words W base oi.type v n xs hown A m c l hr hb hbase
  refine wpOp_run hi hw (v := v') (W2 := w') ?_ (h v' w' h1 h2)
  unfold execOp
  simp only [ho, resolve, invoke, builtin, Sem.run_bind, Sem.run_pure, Result.andThen_ok, List.map_toArray, List.map_cons, List.map_nil, hs, hx, hrun]
theorem wpList_append_words (hgd : o.guard = none) (s x : Operand)
    (ho : o.op = .call { callee := .builtin .append, args := #[s, x], argTypes := #[47, 47] })
    (base : Nat) (v : Value) (n : Nat) (xs : List Nat) (hs : a.eval s = v) (hown : w.ownsRow base 39 1 v n (wordsV xs))
    (A : Option Addr) (m c : Nat) (l : List Nat) (hx : a.eval x = .slice A m c) (hr : WIn w A m c l) (hb : n + m ≤ 17592186044416) (hbase : base ≤ w.heap.size)
    (h : ∀ v' w', w'.ownsRow base 39 1 v' (n + m) (wordsV (xs ++ l)) → w.grownBy w' v.ownBlock → wpList Try.prog ops Q rest (a.put o.dst v') w') : wpList Try.prog ops Q (o :: rest) a w := by
  obtain ⟨v', w', hrun, h1, h2⟩ := run_append_words w base o.type v n xs hown A m c l hr hb hbase
  refine wpList_plain hgd fun K hK => ?_
  unfold Oper.wp execOp
  simp only [ho, resolve, invoke, builtin, Sem.run_bind, Sem.run_pure, Result.andThen_ok, List.map_toArray, List.map_cons, List.map_nil, hs, hx, hrun]
  exact hK _ _ (h v' w' h1 h2)
end
theorem wone (w : World) (x : Nat) (hx : x < 18446744073709551616) : WIn (w.alloc (.cells #[.int .u64 (x : Nat)] 39)) (some ⟨w.heap.size, 0, none⟩) 1 1 [x] := by
  obtain ⟨a, c, e, hin, _⟩ := ownw_in (litw w [x] (by simp)) (by simpa using hx) (by simp)
  injection e with e1 e2 e3
  subst e1 e3
  exact hin
theorem WIn.drop {w : World} {b off n c f : Nat} {l : List Nat} (h : WIn w (some ⟨b, off, none⟩) n c l) (hf : f ≤ n) (A : Option Addr) (hA : A = some ⟨b, off, none⟩ ∧ n - f = 0 ∨ A = some ⟨b, off + f, none⟩) : WIn w A (n - f) (c - f) (l.drop f) := by
  obtain ⟨h1, h2, h3, h4, h5, h6, h7⟩ := h
  refine ⟨by simp; omega, by omega, by omega, fun x hx => h4 x (List.mem_of_mem_drop hx), by omega, fun h => (by rcases hA with ⟨rfl, _⟩ | rfl <;> cases h), ?_⟩
  by_cases h0 : n - f = 0
  · exact .inl h0
  · right
    obtain rfl := hA.resolve_left (fun h => h0 h.2)
    obtain ⟨b', o', he, hc⟩ := h7.resolve_left (by omega)
    injection he with he; injection he with e1 e2; subst e1 e2
    refine ⟨b, off + f, rfl, fun i hi => ?_⟩
    rw [Nat.add_assoc, hc (f + i) (by omega)]
    simp [List.getD_eq_getElem?_getD, List.getElem?_drop]
end Go.Proofs.Ytbabpmncdphnjaa
