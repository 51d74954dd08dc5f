/- Lists of blocks are appended; regions that draw, one by one. No condition. -/
import Derived.Test.YtlgpaglkhgomiaaRd
import Derived.Test.YtlgpaglkhgomiaaGl
import Derived.ArgAppend
namespace Go.Proofs.Ytlgpaglkhgomiaa
open Go.RowKit
set_option linter.unusedVariables false
set_option maxRecDepth 100000
set_option linter.unusedSimpArgs false
section
variable {P : Program} {ops : Array Oper} {Q : Exit → Act → World → Prop} {md : Region.Mode} {S : World → Prop} {L : Nat}
/-- only this one may come up, and it changes no memory -/
theorem wpAnyG_run {i : Nat} {oi : Oper} {v : Value} {fuel : Nat} {listed : Array Bool} {a : Act} {w : World} (hr : Region.ready md ops listed = [i]) (hi : ops[i]? = some oi) (hw : Region.wanted oi (yielded ops a.tmps) = true)
    (hrun : ∀ W, S W → (execOp a.eval oi).run P W = .ok (.value v) W) (h : wpAnyG P md ops Q S L fuel (listed.setIfInBounds i true) (a.put oi.dst v) w) : wpAnyG P md ops Q S L (fuel + 1) listed a w :=
  wpAnyG_only hr (fun W hW hS => wpOp_run hi hw (hrun W hS) ⟨.inr hS, h.grow hW⟩)
end
/-- cells of a list of blocks -/
def CIn (w : World) (A : Option Addr) (k : Nat) (bs : List BlkR) : Prop := bs.length = k ∧ (k = 0 ∨ ∃ b off, A = some ⟨b, off, none⟩ ∧ ∀ i x, bs[i]? = some x → w.rangeAt b (off + i * 2) x.cs)
theorem LIn.cin {w : World} {A : Option Addr} {k : Nat} {bs : List BlkR} (h : LIn w A k bs) : CIn w A k bs := ⟨h.1, h.2.2⟩
theorem CIn.gr {w w' : World} {A : Option Addr} {k : Nat} {bs : List BlkR} (h : CIn w A k bs) (hb : Gr w w') : CIn w' A k bs :=
  ⟨h.1, h.2.imp id (fun ⟨b, off, e, hr⟩ => ⟨b, off, e, fun i x hx => range_gr (hr i x hx) hb⟩)⟩
theorem own_cin {w : World} {base n c : Nat} {a : Option Addr} {bs : List BlkR} (h : w.ownsRow base 62 2 (.slice a n c) n (rowC bs)) (hn : bs.length = n) : CIn w a n bs := by
  refine ⟨hn, ?_⟩
  rcases h.2 with ⟨_, h0⟩ | ⟨g, cap, cur, e, _⟩
  · exact .inl h0
  · injection e with e1 _ _
    subst e1
    refine .inr ⟨g, 0, rfl, fun i x hx j u hu => ?_⟩
    have hlt : i < bs.length := (List.getElem?_eq_some_iff.1 hx).1
    have hj : j < 2 := (List.getElem?_eq_some_iff.1 hu).1
    have q := h.cellAt (i * 2 + j) (by omega)
    rw [rowC_get bs i x j u hx hu] at q
    rw [← q, Nat.zero_add]
theorem CIn.news {w : World} {ad : Addr} {k : Nat} {bs : List BlkR} (h : CIn w (some ad) k bs) : ∀ j u, (rowC bs)[j]? = some u → w.cell? (ad.add j) = some u := by
  intro j u hu
  have hj : j < (rowC bs).length := (List.getElem?_eq_some_iff.1 hu).1
  rw [rowC_length] at hj
  obtain ⟨b, off, e, hr⟩ := h.2.resolve_left (by have := h.1; omega)
  injection e with e
  subst e
  rw [Addr.add_mid]
  obtain ⟨x, hx⟩ : ∃ x, bs[j / 2]? = some x := ⟨_, List.getElem?_eq_getElem (by omega)⟩
  have hc : ∃ v, x.cs[j % 2]? = some v := ⟨_, List.getElem?_eq_getElem (show j % 2 < x.cs.length by show _ < 2; omega)⟩
  obtain ⟨v, hv⟩ := hc
  have q1 := rowC_get bs (j / 2) x (j % 2) v hx hv
  rw [show j / 2 * 2 + j % 2 = j by omega, hu] at q1
  have q2 := range_cell (hr (j / 2) x hx) hv
  rw [show off + j / 2 * 2 + j % 2 = off + j by omega] at q2
  rw [q2, q1]
theorem run_append_blks (W : World) (base : Nat) (ty : TypeId) (v : Value) (bs : List BlkR) (hown : W.ownsRow base 62 2 v bs.length (rowC bs)) (A : Option Addr) (k c : Nat) (bs' : List BlkR) (hin : CIn W A k bs') (hc : A = none → c = 0)
    (hb : bs.length + k ≤ 4398046511104) (hbase : base ≤ W.heap.size) :
    ∃ v' w', (Builtin.append_ #[22, 22] ty #[v, .slice A k c]).run Try.prog W = .ok v' w' ∧ w'.ownsRow base 62 2 v' (bs ++ bs').length (rowC (bs ++ bs')) ∧ W.grownBy w' v.ownBlock := by
  obtain ⟨i0, hi, hz0, hz1, hz2⟩ := info_parts info62p
  rw [List.length_append, rowC_append, hin.1]
  rcases A with _ | ad
  · have h0 : k = 0 := by
      rcases hin.2 with h | ⟨b, off, e, _⟩
      · exact h
      · cases e
    obtain rfl : bs' = [] := List.eq_nil_of_length_eq_zero (hin.1.trans h0)
    subst h0
    have hc0 := hc rfl
    subst hc0
    have hrun := run_append_owned_none (P := Try.prog) W base 22 ty 62 i0 2 Try.underlying22 hi v bs.length (rowC bs) hown
    exact ⟨v, W, hrun, by simpa [rowC] using hown, rfl, rfl, rfl, Nat.le_refl _, fun _ _ _ => rfl⟩
  · obtain ⟨v', w', hrun, h2, h3, h4, h5⟩ := run_append_own_at (P := Try.prog) W base 22 ty 62 i0 (.agg #[.int .i64 0, .slice none 0 0]) 2 32 Try.underlying22 hi hz0 hz1 hz2 rfl (by decide) v bs.length (rowC bs) hown ad k c (rowC bs') (by rw [rowC_length, hin.1]) hin.news (rowC_one bs') (by simp only [maxLen]; omega) (by omega) hbase
    exact ⟨v', w', hrun, h2, h3⟩
/-- .. as one step -/
theorem wpOp_append_blks {ops : Array Oper} {Q : Exit → Act → World → Prop} {i : Nat} {oi : Oper} {a : Act} {W : World} {K : Act → World → Prop} (hi : ops[i]? = some oi) (hw : Region.wanted oi (yielded ops a.tmps) = true) (s x : Operand)
    (ho : oi.op = .call { callee := .builtin .append, args := #[s, x], argTypes := #[22, 22] })
    (base : Nat) (v : Value) (bs : List BlkR) (hs : a.eval s = v) (hown : W.ownsRow base 62 2 v bs.length (rowC bs))
    (A : Option Addr) (k c : Nat) (bs' : List BlkR) (hx : a.eval x = .slice A k c) (hin : CIn W A k bs') (hc : A = none → c = 0) (hb : bs.length + k ≤ 4398046511104) (hbase : base ≤ W.heap.size)
    (h : ∀ v' w', w'.ownsRow base 62 2 v' (bs ++ bs').length (rowC (bs ++ bs')) → W.grownBy w' v.ownBlock → K (a.put oi.dst v') w') : wpOp Try.prog ops Q i K a W := by
  obtain ⟨v', w', hrun, h2, h3⟩ := run_append_blks W base oi.type v bs hown A k c bs' hin hc hb hbase
  refine wpOp_run hi hw (v := v') (W2 := w') ?_ (h v' w' h2 h3)
  unfold execOp
  simp only [ho, resolve, invoke, builtin, Sem.run_bind, Sem.run_pure, Result.andThen_ok, List.map_toArray, List.map_cons, List.map_nil, hs, hx, hrun]
/-- .. in a list of operations -/
theorem wpList_append_blks {w : World} {ops : Array Oper} {rest : List Oper} {o : Oper} {a : Act} {Q : Exit → Act → World → Prop} (hgd : o.guard = none) (s x : Operand)
    (ho : o.op = .call { callee := .builtin .append, args := #[s, x], argTypes := #[22, 22] })
    (base : Nat) (v : Value) (bs : List BlkR) (hs : a.eval s = v) (hown : w.ownsRow base 62 2 v bs.length (rowC bs)) (A : Option Addr) (k c : Nat) (bs' : List BlkR) (hx : a.eval x = .slice A k c) (hin : CIn w A k bs') (hc : A = none → c = 0) (hb : bs.length + k ≤ 4398046511104) (hbase : base ≤ w.heap.size)
    (h : ∀ v' w', w'.ownsRow base 62 2 v' (bs ++ bs').length (rowC (bs ++ bs')) → w.grownBy w' v.ownBlock → wpList Try.prog ops Q rest (a.put o.dst v') w') : wpList Try.prog ops Q (o :: rest) a w := by
  refine wpList_plain hgd fun K hK => ?_
  obtain ⟨v', w', hrun, h2, h3⟩ := run_append_blks w base o.type v bs hown A k c bs' hin hc hb hbase
  unfold Oper.wp execOp
  simp only [ho, resolve, invoke, builtin, Sem.run_bind, Sem.run_pure, Result.andThen_ok, List.map_toArray, List.map_cons, List.map_nil, hs, hx, hrun]
  exact hK _ _ (h v' w' h2 h3)
/-- onto a piece that has no room -/
theorem run_append_full (W : World) (ty : TypeId) (A : Option Addr) (n : Nat) (bs : List BlkR) (hin0 : CIn W A n bs) (B : Addr) (k c : Nat) (bs' : List BlkR) (hin : CIn W (some B) k bs') (hk : 0 < k) (hb : n + k ≤ 4398046511104) :
    ∃ v' w', (Builtin.append_ #[22, 22] ty #[.slice A n n, .slice (some B) k c]).run Try.prog W = .ok v' w' ∧ w'.ownsRow W.heap.size 62 2 v' (bs ++ bs').length (rowC (bs ++ bs')) ∧ W.grownBy w' none := by
  obtain ⟨i0, hi, hz0, hz1, hz2⟩ := info_parts info62p
  rcases A with _ | ad
  · have h0 : n = 0 := by
      rcases hin0.2 with h | ⟨b, off, e, _⟩
      · exact h
      · cases e
    subst h0
    obtain rfl : bs = [] := List.eq_nil_of_length_eq_zero hin0.1
    exact run_append_blks W W.heap.size ty (.slice none 0 0) [] ⟨rfl, .inl ⟨rfl, rfl⟩⟩ (some B) k c bs' hin (fun e => by cases e) (by simpa using hb) (Nat.le_refl _)
  · obtain ⟨v', w', hrun, h2, h3⟩ := run_append_arg_grows (P := Try.prog) W 22 ty 62 i0 (.agg #[.int .i64 0, .slice none 0 0]) 2 32 Try.underlying22 hi hz0 hz1 hz2 rfl (by decide) ad n n (rowC bs) (by rw [rowC_length, hin0.1]) hin0.news B k c (rowC bs') (by rw [rowC_length, hin.1]) hin.news (by omega) (by simp only [maxLen]; omega) (by omega)
    exact ⟨v', w', hrun, by rw [List.length_append, rowC_append, hin0.1, hin.1]; exact h2, h3⟩
theorem wpOp_append_full {ops : Array Oper} {Q : Exit → Act → World → Prop} {i : Nat} {oi : Oper} {a : Act} {W : World} {K : Act → World → Prop} (hi : ops[i]? = some oi) (hw : Region.wanted oi (yielded ops a.tmps) = true) (s x : Operand)
    (ho : oi.op = .call { callee := .builtin .append, args := #[s, x], argTypes := #[22, 22] })
    (A : Option Addr) (n : Nat) (bs : List BlkR) (hs : a.eval s = .slice A n n) (hin0 : CIn W A n bs) (B : Addr) (k c : Nat) (bs' : List BlkR) (hx : a.eval x = .slice (some B) k c) (hin : CIn W (some B) k bs') (hk : 0 < k) (hb : n + k ≤ 4398046511104)
    (h : ∀ v' w', w'.ownsRow W.heap.size 62 2 v' (bs ++ bs').length (rowC (bs ++ bs')) → W.grownBy w' none → K (a.put oi.dst v') w') : wpOp Try.prog ops Q i K a W := by
  obtain ⟨v', w', hrun, h2, h3⟩ := run_append_full W oi.type A n bs hin0 B k c bs' hin hk hb
  refine wpOp_run hi hw (v := v') (W2 := w') ?_ (h v' w' h2 h3)
  unfold execOp
  simp only [ho, resolve, invoke, builtin, Sem.run_bind, Sem.run_pure, Result.andThen_ok, List.map_toArray, List.map_cons, List.map_nil, hs, hx, hrun]
end Go.Proofs.Ytlgpaglkhgomiaa
