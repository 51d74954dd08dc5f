/- A map of blocks that is gone through. No condition. -/
import Derived.Test.YtlgpaglkhgomiaaMp
namespace Go.Proofs.Ytlgpaglkhgomiaa
open Go.RowKit
open Go.Maps (Keyed)
set_option linter.unusedVariables false
set_option maxRecDepth 100000
set_option linter.unusedSimpArgs false
/-- the iterator r goes through the map b: left says which numbers are still to come -/
def MRg (w : World) (b r n : Nat) (hs : Int → Bool) (c : Int → List Nat) (left : Int → Bool) (cnt : Nat) : Prop :=
  ∃ D L, w.ranges Try.prog 3 RB b r n D L cnt ∧ (∀ x, I64 x → Maps.has D (.int .i64 x) = hs x) ∧ (∀ x, I64 x → D.atKey (.int .i64 x) (.held zB) = .held (c x)) ∧ (∀ x, IsB (c x)) ∧ (∀ x, I64 x → L (.int .i64 x) = left x)
section
variable {w : World} {b r n : Nat} {hs : Int → Bool} {c : Int → List Nat} {left : Int → Bool} {cnt : Nat}
theorem MRg.owns (h : MRg w b r n hs c left cnt) : MAt w b n hs c := by obtain ⟨D, L, h1, h2, h3, h4, h5⟩ := h; exact ⟨D, h1.owns, h2, h3, h4⟩
theorem MRg.kept {w' : World} {row : Option Nat} (h : MRg w b r n hs c left cnt) (hg : w.grownBy w' row) (hb : some b ≠ row) (hr : some r ≠ row) : MRg w' b r n hs c left cnt := by
  obtain ⟨D, L, h1, h2⟩ := h; exact ⟨D, L, h1.kept hg hb hr, h2⟩
theorem MRg.below {w' : World} (h : MRg w b r n hs c left cnt) (hg : Below w.heap.size w w') : MRg w' b r n hs c left cnt := h.kept (grown_below hg none) (by simp) (by simp)
theorem MRg.left_eq (h : MRg w b r n hs c left cnt) : w.rangeLeft b r = cnt := by obtain ⟨D, L, h1, _⟩ := h; exact h1.left_eq
theorem MRg.lt (h : MRg w b r n hs c left cnt) : r < w.heap.size := by obtain ⟨D, L, h1, _⟩ := h; exact h1.lt
theorem MRg.ne (h : MRg w b r n hs c left cnt) : r ≠ b := by obtain ⟨D, L, h1, _⟩ := h; exact h1.ne
theorem lit_same {x y : Int} (hx : I64 x) : (Lit.int .i64 x).sameKey (Lit.int .i64 y) = decide (x = y) := by
  by_cases e : x = y
  · subst e; rw [WideAt.sameKey_self (isKey hx)]; simp
  · rw [Maps.sameKey_ne (lit_ne e)]; simp [e]
/-- it is struck off -/
def strike (left : Int → Bool) (x : Int) : Int → Bool := fun y => left y && !decide (y = x)
end
section
variable (w : World) {ops : Array Oper} {rest : List Oper} {o : Oper} {a : Act} {Q : Exit → Act → World → Prop}
theorem wpList_rangeB (hg : o.guard = none) (m : Operand) (hop : o.op = Op.range 66 m) (b n : Nat) (hs : Int → Bool) (c : Int → List Nat) (hm : a.eval m = .map (some b)) (h : MAt w b n hs c)
    (hK : ∀ w' cnt, MRg w' b w.heap.size n hs c hs cnt → w.grownBy w' none → w'.heap.size = w.heap.size + 1 → wpList Try.prog ops Q rest (a.put o.dst (.pointer (some ⟨w.heap.size, 0, none⟩))) w') :
    wpList Try.prog ops Q (o :: rest) a w := by
  obtain ⟨D, h1, h2, h3, h4⟩ := h
  refine wpList_range_own w hg m _ hop 3 70 lawK Try.underlying66 RB b n D hm h1 ?_
  intro w' r1 r2 r3
  exact hK w' _ ⟨D, _, r1, h2, h3, h4, h2⟩ r2 r3
theorem wpList_nextB (hg : o.guard = none) (it : Operand) (hop : o.op = Op.next it false) (b r n : Nat) (hs : Int → Bool) (c : Int → List Nat) (left : Int → Bool) (cnt : Nat)
    (hit : a.eval it = .pointer (some ⟨r, 0, none⟩)) (h : MRg w b r n hs c left cnt)
    (hDone : (∀ x, I64 x → left x = false) → wpList Try.prog ops Q rest (a.put o.dst (.tuple #[.bool false])) w)
    (hMore : ∀ (x : Int) (w' : World) (cnt' : Nat), I64 x → left x = true → hs x = true → MRg w' b r n hs c (strike left x) cnt' → cnt' < cnt →
      w.grownBy w' (some r) → w'.heap.size = w.heap.size → (Instr.entry (.pointer (some ⟨r, 0, none⟩))).run Try.prog w' = .ok (.tuple #[.int .i64 x, arrV (c x)]) w' → wpList Try.prog ops Q rest (a.put o.dst (.tuple #[.bool true, .int .i64 x, arrV (c x)])) w') :
    wpList Try.prog ops Q (o :: rest) a w := by
  obtain ⟨D, L, h1, h2, h3, h4, h5⟩ := h
  refine wpList_next_ranges w hg it hop 3 lawK RB (Value.int .i64) arrV (fun key kl hk => by obtain ⟨x, rfl, _⟩ := Maps.keyOf_int_inv Try.underlying3 hk; exact ⟨x, rfl⟩) (fun v y hv => by obtain ⟨l, _, rfl, _⟩ := RB_inv hv; exact ⟨l, rfl⟩) b r n D L cnt hit h1 (fun _ hl => hDone fun x hx => (h5 x hx).symm.trans (hl _)) ?_
  intro x l kl y w' cnt' hkey hlk hv hat hrg hlt hgr hsz hen
  obtain ⟨x', ex, rfl, hwx⟩ := Maps.keyOf_int_inv Try.underlying3 hkey
  cases ex
  have hx := i_wf hwx
  obtain ⟨l', _, el, rfl⟩ := RB_inv hv
  obtain rfl := arrV_inj el
  have e1 : l = c x := by
    have := hat (.held zB)
    rw [h3 x hx] at this
    injection this with this
    exact this.symm
  subst e1
  exact hMore x w' cnt' hx ((h5 x hx).symm.trans hlk) ((h2 x hx).symm.trans (Maps.has_true_of_atKey hat)) ⟨D, _, hrg, h2, h3, h4, fun z hz => by
    show (L (.int .i64 z) && !(Lit.int .i64 z).sameKey (.int .i64 x)) = (left z && !decide (z = x))
    rw [h5 z hz, lit_same hz]⟩ hlt hgr hsz hen
theorem wpList_delB (hg : o.guard = none) (m x : Operand) (hop : o.op = Op.call { callee := Callee.builtin Builtin.delete, args := #[m, x], argTypes := #[66, 3] })
    (b r n : Nat) (hs : Int → Bool) (c : Int → List Nat) (left : Int → Bool) (cnt : Nat) (hm : a.eval m = .map (some b)) (h : MRg w b r n hs c left cnt) (k : Int) (hk : I64 k) (hx : a.eval x = .int .i64 k)
    (hK : ∀ w' cnt', MRg w' b r n (outB hs k) (upC c k zB) (strike left k) cnt' → cnt' ≤ cnt → w.grownBy w' (some b) → wpList Try.prog ops Q rest (a.put o.dst (.tuple #[])) w') :
    wpList Try.prog ops Q (o :: rest) a w := by
  obtain ⟨D, L, h1, h2, h3, h4, h5⟩ := h
  refine wpList_delete_ranges w hg m x _ _ hop 70 lawK Try.underlying66 RB b r n D L cnt hm h1 _ (.int .i64 k) hx (keyK hk) ?_
  intro w' cnt' r1 r2 r3
  refine hK w' cnt' ⟨_, _, r1, fun y hy => ?_, fun y hy => ?_, fun y => ?_, fun z hz => ?_⟩ r2 r3.grown
  · unfold outB
    by_cases e : y = k
    · subst e; rw [if_pos rfl]; exact Maps.has_del_same
    · rw [if_neg e, Maps.has_del_other (lit_ne e)]; exact h2 y hy
  · unfold upC
    by_cases e : y = k
    · subst e; rw [if_pos rfl]; exact Maps.atKey_del_same _
    · rw [if_neg e, Maps.atKey_del_other (lit_ne e)]; exact h3 y hy
  · unfold upC; split
    · exact zB_is
    · exact h4 y
  · show (L (.int .i64 z) && !(Lit.int .i64 z).sameKey (.int .i64 k)) = (left z && !decide (z = k))
    rw [h5 z hz, lit_same hz]
end
end Go.Proofs.Ytlgpaglkhgomiaa
