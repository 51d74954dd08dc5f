/- Maps of blocks in memory: which numbers are held, and what they hold. No condition. -/
import Derived.Test.YtlgpaglkhgomiaaBb
import Derived.Maps.RangeWalk
import Derived.Maps.OwnSet
namespace Go.Proofs.Ytlgpaglkhgomiaa
open Go.RowKit
open Go.Maps (Keyed)
set_option linter.unusedVariables false
set_option maxRecDepth 100000
set_option linter.unusedSimpArgs false
/-- an array of bytes by value -/
def arrV (l : List Nat) : Value := .agg (natsV .u8 l).toArray
/-- a block: 512 bytes -/
def IsB (l : List Nat) : Prop := l.length = 512 ∧ ∀ x ∈ l, x < 256
theorem natsV_inj {a b : List Nat} (h : natsV .u8 a = natsV .u8 b) : a = b := by
  induction a generalizing b with
  | nil => cases b with
    | nil => rfl
    | cons y s => simp [natsV] at h
  | cons x r ih => cases b with
    | nil => simp [natsV] at h
    | cons y s =>
      simp only [natsV, List.map_cons, List.cons.injEq, Value.int.injEq, true_and] at h
      obtain ⟨h1, h2⟩ := h
      rw [ih (b := s) h2, show x = y by omega]
theorem arrV_inj {a b : List Nat} (h : arrV a = arrV b) : a = b := by
  unfold arrV at h
  injection h with h
  exact natsV_inj (by simpa using h)
/-- how an element reads: as its bytes -/
noncomputable def RB (v : Value) : Option (DataW (List Nat) × List MemPlace) :=
  open Classical in if h : ∃ l, IsB l ∧ v = arrV l then some (.held h.choose, []) else none
theorem RB_mk {l : List Nat} (h : IsB l) : RB (arrV l) = some (.held l, []) := by
  have hx : ∃ m, IsB m ∧ arrV l = arrV m := ⟨l, h, rfl⟩
  unfold RB
  rw [dif_pos hx]
  rw [← arrV_inj hx.choose_spec.2]
theorem RB_inv {v : Value} {y : DataW (List Nat) × List MemPlace} (h : RB v = some y) : ∃ l, IsB l ∧ v = arrV l ∧ y = (.held l, []) := by
  unfold RB at h
  split at h
  · rename_i hx
    exact ⟨hx.choose, hx.choose_spec.1, hx.choose_spec.2, by cases h; rfl⟩
  · cases h
theorem lawK : Keyed Try.prog 3 := Maps.int_keyed Try.underlying3
def I64 (x : Int) : Prop := -9223372036854775808 ≤ x ∧ x ≤ 9223372036854775807
theorem wf_i {x : Int} (h : I64 x) : (Lit.int .i64 x).wf = true := WalkArith.wf_i64 ⟨h.1, h.2⟩
theorem i_wf {x : Int} (h : (Lit.int .i64 x).wf = true) : I64 x := bounds_i64 h
def zB : List Nat := zeros 512
theorem zB_is : IsB zB := ⟨by simp [zB, zeros], fun x hx => by have := List.eq_of_mem_replicate hx; omega⟩
/-- block b is a map of at most n entries: hs says which numbers are in it, c what is held there -/
def MAt (w : World) (b n : Nat) (hs : Int → Bool) (c : Int → List Nat) : Prop :=
  ∃ D, w.ownsMap Try.prog 3 RB b n D ∧ (∀ x, I64 x → Maps.has D (.int .i64 x) = hs x) ∧ (∀ x, I64 x → D.atKey (.int .i64 x) (.held zB) = .held (c x)) ∧ ∀ x, IsB (c x)
theorem keyK {x : Int} (h : I64 x) : keyOf Try.prog 3 (.int .i64 x) = some (.int .i64 x) := Maps.keyOf_int_mk Try.underlying3 (wf_i h)
theorem isKey {x : Int} (h : I64 x) : WideAt.IsKeyLit (.int .i64 x) := lawK.key (keyK h)
theorem zeroB (w : World) : (zeroValue 70).run Try.prog w = .ok (arrV zB) w := by kernel_rfl
theorem MAt.lt {w : World} {b n : Nat} {hs : Int → Bool} {c : Int → List Nat} (h : MAt w b n hs c) : b < w.heap.size := by obtain ⟨D, h1, _⟩ := h; exact h1.lt
theorem MAt.of {w w' : World} {b n : Nat} {hs : Int → Bool} {c : Int → List Nat} (h : MAt w b n hs c) (e : w'.heap[b]? = w.heap[b]?) : MAt w' b n hs c := by
  obtain ⟨D, ⟨es, clock, hb, r⟩, r2⟩ := h
  exact ⟨D, ⟨es, clock, e.trans hb, r⟩, r2⟩
theorem MAt.gr {w w' : World} {b n : Nat} {hs : Int → Bool} {c : Int → List Nat} (h : MAt w b n hs c) (hb : Below w.heap.size w w') : MAt w' b n hs c := h.of (hb.block b h.lt)
theorem MAt.grown {w w' : World} {b n : Nat} {r : Option Nat} {hs : Int → Bool} {c : Int → List Nat} (h : MAt w b n hs c) (hb : w.grownBy w' r) (hr : some b ≠ r) : MAt w' b n hs c := h.of (hb.block b h.lt hr)
theorem MAt.mono {w : World} {b n m : Nat} {hs : Int → Bool} {c : Int → List Nat} (h : MAt w b n hs c) (hm : n ≤ m) : MAt w b m hs c := by
  obtain ⟨D, h1, r⟩ := h
  exact ⟨D, h1.mono hm, r⟩
theorem MAt.congr {w : World} {b n : Nat} {hs hs' : Int → Bool} {c c' : Int → List Nat} (h : MAt w b n hs c) (e1 : ∀ x, I64 x → hs x = hs' x) (e2 : ∀ x, I64 x → c x = c' x) (e3 : ∀ x, IsB (c' x)) : MAt w b n hs' c' := by
  obtain ⟨D, h1, h2, h3, h4⟩ := h
  exact ⟨D, h1, fun x hx => (h2 x hx).trans (e1 x hx), fun x hx => (h3 x hx).trans (by rw [e2 x hx]), e3⟩
/-- what is not in it holds noughts -/
theorem MAt.blank {w : World} {b n : Nat} {hs : Int → Bool} {c : Int → List Nat} (h : MAt w b n hs c) {x : Int} (hx : I64 x) (hh : hs x = false) : c x = zB := by
  obtain ⟨D, h1, h2, h3, h4⟩ := h
  have e1 := Maps.atKey_of_not_has ((h2 x hx).trans hh) (.held zB)
  rw [h3 x hx] at e1
  injection e1
theorem MAt.made (w : World) : MAt (w.alloc (.map #[] 0)) w.heap.size 0 (fun _ => false) (fun _ => zB) :=
  ⟨.map [], World.ownsMap_made w _ _ _, fun _ _ => rfl, fun _ _ => rfl, fun _ => zB_is⟩
section
variable {w : World} {ops : Array Oper} {rest : List Oper} {o : Oper} {a : Act} {Q : Exit → Act → World → Prop} {b n : Nat} {hs : Int → Bool} {c : Int → List Nat}
/-- a block is looked up -/
theorem MAt.run_look (h : MAt w b n hs c) {x : Int} (hx : I64 x) : (Instr.lookup 66 (.map (some b)) (.int .i64 x) false).run Try.prog w = .ok (arrV (c x)) w := by
  obtain ⟨D, h1, h2, h3, h4⟩ := h
  obtain ⟨v, ps, hrun, hR⟩ := h1.lookup lawK Try.underlying66 (zeroB w) (RB_mk zB_is) (keyK hx)
  obtain ⟨l, hl, rfl, he⟩ := RB_inv hR
  rw [h3 x hx] at he
  injection he with he
  injection he with he
  rw [hrun, he]
/-- .. with whether it is in it -/
theorem MAt.run_look_ok (h : MAt w b n hs c) {x : Int} (hx : I64 x) : (Instr.lookup 66 (.map (some b)) (.int .i64 x) true).run Try.prog w = .ok (.tuple #[arrV (c x), .bool (hs x)]) w := by
  obtain ⟨D, h1, h2, h3, h4⟩ := h
  obtain ⟨v, ps, hrun, hR⟩ := h1.look_ok lawK Try.underlying66 (zeroB w) (RB_mk zB_is) (keyK hx)
  obtain ⟨l, hl, rfl, he⟩ := RB_inv hR
  rw [h3 x hx] at he
  injection he with he
  injection he with he
  rw [hrun, he, h2 x hx]
/-- one more -/
def upB (hs : Int → Bool) (x : Int) : Int → Bool := fun y => if y = x then true else hs y
def upC (c : Int → List Nat) (x : Int) (l : List Nat) : Int → List Nat := fun y => if y = x then l else c y
def outB (hs : Int → Bool) (x : Int) : Int → Bool := fun y => if y = x then false else hs y
theorem lit_ne {x y : Int} (h : y ≠ x) : (Lit.int .i64 y) ≠ (Lit.int .i64 x) := fun e => h (by injection e)
theorem MAt.run_put (h : MAt w b n hs c) (hn : n < maxLen) {x : Int} (hx : I64 x) {l : List Nat} (hl : IsB l) :
    ∃ w', (Instr.mapUpdate 66 (.map (some b)) (.int .i64 x) (arrV l)).run Try.prog w = .ok () w' ∧ MAt w' b (n + 1) (upB hs x) (upC c x l) ∧ w.grownBy w' (some b) := by
  obtain ⟨D, h1, h2, h3, h4⟩ := h
  obtain ⟨w', hrun, ho, hg⟩ := h1.update lawK Try.underlying66 hn (keyK hx) (RB_mk hl)
  refine ⟨w', hrun, ⟨_, ho, fun y hy => ?_, fun y hy => ?_, fun y => ?_⟩, hg⟩
  · unfold upB
    by_cases e : y = x
    · subst e; rw [if_pos rfl]; exact Maps.has_put_same h1.isMap (isKey hx) _
    · rw [if_neg e, Maps.has_put_other (lit_ne e)]; exact h2 y hy
  · unfold upC
    by_cases e : y = x
    · subst e; rw [if_pos rfl]; exact Maps.atKey_put_same h1.isMap (isKey hx) _ _
    · rw [if_neg e, Maps.atKey_put_other (lit_ne e)]; exact h3 y hy
  · unfold upC; split
    · exact hl
    · exact h4 y
theorem MAt.run_out (h : MAt w b n hs c) {x : Int} (hx : I64 x) (ty : TypeId) :
    ∃ w', (Builtin.delete_ #[66, 3] ty #[.map (some b), .int .i64 x]).run Try.prog w = .ok (.tuple #[]) w' ∧ MAt w' b n (outB hs x) (upC c x zB) ∧ w.grownBy w' (some b) := by
  obtain ⟨D, h1, h2, h3, h4⟩ := h
  obtain ⟨w', hrun, ho, hg⟩ := h1.drop lawK Try.underlying66 (keyK hx) ty
  refine ⟨w', hrun, ⟨_, ho, fun y hy => ?_, fun y hy => ?_, fun y => ?_⟩, hg.grown⟩
  · unfold outB
    by_cases e : y = x
    · subst e; rw [if_pos rfl]; exact Maps.has_del_same
    · rw [if_neg e, Maps.has_del_other (lit_ne e)]; exact h2 y hy
  · unfold upC
    by_cases e : y = x
    · subst e; rw [if_pos rfl]; exact Maps.atKey_del_same _
    · rw [if_neg e, Maps.atKey_del_other (lit_ne e)]; exact h3 y hy
  · unfold upC; split
    · exact zB_is
    · exact h4 y
end
end Go.Proofs.Ytlgpaglkhgomiaa
