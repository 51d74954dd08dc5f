/- Items in memory: what their cells hold. No condition. -/
import Derived.Test.YtbabpmncdphnjaaBb
import Derived.Test.YtbabpmncdphnjaaIt
namespace Go.Proofs.Ytbabpmncdphnjaa
open Go.RowKit
set_option linter.unusedVariables false
set_option maxRecDepth 100000

theorem bin_tail {w : World} {b off n c f : Nat} {l : List Nat} (h : BIn w (some ⟨b, off, none⟩) n c l) (hf : f < n) : BIn w (some ⟨b, off + f, none⟩) (n - f) (c - f) (l.drop f) := by
  have := bin_sub h (by omega) (show f + (n - f) ≤ n by omega)
  rwa [List.take_of_length_le (by have := h.1.1; simp; omega)] at this

theorem bin_head {w : World} {b off n c f : Nat} {l : List Nat} (h : BIn w (some ⟨b, off, none⟩) n c l) (hf : f ≤ n) (hn : 0 < n) : BIn w (some ⟨b, off, none⟩) f c (l.take f) := by
  obtain ⟨⟨h1, h2, h3, h4⟩, h5, h6, h7, h8⟩ := h
  obtain ⟨b', o', he, hc⟩ := h4.resolve_left (by omega)
  injection he with he
  injection he with e1 e2
  subst e1 e2
  refine ⟨⟨by simp; omega, by omega, fun x hx => h3 x (List.mem_of_mem_take hx), .inr ⟨b, off, rfl, fun i hi => ?_⟩⟩, by omega, h6, by omega, fun h => by cases h⟩
  rw [hc i (by omega)]
  congr 3
  simp only [List.getD_eq_getElem?_getD, List.getElem?_take]
  rw [if_pos hi]
theorem bin_drop {w : World} {b off n c f : Nat} {l : List Nat} (h : BIn w (some ⟨b, off, none⟩) n c l) (hf : f ≤ n) (hn : 0 < n) (A : Option Addr) (hA : A = some ⟨b, off, none⟩ ∧ n - f = 0 ∨ A = some ⟨b, off + f, none⟩) : BIn w A (n - f) (c - f) (l.drop f) := by
  by_cases h0 : n - f = 0
  · have h1 : l.drop f = [] := List.drop_of_length_le (by have := h.1.1; omega)
    rw [h1, h0]
    refine bin_empty w A (c - f) (by have := h.2.2.1; omega) (fun e => ?_)
    rcases hA with ⟨rfl, _⟩ | rfl <;> cases e
  · obtain rfl := hA.resolve_left (fun h => h0 h.2)
    exact bin_tail h (by omega)

theorem BIn.grown {w w' : World} {a : Option Addr} {n c g : Nat} {l : List Nat} (h : BIn w a n c l) (hg : w.grownBy w' (some g)) (ha : ∀ b, a = some b → 0 < n → b.block ≠ g) : BIn w' a n c l := by
  obtain ⟨⟨h1, h2, h3, h4⟩, h5⟩ := h
  refine ⟨⟨h1, h2, h3, ?_⟩, h5⟩
  rcases h4 with h4 | ⟨b, off, rfl, hc⟩
  · exact .inl h4
  · exact .inr ⟨b, off, rfl, fun i hi => hg.cell (hc i hi) (fun e => by injection e with e; exact ha _ rfl (by omega) e)⟩
theorem bin_headZ {w : World} {b off n c f : Nat} {l : List Nat} (h : BIn w (some ⟨b, off, none⟩) n c l) (hf : f ≤ n) : BIn w (some ⟨b, off, none⟩) f c (l.take f) := by
  rcases Nat.eq_zero_or_pos n with h0 | h0
  · obtain rfl : f = 0 := by omega
    exact bin_empty w _ c h.2.2.1 (fun h => by cases h)
  · exact bin_head h hf h0
theorem bin_dropZ {w : World} {b off n c f : Nat} {l : List Nat} (h : BIn w (some ⟨b, off, none⟩) n c l) (hf : f ≤ n) (A : Option Addr) (hA : A = some ⟨b, off, none⟩ ∧ n - f = 0 ∨ A = some ⟨b, off + f, none⟩) : BIn w A (n - f) (c - f) (l.drop f) := by
  rcases Nat.eq_zero_or_pos n with h0 | h0
  · have hl : l = [] := List.eq_nil_of_length_eq_zero (by have := h.1.1; omega)
    subst hl
    have e : n - f = 0 := by omega
    rw [e, List.drop_nil]
    exact bin_empty w _ _ (by have := h.2.2.1; omega) (fun h => by rcases hA with ⟨rfl, _⟩ | rfl <;> cases h)
  · exact bin_drop h hf h0 A hA
/-- The items of a list lie in block b from place o on, three cells each. -/
def Row (w : World) : Tr → Nat → Nat → Prop
  | .nil, _, _ => True
  | .node t bs k r, b, o =>
    t < 256 ∧ w.cell? ⟨b, o, none⟩ = some (.int .u8 (t : Nat)) ∧
    (∃ a c, w.cell? ⟨b, o + 1, none⟩ = some (.slice a bs.length c) ∧ BIn w a bs.length c bs) ∧
    (∃ a c, w.cell? ⟨b, o + 2, none⟩ = some (.slice a k.len c) ∧ (k.len ≤ c ∧ k.len ≤ 140737488355328 ∧ (a = none → c = 0)) ∧ (k.len = 0 ∨ ∃ b' o', a = some ⟨b', o', none⟩ ∧ Row w k b' o')) ∧
    Row w r b (o + 3)
/-- A slice value leads to a list of items. -/
def KIn (w : World) (a : Option Addr) (c : Nat) (k : Tr) : Prop :=
  (k.len ≤ c ∧ k.len ≤ 140737488355328 ∧ (a = none → c = 0)) ∧ (k.len = 0 ∨ ∃ b o, a = some ⟨b, o, none⟩ ∧ Row w k b o)
/-- an item's value -/
abbrev itV (t : Nat) (a : Option Addr) (n c : Nat) (a' : Option Addr) (n' c' : Nat) : Value := .agg #[.int .u8 (t : Nat), .slice a n c, .slice a' n' c']
/-- What an item's value leads to. -/
def ItIn (w : World) (t : Nat) (a : Option Addr) (c : Nat) (a' : Option Addr) (c' : Nat) (b : List Nat) (k : Tr) : Prop := t < 256 ∧ BIn w a b.length c b ∧ KIn w a' c' k

theorem Row.below {w w' : World} (hb : Below w.heap.size w w') : ∀ {T : Tr} {b o : Nat}, Row w T b o → Row w' T b o
  | .nil, _, _, _ => trivial
  | .node t bs k r, b, o, ⟨h1, h2, ⟨a, c, h3, h4⟩, ⟨a', c', h5, h6, h7⟩, h8⟩ => by
    refine ⟨h1, (hb.cell (World.block_lt_of_cell? w _ h2)).trans h2, ⟨a, c, (hb.cell (World.block_lt_of_cell? w _ h3)).trans h3, h4.below hb⟩, ⟨a', c', (hb.cell (World.block_lt_of_cell? w _ h5)).trans h5, h6, ?_⟩, Row.below hb h8⟩
    rcases h7 with h7 | ⟨b', o', rfl, h7⟩
    · exact .inl h7
    · exact .inr ⟨b', o', rfl, Row.below hb h7⟩
theorem KIn.below {w w' : World} {a : Option Addr} {c : Nat} {k : Tr} (h : KIn w a c k) (hb : Below w.heap.size w w') : KIn w' a c k := by
  refine ⟨h.1, ?_⟩
  rcases h.2 with h2 | ⟨b, o, rfl, h2⟩
  · exact .inl h2
  · exact .inr ⟨b, o, rfl, h2.below hb⟩
theorem ItIn.below {w w' : World} {t : Nat} {a : Option Addr} {c : Nat} {a' : Option Addr} {c' : Nat} {b : List Nat} {k : Tr} (h : ItIn w t a c a' c' b k) (hb : Below w.heap.size w w') : ItIn w' t a c a' c' b k :=
  ⟨h.1, h.2.1.below hb, h.2.2.below hb⟩
theorem KIn.nil (w : World) : KIn w none 0 .nil := ⟨⟨Nat.le_refl _, Nat.zero_le _, fun _ => rfl⟩, .inl rfl⟩

/-- the first item of a row, as one struct -/
theorem Row.head {w : World} {t : Nat} {bs : List Nat} {k r : Tr} {b o : Nat} (h : Row w (.node t bs k r) b o) :
    ∃ a c a' c', w.rangeAt b o [.int .u8 (t : Nat), .slice a bs.length c, .slice a' k.len c'] ∧ ItIn w t a c a' c' bs k ∧ Row w r b (o + 3) := by
  obtain ⟨h1, h2, ⟨a, c, h3, h4⟩, ⟨a', c', h5, h6, h7⟩, h8⟩ := h
  refine ⟨a, c, a', c', ?_, ⟨h1, h4, h6, h7⟩, h8⟩
  intro j v hv
  match j, hv with
  | 0, hv => simp at hv; subst hv; exact h2
  | 1, hv => simp at hv; subst hv; exact h3
  | 2, hv => simp at hv; subst hv; exact h5
  | j + 3, hv => simp at hv
theorem Row.node {w : World} {t : Nat} {bs : List Nat} {k r : Tr} {b o : Nat} {a : Option Addr} {c : Nat} {a' : Option Addr} {c' : Nat}
    (hr : w.rangeAt b o [.int .u8 (t : Nat), .slice a bs.length c, .slice a' k.len c']) (hi : ItIn w t a c a' c' bs k) (h : Row w r b (o + 3)) : Row w (.node t bs k r) b o :=
  ⟨hi.1, hr 0 _ rfl, ⟨a, c, hr 1 _ rfl, hi.2.1⟩, ⟨a', c', hr 2 _ rfl, hi.2.2.1, hi.2.2.2⟩, h⟩
theorem Row.append {w : World} : ∀ {A B : Tr} {b o : Nat}, Row w (A.app B) b o → Row w A b o ∧ Row w B b (o + 3 * A.len)
  | .nil, B, b, o, h => ⟨trivial, by simpa [Tr.len, Tr.app] using h⟩
  | .node t bs k r, B, b, o, ⟨h1, h2, h3, h4, h8⟩ => by
    obtain ⟨g1, g2⟩ := Row.append h8
    refine ⟨⟨h1, h2, h3, h4, g1⟩, ?_⟩
    have e : o + 3 + 3 * r.len = o + 3 * (r.len + 1) := by omega
    rw [e] at g2; exact g2
theorem Row.glue {w : World} : ∀ {A B : Tr} {b o : Nat}, Row w A b o → Row w B b (o + 3 * A.len) → Row w (A.app B) b o
  | .nil, B, b, o, _, h => by simpa [Tr.len, Tr.app] using h
  | .node t bs k r, B, b, o, ⟨h1, h2, h3, h4, h8⟩, h => by
    refine ⟨h1, h2, h3, h4, Row.glue h8 ?_⟩
    have e : o + 3 + 3 * r.len = o + 3 * (r.len + 1) := by omega
    rw [e]; exact h
theorem info25 : (Try.prog.info? 25).map (·.size) = some 3 := by kernel_rfl
section
variable {w : World} {ops : Array Oper} {rest : List Oper} {o : Oper} {a : Act} {Q : Exit → Act → World → Prop}
/-- a struct is loaded out of a list -/
theorem ldI (hgd : o.guard = none) (x : Operand) (ho : o.op = .load 25 x) (b off : Nat) (hx : a.eval x = .pointer (some ⟨b, off, none⟩)) (v0 v1 v2 : Value) (hr : w.rangeAt b off [v0, v1, v2])
    (h : wpList Try.prog ops Q rest (a.put o.dst (.agg #[v0, v1, v2])) w) : wpList Try.prog ops Q (o :: rest) a w :=
  wpList_load_mid hgd 25 x ho b off hx [v0, v1, v2] _ hr Try.underlying25 rfl info25 h
end
theorem rangeAt_new (w : World) (v0 v1 v2 : Value) (t : TypeId) : (w.alloc (.cells #[v0, v1, v2] t)).rangeAt w.heap.size 0 [v0, v1, v2] := by
  intro j v hv
  have h := (Blk.new w t [v0, v1, v2]).cell j
  rw [Nat.zero_add]; exact h.trans hv
theorem rangeAt_below {w w' : World} {b o : Nat} {cs : List Value} (h : w.rangeAt b o cs) (hb : Below w.heap.size w w') : w'.rangeAt b o cs := by
  intro j v hv
  have := h j v hv
  exact (hb.cell (World.block_lt_of_cell? w _ this)).trans this
end Go.Proofs.Ytbabpmncdphnjaa
