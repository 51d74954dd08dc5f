/- Parts of proofs of statements, each text behind those that it stands on. No condition of its own. -/
import Derived.Test.YtbabpmncdphnjaaGreatQ26
namespace Go.Proofs.YtbabpmncdphnjaaGreat
open Go.RowKit
set_option linter.unusedVariables false
set_option maxRecDepth 100000
set_option linter.unusedSimpArgs false
theorem Dep.cutne {D : Nat → Prop} {w w' : World} {X : World → Prop} (h : Dep D w X) (hb : Gr w w') : Dep (fun j => D j ∧ j ≠ w.heap.size) w' X := (h.cut hb).mono (fun j hj _ => ⟨hj.1, by omega⟩)
def ItG (D : Nat → Prop) (t : Nat) (b : List Nat) (k : Tr) (w : World) (e : Ending) (w' : World) : Prop :=
  ∃ a n c a' m c', b.length = n ∧ k.len = m ∧ e = .returned (itV t a n c a' m c') ∧ Dep D w' (fun x => ItIn x t a c a' c' b k) ∧ Below w.heap.size w w'
theorem itG {D E : Nat → Prop} {t : Nat} {b : List Nat} {k : Tr} {f : FuncId} {args : Array Value} {w : World} (h : Calls Tryz.prog f args w (ItR E t b k w)) (hE : ∀ j, E j → D j) (hN : ∀ j, w.heap.size ≤ j → D j) : Calls Tryz.prog f args w (ItG D t b k w) :=
  h.mono fun e w' ⟨a, n, c, a', m, c', h4, h5, h1, h2, h3⟩ => ⟨a, n, c, a', m, c', h4, h5, h1, h2.mono (fun j hj _ => hj.elim (hE j) (hN j)), h3⟩
theorem cons_g {D : Nat → Prop} {w : World} {t : Nat} (ti : Int) (hti : (t : Int) = ti) {b : List Nat} {k r : Tr} {xr : List Value} {a a' : Option Addr} {n m c c' : Nat} (hn : b.length = n) (hm : k.len = m) (h : Dep D w (fun x => ItIn x t a c a' c' b k)) (hr : Dep D w (fun x => Its x r xr)) :
    Dep D w (fun x => Its x (.node t b k r) (.int .u8 ti :: .slice a n c :: .slice a' m c' :: xr)) := by
  subst hti; exact (dep_cons hn hm h hr).mono (fun j hj _ => by rcases hj with hj | hj <;> exact hj)
theorem lit_g {D : Nat → Prop} {w : World} {T : Tr} {xs : List Value} {n : Nat} (h : Dep D w (fun x => Its x T xs)) (hn : T.len = n) (hl : n ≤ 1000) (hN : D w.heap.size) : Dep D (w.alloc (.cells xs.toArray 45)) (fun x => KIn x (some ⟨w.heap.size, 0, none⟩) n T) :=
  (dep_lit h hn hl (Nat.le_refl _) (by simp) (fun j _ hj => Below.heap_alloc w _ j hj) (Blk.new w 45 xs)).mono (fun j hj _ => by rcases hj with hj | rfl; exact hj.1; exact hN)
def TbsAt (w0 w W0 : World) (T : Tr) (v : Value) (wx : World) : Prop := ∃ g, v = .pointer (some ⟨g, 0, none⟩) ∧ w.heap.size + 2 ≤ g ∧ KdAt w0.heap.size (w.heap.size + 2) g 48 T wx ∧ Below W0.heap.size W0 wx
theorem tbs_fin {w0 w W0 wp V W9 : World} {g q : Nat} {T : Tr} {xs : List Value} (h0 : Blk wp g 45 [.int .u8 0, .slice none 0 0, .slice none 0 0]) (hgb : W0.heap.size ≤ g) (hs0 : w.heap.size + 2 ≤ W0.heap.size) (hit : Dep (fun j => (j < w0.heap.size ∨ w.heap.size + 2 ≤ j) ∧ j ≠ g ∧ j < q) wp (fun x => Its x T xs))
    (ho : wp.ownsRow (w.heap.size + 2) 45 3 (.slice (some ⟨q, 0, none⟩) 7 7) 7 xs) (hbw : Below W0.heap.size W0 wp) (hne : g ≠ q) (hl : T.len = 7) (hv : Gr wp V) (hg9 : Gr (V.setRow g #[.int .u8 48, .slice none 0 0, .slice (some ⟨q, 0, none⟩) 7 7]) W9) :
    TbsAt w0 w W0 T (.pointer (some ⟨g, 0, none⟩)) W9 := by
  have hob : ∀ j, j ∈ ob (.slice (some ⟨q, 0, none⟩) 7 7) → j = q := fun j hj => by simpa [ob, Value.ownBlock] using hj
  have hb1 := below_setRow' (hbw.trans (Below.mono hv hbw.size)) hgb #[.int .u8 48, .slice none 0 0, .slice (some ⟨q, 0, none⟩) 7 7]
  refine ⟨g, rfl, by omega, ⟨some ⟨q, 0, none⟩, 7, 7, xs, ((h0.below' hv).setRow [.int .u8 48, .slice none 0 0, .slice (some ⟨q, 0, none⟩) 7 7]).below' hg9, hl, own_below (own_keep (own_below ho hv) (fun j hj => setRow_other V g j _ (by rw [hob j hj]; exact fun e => hne e.symm))) hg9, fun h => hne (hob g h), ?_⟩, hb1.trans (Below.mono hg9 hb1.size)⟩
  exact (((hit.below hv).row g _ (fun h => h.2.1 rfl)).below hg9).mono (fun j hj _ => ⟨hj.1, hj.2.1, fun h => by have := hob j h; have := hj.2.2; omega⟩)
theorem wpAnyL_lst {P : Program} {md : Region.Mode} {ops : Array Oper} {Q : Exit → Act → World → Prop} {S : World → Prop} {D F : List Nat} {f : Nat} {l l' : Array Bool} {a : Act} {w : World} (h : l = l') (k : wpAnyL P md ops Q S D F f l' a w) : wpAnyL P md ops Q S D F f l a w := h ▸ k
theorem via_0 {Z : Prop} (A G : Nat → World → Prop) (k : (∀ (g : Nat) (X : World), A g X → G g X) → Z) (h : ∀ (g : Nat) (X : World), A g X → G g X) : Z := k h
theorem via_1 {Z : Prop} (A G : Option Addr → Nat → Nat → Option Addr → Nat → Nat → Nat → World → Prop) (k : (∀ (a1 : Option Addr) (n1 : Nat) (c1 : Nat) (b1 : Option Addr) (m1 : Nat) (d1 : Nat) (g : Nat) (X : World), A a1 n1 c1 b1 m1 d1 g X → G a1 n1 c1 b1 m1 d1 g X) → Z) (h : ∀ (a1 : Option Addr) (n1 : Nat) (c1 : Nat) (b1 : Option Addr) (m1 : Nat) (d1 : Nat) (g : Nat) (X : World), A a1 n1 c1 b1 m1 d1 g X → G a1 n1 c1 b1 m1 d1 g X) : Z := k h
theorem via_2 {Z : Prop} (A G : Option Addr → Nat → Nat → Option Addr → Nat → Nat → Nat → Nat → World → Prop) (k : (∀ (a1 : Option Addr) (n1 : Nat) (c1 : Nat) (b1 : Option Addr) (m1 : Nat) (d1 : Nat) (q2 : Nat) (g : Nat) (X : World), A a1 n1 c1 b1 m1 d1 q2 g X → G a1 n1 c1 b1 m1 d1 q2 g X) → Z) (h : ∀ (a1 : Option Addr) (n1 : Nat) (c1 : Nat) (b1 : Option Addr) (m1 : Nat) (d1 : Nat) (q2 : Nat) (g : Nat) (X : World), A a1 n1 c1 b1 m1 d1 q2 g X → G a1 n1 c1 b1 m1 d1 q2 g X) : Z := k h
theorem via_3 {Z : Prop} (A G : Option Addr → Nat → Nat → Option Addr → Nat → Nat → Nat → Option Addr → Nat → Nat → Option Addr → Nat → Nat → Nat → World → Prop) (k : (∀ (a1 : Option Addr) (n1 : Nat) (c1 : Nat) (b1 : Option Addr) (m1 : Nat) (d1 : Nat) (q2 : Nat) (a3 : Option Addr) (n3 : Nat) (c3 : Nat) (b3 : Option Addr) (m3 : Nat) (d3 : Nat) (g : Nat) (X : World), A a1 n1 c1 b1 m1 d1 q2 a3 n3 c3 b3 m3 d3 g X → G a1 n1 c1 b1 m1 d1 q2 a3 n3 c3 b3 m3 d3 g X) → Z) (h : ∀ (a1 : Option Addr) (n1 : Nat) (c1 : Nat) (b1 : Option Addr) (m1 : Nat) (d1 : Nat) (q2 : Nat) (a3 : Option Addr) (n3 : Nat) (c3 : Nat) (b3 : Option Addr) (m3 : Nat) (d3 : Nat) (g : Nat) (X : World), A a1 n1 c1 b1 m1 d1 q2 a3 n3 c3 b3 m3 d3 g X → G a1 n1 c1 b1 m1 d1 q2 a3 n3 c3 b3 m3 d3 g X) : Z := k h
theorem via_4 {Z : Prop} (A G : Option Addr → Nat → Nat → Option Addr → Nat → Nat → Nat → Option Addr → Nat → Nat → Option Addr → Nat → Nat → Option Addr → Nat → Nat → Option Addr → Nat → Nat → Nat → World → Prop) (k : (∀ (a1 : Option Addr) (n1 : Nat) (c1 : Nat) (b1 : Option Addr) (m1 : Nat) (d1 : Nat) (q2 : Nat) (a3 : Option Addr) (n3 : Nat) (c3 : Nat) (b3 : Option Addr) (m3 : Nat) (d3 : Nat) (a4 : Option Addr) (n4 : Nat) (c4 : Nat) (b4 : Option Addr) (m4 : Nat) (d4 : Nat) (g : Nat) (X : World), A a1 n1 c1 b1 m1 d1 q2 a3 n3 c3 b3 m3 d3 a4 n4 c4 b4 m4 d4 g X → G a1 n1 c1 b1 m1 d1 q2 a3 n3 c3 b3 m3 d3 a4 n4 c4 b4 m4 d4 g X) → Z) (h : ∀ (a1 : Option Addr) (n1 : Nat) (c1 : Nat) (b1 : Option Addr) (m1 : Nat) (d1 : Nat) (q2 : Nat) (a3 : Option Addr) (n3 : Nat) (c3 : Nat) (b3 : Option Addr) (m3 : Nat) (d3 : Nat) (a4 : Option Addr) (n4 : Nat) (c4 : Nat) (b4 : Option Addr) (m4 : Nat) (d4 : Nat) (g : Nat) (X : World), A a1 n1 c1 b1 m1 d1 q2 a3 n3 c3 b3 m3 d3 a4 n4 c4 b4 m4 d4 g X → G a1 n1 c1 b1 m1 d1 q2 a3 n3 c3 b3 m3 d3 a4 n4 c4 b4 m4 d4 g X) : Z := k h
theorem via_5 {Z : Prop} (A G : Option Addr → Nat → Nat → Option Addr → Nat → Nat → Nat → Option Addr → Nat → Nat → Option Addr → Nat → Nat → Option Addr → Nat → Nat → Option Addr → Nat → Nat → Option Addr → Nat → Nat → Option Addr → Nat → Nat → Nat → World → Prop) (k : (∀ (a1 : Option Addr) (n1 : Nat) (c1 : Nat) (b1 : Option Addr) (m1 : Nat) (d1 : Nat) (q2 : Nat) (a3 : Option Addr) (n3 : Nat) (c3 : Nat) (b3 : Option Addr) (m3 : Nat) (d3 : Nat) (a4 : Option Addr) (n4 : Nat) (c4 : Nat) (b4 : Option Addr) (m4 : Nat) (d4 : Nat) (a5 : Option Addr) (n5 : Nat) (c5 : Nat) (b5 : Option Addr) (m5 : Nat) (d5 : Nat) (g : Nat) (X : World), A a1 n1 c1 b1 m1 d1 q2 a3 n3 c3 b3 m3 d3 a4 n4 c4 b4 m4 d4 a5 n5 c5 b5 m5 d5 g X → G a1 n1 c1 b1 m1 d1 q2 a3 n3 c3 b3 m3 d3 a4 n4 c4 b4 m4 d4 a5 n5 c5 b5 m5 d5 g X) → Z) (h : ∀ (a1 : Option Addr) (n1 : Nat) (c1 : Nat) (b1 : Option Addr) (m1 : Nat) (d1 : Nat) (q2 : Nat) (a3 : Option Addr) (n3 : Nat) (c3 : Nat) (b3 : Option Addr) (m3 : Nat) (d3 : Nat) (a4 : Option Addr) (n4 : Nat) (c4 : Nat) (b4 : Option Addr) (m4 : Nat) (d4 : Nat) (a5 : Option Addr) (n5 : Nat) (c5 : Nat) (b5 : Option Addr) (m5 : Nat) (d5 : Nat) (g : Nat) (X : World), A a1 n1 c1 b1 m1 d1 q2 a3 n3 c3 b3 m3 d3 a4 n4 c4 b4 m4 d4 a5 n5 c5 b5 m5 d5 g X → G a1 n1 c1 b1 m1 d1 q2 a3 n3 c3 b3 m3 d3 a4 n4 c4 b4 m4 d4 a5 n5 c5 b5 m5 d5 g X) : Z := k h
theorem via_6 {Z : Prop} (A G : Option Addr → Nat → Nat → Option Addr → Nat → Nat → Nat → Option Addr → Nat → Nat → Option Addr → Nat → Nat → Option Addr → Nat → Nat → Option Addr → Nat → Nat → Option Addr → Nat → Nat → Option Addr → Nat → Nat → Option Addr → Nat → Nat → Option Addr → Nat → Nat → Nat → World → Prop) (k : (∀ (a1 : Option Addr) (n1 : Nat) (c1 : Nat) (b1 : Option Addr) (m1 : Nat) (d1 : Nat) (q2 : Nat) (a3 : Option Addr) (n3 : Nat) (c3 : Nat) (b3 : Option Addr) (m3 : Nat) (d3 : Nat) (a4 : Option Addr) (n4 : Nat) (c4 : Nat) (b4 : Option Addr) (m4 : Nat) (d4 : Nat) (a5 : Option Addr) (n5 : Nat) (c5 : Nat) (b5 : Option Addr) (m5 : Nat) (d5 : Nat) (a6 : Option Addr) (n6 : Nat) (c6 : Nat) (b6 : Option Addr) (m6 : Nat) (d6 : Nat) (g : Nat) (X : World), A a1 n1 c1 b1 m1 d1 q2 a3 n3 c3 b3 m3 d3 a4 n4 c4 b4 m4 d4 a5 n5 c5 b5 m5 d5 a6 n6 c6 b6 m6 d6 g X → G a1 n1 c1 b1 m1 d1 q2 a3 n3 c3 b3 m3 d3 a4 n4 c4 b4 m4 d4 a5 n5 c5 b5 m5 d5 a6 n6 c6 b6 m6 d6 g X) → Z) (h : ∀ (a1 : Option Addr) (n1 : Nat) (c1 : Nat) (b1 : Option Addr) (m1 : Nat) (d1 : Nat) (q2 : Nat) (a3 : Option Addr) (n3 : Nat) (c3 : Nat) (b3 : Option Addr) (m3 : Nat) (d3 : Nat) (a4 : Option Addr) (n4 : Nat) (c4 : Nat) (b4 : Option Addr) (m4 : Nat) (d4 : Nat) (a5 : Option Addr) (n5 : Nat) (c5 : Nat) (b5 : Option Addr) (m5 : Nat) (d5 : Nat) (a6 : Option Addr) (n6 : Nat) (c6 : Nat) (b6 : Option Addr) (m6 : Nat) (d6 : Nat) (g : Nat) (X : World), A a1 n1 c1 b1 m1 d1 q2 a3 n3 c3 b3 m3 d3 a4 n4 c4 b4 m4 d4 a5 n5 c5 b5 m5 d5 a6 n6 c6 b6 m6 d6 g X → G a1 n1 c1 b1 m1 d1 q2 a3 n3 c3 b3 m3 d3 a4 n4 c4 b4 m4 d4 a5 n5 c5 b5 m5 d5 a6 n6 c6 b6 m6 d6 g X) : Z := k h
theorem via_7 {Z : Prop} (A G : Option Addr → Nat → Nat → Option Addr → Nat → Nat → Nat → Option Addr → Nat → Nat → Option Addr → Nat → Nat → Option Addr → Nat → Nat → Option Addr → Nat → Nat → Option Addr → Nat → Nat → Option Addr → Nat → Nat → Option Addr → Nat → Nat → Option Addr → Nat → Nat → Option Addr → Nat → Nat → Option Addr → Nat → Nat → Nat → World → Prop) (k : (∀ (a1 : Option Addr) (n1 : Nat) (c1 : Nat) (b1 : Option Addr) (m1 : Nat) (d1 : Nat) (q2 : Nat) (a3 : Option Addr) (n3 : Nat) (c3 : Nat) (b3 : Option Addr) (m3 : Nat) (d3 : Nat) (a4 : Option Addr) (n4 : Nat) (c4 : Nat) (b4 : Option Addr) (m4 : Nat) (d4 : Nat) (a5 : Option Addr) (n5 : Nat) (c5 : Nat) (b5 : Option Addr) (m5 : Nat) (d5 : Nat) (a6 : Option Addr) (n6 : Nat) (c6 : Nat) (b6 : Option Addr) (m6 : Nat) (d6 : Nat) (a7 : Option Addr) (n7 : Nat) (c7 : Nat) (b7 : Option Addr) (m7 : Nat) (d7 : Nat) (g : Nat) (X : World), A a1 n1 c1 b1 m1 d1 q2 a3 n3 c3 b3 m3 d3 a4 n4 c4 b4 m4 d4 a5 n5 c5 b5 m5 d5 a6 n6 c6 b6 m6 d6 a7 n7 c7 b7 m7 d7 g X → G a1 n1 c1 b1 m1 d1 q2 a3 n3 c3 b3 m3 d3 a4 n4 c4 b4 m4 d4 a5 n5 c5 b5 m5 d5 a6 n6 c6 b6 m6 d6 a7 n7 c7 b7 m7 d7 g X) → Z) (h : ∀ (a1 : Option Addr) (n1 : Nat) (c1 : Nat) (b1 : Option Addr) (m1 : Nat) (d1 : Nat) (q2 : Nat) (a3 : Option Addr) (n3 : Nat) (c3 : Nat) (b3 : Option Addr) (m3 : Nat) (d3 : Nat) (a4 : Option Addr) (n4 : Nat) (c4 : Nat) (b4 : Option Addr) (m4 : Nat) (d4 : Nat) (a5 : Option Addr) (n5 : Nat) (c5 : Nat) (b5 : Option Addr) (m5 : Nat) (d5 : Nat) (a6 : Option Addr) (n6 : Nat) (c6 : Nat) (b6 : Option Addr) (m6 : Nat) (d6 : Nat) (a7 : Option Addr) (n7 : Nat) (c7 : Nat) (b7 : Option Addr) (m7 : Nat) (d7 : Nat) (g : Nat) (X : World), A a1 n1 c1 b1 m1 d1 q2 a3 n3 c3 b3 m3 d3 a4 n4 c4 b4 m4 d4 a5 n5 c5 b5 m5 d5 a6 n6 c6 b6 m6 d6 a7 n7 c7 b7 m7 d7 g X → G a1 n1 c1 b1 m1 d1 q2 a3 n3 c3 b3 m3 d3 a4 n4 c4 b4 m4 d4 a5 n5 c5 b5 m5 d5 a6 n6 c6 b6 m6 d6 a7 n7 c7 b7 m7 d7 g X) : Z := k h
theorem via_8 {Z : Prop} (A G : Option Addr → Nat → Nat → Option Addr → Nat → Nat → Nat → Option Addr → Nat → Nat → Option Addr → Nat → Nat → Option Addr → Nat → Nat → Option Addr → Nat → Nat → Option Addr → Nat → Nat → Option Addr → Nat → Nat → Option Addr → Nat → Nat → Option Addr → Nat → Nat → Option Addr → Nat → Nat → Option Addr → Nat → Nat → Option Addr → Nat → Nat → Option Addr → Nat → Nat → Nat → World → Prop) (k : (∀ (a1 : Option Addr) (n1 : Nat) (c1 : Nat) (b1 : Option Addr) (m1 : Nat) (d1 : Nat) (q2 : Nat) (a3 : Option Addr) (n3 : Nat) (c3 : Nat) (b3 : Option Addr) (m3 : Nat) (d3 : Nat) (a4 : Option Addr) (n4 : Nat) (c4 : Nat) (b4 : Option Addr) (m4 : Nat) (d4 : Nat) (a5 : Option Addr) (n5 : Nat) (c5 : Nat) (b5 : Option Addr) (m5 : Nat) (d5 : Nat) (a6 : Option Addr) (n6 : Nat) (c6 : Nat) (b6 : Option Addr) (m6 : Nat) (d6 : Nat) (a7 : Option Addr) (n7 : Nat) (c7 : Nat) (b7 : Option Addr) (m7 : Nat) (d7 : Nat) (a8 : Option Addr) (n8 : Nat) (c8 : Nat) (b8 : Option Addr) (m8 : Nat) (d8 : Nat) (g : Nat) (X : World), A a1 n1 c1 b1 m1 d1 q2 a3 n3 c3 b3 m3 d3 a4 n4 c4 b4 m4 d4 a5 n5 c5 b5 m5 d5 a6 n6 c6 b6 m6 d6 a7 n7 c7 b7 m7 d7 a8 n8 c8 b8 m8 d8 g X → G a1 n1 c1 b1 m1 d1 q2 a3 n3 c3 b3 m3 d3 a4 n4 c4 b4 m4 d4 a5 n5 c5 b5 m5 d5 a6 n6 c6 b6 m6 d6 a7 n7 c7 b7 m7 d7 a8 n8 c8 b8 m8 d8 g X) → Z) (h : ∀ (a1 : Option Addr) (n1 : Nat) (c1 : Nat) (b1 : Option Addr) (m1 : Nat) (d1 : Nat) (q2 : Nat) (a3 : Option Addr) (n3 : Nat) (c3 : Nat) (b3 : Option Addr) (m3 : Nat) (d3 : Nat) (a4 : Option Addr) (n4 : Nat) (c4 : Nat) (b4 : Option Addr) (m4 : Nat) (d4 : Nat) (a5 : Option Addr) (n5 : Nat) (c5 : Nat) (b5 : Option Addr) (m5 : Nat) (d5 : Nat) (a6 : Option Addr) (n6 : Nat) (c6 : Nat) (b6 : Option Addr) (m6 : Nat) (d6 : Nat) (a7 : Option Addr) (n7 : Nat) (c7 : Nat) (b7 : Option Addr) (m7 : Nat) (d7 : Nat) (a8 : Option Addr) (n8 : Nat) (c8 : Nat) (b8 : Option Addr) (m8 : Nat) (d8 : Nat) (g : Nat) (X : World), A a1 n1 c1 b1 m1 d1 q2 a3 n3 c3 b3 m3 d3 a4 n4 c4 b4 m4 d4 a5 n5 c5 b5 m5 d5 a6 n6 c6 b6 m6 d6 a7 n7 c7 b7 m7 d7 a8 n8 c8 b8 m8 d8 g X → G a1 n1 c1 b1 m1 d1 q2 a3 n3 c3 b3 m3 d3 a4 n4 c4 b4 m4 d4 a5 n5 c5 b5 m5 d5 a6 n6 c6 b6 m6 d6 a7 n7 c7 b7 m7 d7 a8 n8 c8 b8 m8 d8 g X) : Z := k h
theorem via_9 {Z : Prop} (A G : Option Addr → Nat → Nat → Option Addr → Nat → Nat → Nat → Option Addr → Nat → Nat → Option Addr → Nat → Nat → Option Addr → Nat → Nat → Option Addr → Nat → Nat → Option Addr → Nat → Nat → Option Addr → Nat → Nat → Option Addr → Nat → Nat → Option Addr → Nat → Nat → Option Addr → Nat → Nat → Option Addr → Nat → Nat → Option Addr → Nat → Nat → Option Addr → Nat → Nat → Option Addr → Nat → Nat → Option Addr → Nat → Nat → Nat → World → Prop) (k : (∀ (a1 : Option Addr) (n1 : Nat) (c1 : Nat) (b1 : Option Addr) (m1 : Nat) (d1 : Nat) (q2 : Nat) (a3 : Option Addr) (n3 : Nat) (c3 : Nat) (b3 : Option Addr) (m3 : Nat) (d3 : Nat) (a4 : Option Addr) (n4 : Nat) (c4 : Nat) (b4 : Option Addr) (m4 : Nat) (d4 : Nat) (a5 : Option Addr) (n5 : Nat) (c5 : Nat) (b5 : Option Addr) (m5 : Nat) (d5 : Nat) (a6 : Option Addr) (n6 : Nat) (c6 : Nat) (b6 : Option Addr) (m6 : Nat) (d6 : Nat) (a7 : Option Addr) (n7 : Nat) (c7 : Nat) (b7 : Option Addr) (m7 : Nat) (d7 : Nat) (a8 : Option Addr) (n8 : Nat) (c8 : Nat) (b8 : Option Addr) (m8 : Nat) (d8 : Nat) (a9 : Option Addr) (n9 : Nat) (c9 : Nat) (b9 : Option Addr) (m9 : Nat) (d9 : Nat) (g : Nat) (X : World), A a1 n1 c1 b1 m1 d1 q2 a3 n3 c3 b3 m3 d3 a4 n4 c4 b4 m4 d4 a5 n5 c5 b5 m5 d5 a6 n6 c6 b6 m6 d6 a7 n7 c7 b7 m7 d7 a8 n8 c8 b8 m8 d8 a9 n9 c9 b9 m9 d9 g X → G a1 n1 c1 b1 m1 d1 q2 a3 n3 c3 b3 m3 d3 a4 n4 c4 b4 m4 d4 a5 n5 c5 b5 m5 d5 a6 n6 c6 b6 m6 d6 a7 n7 c7 b7 m7 d7 a8 n8 c8 b8 m8 d8 a9 n9 c9 b9 m9 d9 g X) → Z) (h : ∀ (a1 : Option Addr) (n1 : Nat) (c1 : Nat) (b1 : Option Addr) (m1 : Nat) (d1 : Nat) (q2 : Nat) (a3 : Option Addr) (n3 : Nat) (c3 : Nat) (b3 : Option Addr) (m3 : Nat) (d3 : Nat) (a4 : Option Addr) (n4 : Nat) (c4 : Nat) (b4 : Option Addr) (m4 : Nat) (d4 : Nat) (a5 : Option Addr) (n5 : Nat) (c5 : Nat) (b5 : Option Addr) (m5 : Nat) (d5 : Nat) (a6 : Option Addr) (n6 : Nat) (c6 : Nat) (b6 : Option Addr) (m6 : Nat) (d6 : Nat) (a7 : Option Addr) (n7 : Nat) (c7 : Nat) (b7 : Option Addr) (m7 : Nat) (d7 : Nat) (a8 : Option Addr) (n8 : Nat) (c8 : Nat) (b8 : Option Addr) (m8 : Nat) (d8 : Nat) (a9 : Option Addr) (n9 : Nat) (c9 : Nat) (b9 : Option Addr) (m9 : Nat) (d9 : Nat) (g : Nat) (X : World), A a1 n1 c1 b1 m1 d1 q2 a3 n3 c3 b3 m3 d3 a4 n4 c4 b4 m4 d4 a5 n5 c5 b5 m5 d5 a6 n6 c6 b6 m6 d6 a7 n7 c7 b7 m7 d7 a8 n8 c8 b8 m8 d8 a9 n9 c9 b9 m9 d9 g X → G a1 n1 c1 b1 m1 d1 q2 a3 n3 c3 b3 m3 d3 a4 n4 c4 b4 m4 d4 a5 n5 c5 b5 m5 d5 a6 n6 c6 b6 m6 d6 a7 n7 c7 b7 m7 d7 a8 n8 c8 b8 m8 d8 a9 n9 c9 b9 m9 d9 g X) : Z := k h
theorem via_10 {Z : Prop} (A G : Option Addr → Nat → Nat → Option Addr → Nat → Nat → Nat → Option Addr → Nat → Nat → Option Addr → Nat → Nat → Option Addr → Nat → Nat → Option Addr → Nat → Nat → Option Addr → Nat → Nat → Option Addr → Nat → Nat → Option Addr → Nat → Nat → Option Addr → Nat → Nat → Option Addr → Nat → Nat → Option Addr → Nat → Nat → Option Addr → Nat → Nat → Option Addr → Nat → Nat → Option Addr → Nat → Nat → Option Addr → Nat → Nat → Option Addr → Nat → Nat → Option Addr → Nat → Nat → Nat → World → Prop) (k : (∀ (a1 : Option Addr) (n1 : Nat) (c1 : Nat) (b1 : Option Addr) (m1 : Nat) (d1 : Nat) (q2 : Nat) (a3 : Option Addr) (n3 : Nat) (c3 : Nat) (b3 : Option Addr) (m3 : Nat) (d3 : Nat) (a4 : Option Addr) (n4 : Nat) (c4 : Nat) (b4 : Option Addr) (m4 : Nat) (d4 : Nat) (a5 : Option Addr) (n5 : Nat) (c5 : Nat) (b5 : Option Addr) (m5 : Nat) (d5 : Nat) (a6 : Option Addr) (n6 : Nat) (c6 : Nat) (b6 : Option Addr) (m6 : Nat) (d6 : Nat) (a7 : Option Addr) (n7 : Nat) (c7 : Nat) (b7 : Option Addr) (m7 : Nat) (d7 : Nat) (a8 : Option Addr) (n8 : Nat) (c8 : Nat) (b8 : Option Addr) (m8 : Nat) (d8 : Nat) (a9 : Option Addr) (n9 : Nat) (c9 : Nat) (b9 : Option Addr) (m9 : Nat) (d9 : Nat) (a10 : Option Addr) (n10 : Nat) (c10 : Nat) (b10 : Option Addr) (m10 : Nat) (d10 : Nat) (g : Nat) (X : World), A a1 n1 c1 b1 m1 d1 q2 a3 n3 c3 b3 m3 d3 a4 n4 c4 b4 m4 d4 a5 n5 c5 b5 m5 d5 a6 n6 c6 b6 m6 d6 a7 n7 c7 b7 m7 d7 a8 n8 c8 b8 m8 d8 a9 n9 c9 b9 m9 d9 a10 n10 c10 b10 m10 d10 g X → G a1 n1 c1 b1 m1 d1 q2 a3 n3 c3 b3 m3 d3 a4 n4 c4 b4 m4 d4 a5 n5 c5 b5 m5 d5 a6 n6 c6 b6 m6 d6 a7 n7 c7 b7 m7 d7 a8 n8 c8 b8 m8 d8 a9 n9 c9 b9 m9 d9 a10 n10 c10 b10 m10 d10 g X) → Z) (h : ∀ (a1 : Option Addr) (n1 : Nat) (c1 : Nat) (b1 : Option Addr) (m1 : Nat) (d1 : Nat) (q2 : Nat) (a3 : Option Addr) (n3 : Nat) (c3 : Nat) (b3 : Option Addr) (m3 : Nat) (d3 : Nat) (a4 : Option Addr) (n4 : Nat) (c4 : Nat) (b4 : Option Addr) (m4 : Nat) (d4 : Nat) (a5 : Option Addr) (n5 : Nat) (c5 : Nat) (b5 : Option Addr) (m5 : Nat) (d5 : Nat) (a6 : Option Addr) (n6 : Nat) (c6 : Nat) (b6 : Option Addr) (m6 : Nat) (d6 : Nat) (a7 : Option Addr) (n7 : Nat) (c7 : Nat) (b7 : Option Addr) (m7 : Nat) (d7 : Nat) (a8 : Option Addr) (n8 : Nat) (c8 : Nat) (b8 : Option Addr) (m8 : Nat) (d8 : Nat) (a9 : Option Addr) (n9 : Nat) (c9 : Nat) (b9 : Option Addr) (m9 : Nat) (d9 : Nat) (a10 : Option Addr) (n10 : Nat) (c10 : Nat) (b10 : Option Addr) (m10 : Nat) (d10 : Nat) (g : Nat) (X : World), A a1 n1 c1 b1 m1 d1 q2 a3 n3 c3 b3 m3 d3 a4 n4 c4 b4 m4 d4 a5 n5 c5 b5 m5 d5 a6 n6 c6 b6 m6 d6 a7 n7 c7 b7 m7 d7 a8 n8 c8 b8 m8 d8 a9 n9 c9 b9 m9 d9 a10 n10 c10 b10 m10 d10 g X → G a1 n1 c1 b1 m1 d1 q2 a3 n3 c3 b3 m3 d3 a4 n4 c4 b4 m4 d4 a5 n5 c5 b5 m5 d5 a6 n6 c6 b6 m6 d6 a7 n7 c7 b7 m7 d7 a8 n8 c8 b8 m8 d8 a9 n9 c9 b9 m9 d9 a10 n10 c10 b10 m10 d10 g X) : Z := k h
theorem via_11 {Z : Prop} (A G : Option Addr → Nat → Nat → Option Addr → Nat → Nat → Nat → Option Addr → Nat → Nat → Option Addr → Nat → Nat → Option Addr → Nat → Nat → Option Addr → Nat → Nat → Option Addr → Nat → Nat → Option Addr → Nat → Nat → Option Addr → Nat → Nat → Option Addr → Nat → Nat → Option Addr → Nat → Nat → Option Addr → Nat → Nat → Option Addr → Nat → Nat → Option Addr → Nat → Nat → Option Addr → Nat → Nat → Option Addr → Nat → Nat → Option Addr → Nat → Nat → Option Addr → Nat → Nat → Nat → Nat → World → Prop) (k : (∀ (a1 : Option Addr) (n1 : Nat) (c1 : Nat) (b1 : Option Addr) (m1 : Nat) (d1 : Nat) (q2 : Nat) (a3 : Option Addr) (n3 : Nat) (c3 : Nat) (b3 : Option Addr) (m3 : Nat) (d3 : Nat) (a4 : Option Addr) (n4 : Nat) (c4 : Nat) (b4 : Option Addr) (m4 : Nat) (d4 : Nat) (a5 : Option Addr) (n5 : Nat) (c5 : Nat) (b5 : Option Addr) (m5 : Nat) (d5 : Nat) (a6 : Option Addr) (n6 : Nat) (c6 : Nat) (b6 : Option Addr) (m6 : Nat) (d6 : Nat) (a7 : Option Addr) (n7 : Nat) (c7 : Nat) (b7 : Option Addr) (m7 : Nat) (d7 : Nat) (a8 : Option Addr) (n8 : Nat) (c8 : Nat) (b8 : Option Addr) (m8 : Nat) (d8 : Nat) (a9 : Option Addr) (n9 : Nat) (c9 : Nat) (b9 : Option Addr) (m9 : Nat) (d9 : Nat) (a10 : Option Addr) (n10 : Nat) (c10 : Nat) (b10 : Option Addr) (m10 : Nat) (d10 : Nat) (q11 : Nat) (g : Nat) (X : World), A a1 n1 c1 b1 m1 d1 q2 a3 n3 c3 b3 m3 d3 a4 n4 c4 b4 m4 d4 a5 n5 c5 b5 m5 d5 a6 n6 c6 b6 m6 d6 a7 n7 c7 b7 m7 d7 a8 n8 c8 b8 m8 d8 a9 n9 c9 b9 m9 d9 a10 n10 c10 b10 m10 d10 q11 g X → G a1 n1 c1 b1 m1 d1 q2 a3 n3 c3 b3 m3 d3 a4 n4 c4 b4 m4 d4 a5 n5 c5 b5 m5 d5 a6 n6 c6 b6 m6 d6 a7 n7 c7 b7 m7 d7 a8 n8 c8 b8 m8 d8 a9 n9 c9 b9 m9 d9 a10 n10 c10 b10 m10 d10 q11 g X) → Z) (h : ∀ (a1 : Option Addr) (n1 : Nat) (c1 : Nat) (b1 : Option Addr) (m1 : Nat) (d1 : Nat) (q2 : Nat) (a3 : Option Addr) (n3 : Nat) (c3 : Nat) (b3 : Option Addr) (m3 : Nat) (d3 : Nat) (a4 : Option Addr) (n4 : Nat) (c4 : Nat) (b4 : Option Addr) (m4 : Nat) (d4 : Nat) (a5 : Option Addr) (n5 : Nat) (c5 : Nat) (b5 : Option Addr) (m5 : Nat) (d5 : Nat) (a6 : Option Addr) (n6 : Nat) (c6 : Nat) (b6 : Option Addr) (m6 : Nat) (d6 : Nat) (a7 : Option Addr) (n7 : Nat) (c7 : Nat) (b7 : Option Addr) (m7 : Nat) (d7 : Nat) (a8 : Option Addr) (n8 : Nat) (c8 : Nat) (b8 : Option Addr) (m8 : Nat) (d8 : Nat) (a9 : Option Addr) (n9 : Nat) (c9 : Nat) (b9 : Option Addr) (m9 : Nat) (d9 : Nat) (a10 : Option Addr) (n10 : Nat) (c10 : Nat) (b10 : Option Addr) (m10 : Nat) (d10 : Nat) (q11 : Nat) (g : Nat) (X : World), A a1 n1 c1 b1 m1 d1 q2 a3 n3 c3 b3 m3 d3 a4 n4 c4 b4 m4 d4 a5 n5 c5 b5 m5 d5 a6 n6 c6 b6 m6 d6 a7 n7 c7 b7 m7 d7 a8 n8 c8 b8 m8 d8 a9 n9 c9 b9 m9 d9 a10 n10 c10 b10 m10 d10 q11 g X → G a1 n1 c1 b1 m1 d1 q2 a3 n3 c3 b3 m3 d3 a4 n4 c4 b4 m4 d4 a5 n5 c5 b5 m5 d5 a6 n6 c6 b6 m6 d6 a7 n7 c7 b7 m7 d7 a8 n8 c8 b8 m8 d8 a9 n9 c9 b9 m9 d9 a10 n10 c10 b10 m10 d10 q11 g X) : Z := k h
theorem via_12 {Z : Prop} (A G : Option Addr → Nat → Nat → Option Addr → Nat → Nat → Nat → Option Addr → Nat → Nat → Option Addr → Nat → Nat → Option Addr → Nat → Nat → Option Addr → Nat → Nat → Option Addr → Nat → Nat → Option Addr → Nat → Nat → Option Addr → Nat → Nat → Option Addr → Nat → Nat → Option Addr → Nat → Nat → Option Addr → Nat → Nat → Option Addr → Nat → Nat → Option Addr → Nat → Nat → Option Addr → Nat → Nat → Option Addr → Nat → Nat → Option Addr → Nat → Nat → Option Addr → Nat → Nat → Nat → Option Addr → Nat → Nat → Option Addr → Nat → Nat → Nat → World → Prop) (k : (∀ (a1 : Option Addr) (n1 : Nat) (c1 : Nat) (b1 : Option Addr) (m1 : Nat) (d1 : Nat) (q2 : Nat) (a3 : Option Addr) (n3 : Nat) (c3 : Nat) (b3 : Option Addr) (m3 : Nat) (d3 : Nat) (a4 : Option Addr) (n4 : Nat) (c4 : Nat) (b4 : Option Addr) (m4 : Nat) (d4 : Nat) (a5 : Option Addr) (n5 : Nat) (c5 : Nat) (b5 : Option Addr) (m5 : Nat) (d5 : Nat) (a6 : Option Addr) (n6 : Nat) (c6 : Nat) (b6 : Option Addr) (m6 : Nat) (d6 : Nat) (a7 : Option Addr) (n7 : Nat) (c7 : Nat) (b7 : Option Addr) (m7 : Nat) (d7 : Nat) (a8 : Option Addr) (n8 : Nat) (c8 : Nat) (b8 : Option Addr) (m8 : Nat) (d8 : Nat) (a9 : Option Addr) (n9 : Nat) (c9 : Nat) (b9 : Option Addr) (m9 : Nat) (d9 : Nat) (a10 : Option Addr) (n10 : Nat) (c10 : Nat) (b10 : Option Addr) (m10 : Nat) (d10 : Nat) (q11 : Nat) (a12 : Option Addr) (n12 : Nat) (c12 : Nat) (b12 : Option Addr) (m12 : Nat) (d12 : Nat) (g : Nat) (X : World), A a1 n1 c1 b1 m1 d1 q2 a3 n3 c3 b3 m3 d3 a4 n4 c4 b4 m4 d4 a5 n5 c5 b5 m5 d5 a6 n6 c6 b6 m6 d6 a7 n7 c7 b7 m7 d7 a8 n8 c8 b8 m8 d8 a9 n9 c9 b9 m9 d9 a10 n10 c10 b10 m10 d10 q11 a12 n12 c12 b12 m12 d12 g X → G a1 n1 c1 b1 m1 d1 q2 a3 n3 c3 b3 m3 d3 a4 n4 c4 b4 m4 d4 a5 n5 c5 b5 m5 d5 a6 n6 c6 b6 m6 d6 a7 n7 c7 b7 m7 d7 a8 n8 c8 b8 m8 d8 a9 n9 c9 b9 m9 d9 a10 n10 c10 b10 m10 d10 q11 a12 n12 c12 b12 m12 d12 g X) → Z) (h : ∀ (a1 : Option Addr) (n1 : Nat) (c1 : Nat) (b1 : Option Addr) (m1 : Nat) (d1 : Nat) (q2 : Nat) (a3 : Option Addr) (n3 : Nat) (c3 : Nat) (b3 : Option Addr) (m3 : Nat) (d3 : Nat) (a4 : Option Addr) (n4 : Nat) (c4 : Nat) (b4 : Option Addr) (m4 : Nat) (d4 : Nat) (a5 : Option Addr) (n5 : Nat) (c5 : Nat) (b5 : Option Addr) (m5 : Nat) (d5 : Nat) (a6 : Option Addr) (n6 : Nat) (c6 : Nat) (b6 : Option Addr) (m6 : Nat) (d6 : Nat) (a7 : Option Addr) (n7 : Nat) (c7 : Nat) (b7 : Option Addr) (m7 : Nat) (d7 : Nat) (a8 : Option Addr) (n8 : Nat) (c8 : Nat) (b8 : Option Addr) (m8 : Nat) (d8 : Nat) (a9 : Option Addr) (n9 : Nat) (c9 : Nat) (b9 : Option Addr) (m9 : Nat) (d9 : Nat) (a10 : Option Addr) (n10 : Nat) (c10 : Nat) (b10 : Option Addr) (m10 : Nat) (d10 : Nat) (q11 : Nat) (a12 : Option Addr) (n12 : Nat) (c12 : Nat) (b12 : Option Addr) (m12 : Nat) (d12 : Nat) (g : Nat) (X : World), A a1 n1 c1 b1 m1 d1 q2 a3 n3 c3 b3 m3 d3 a4 n4 c4 b4 m4 d4 a5 n5 c5 b5 m5 d5 a6 n6 c6 b6 m6 d6 a7 n7 c7 b7 m7 d7 a8 n8 c8 b8 m8 d8 a9 n9 c9 b9 m9 d9 a10 n10 c10 b10 m10 d10 q11 a12 n12 c12 b12 m12 d12 g X → G a1 n1 c1 b1 m1 d1 q2 a3 n3 c3 b3 m3 d3 a4 n4 c4 b4 m4 d4 a5 n5 c5 b5 m5 d5 a6 n6 c6 b6 m6 d6 a7 n7 c7 b7 m7 d7 a8 n8 c8 b8 m8 d8 a9 n9 c9 b9 m9 d9 a10 n10 c10 b10 m10 d10 q11 a12 n12 c12 b12 m12 d12 g X) : Z := k h
set_option maxRecDepth 100000 in
set_option maxHeartbeats 64000000 in
theorem rtbs_k (w0 w : World) (h0 : Below w0.heap.size w0 w) (sn : Nat) (hsn : sn < 18446744073709551616) (is su : ByteArray) (ib sb : List Nat) (hib : strL is = ib) (hsb : strL su = sb) (his : is.size ≤ 140737488355328) (hsu : su.size ≤ 140737488355328)
    (ka : Option Addr) (kn kc : Nat) (kb : List Nat) (hk : BIn w ka kn kc kb) (hkn : kn ≤ 140737488351232) (xa : Option Addr) (n xc : Nat) (xs : List XV) (hx : XIn w0 xa n xc xs) (hn16 : n ≤ 16) (hc2 : C2 xs) (sa : Option Addr) (sl sc : Nat) :
    Calls Tryz.prog 25 #[.agg #[.int .u64 (sn : Nat), .string is, .string su, .slice ka kn kc, .slice xa n xc, .slice sa sl sc]] w (ItR (fun j => j < w0.heap.size) 48 [] (tbsK sn ib sb kb (exT xs)) w) := by
  have h00 := ((Below.refl _ w).alloc (Nat.le_refl _) (.cells #[.int .u64 (sn : Nat), .string is, .string su, .slice ka kn kc, .slice xa n xc, .slice sa sl sc] 26)).alloc (by simp) (.cells #[.int .u8 0, .slice none 0 0, .slice none 0 0] 45)
  have HBX := Lib.hid ((Blk.new w 26 [.int .u64 (sn : Nat), .string is, .string su, .slice ka kn kc, .slice xa n xc, .slice sa sl sc]).alloc (.cells #[.int .u8 0, .slice none 0 0, .slice none 0 0] 45))
  have HRS := Lib.hid (Blk.new2 w (.cells #[.int .u64 (sn : Nat), .string is, .string su, .slice ka kn kc, .slice xa n xc, .slice sa sl sc] 26) 45 [.int .u8 0, .slice none 0 0, .slice none 0 0])
  have HS0 := Lib.hid (show w.heap.size + 2 ≤ ((w.alloc (.cells #[.int .u64 (sn : Nat), .string is, .string su, .slice ka kn kc, .slice xa n xc, .slice sa sl sc] 26)).alloc (.cells #[.int .u8 0, .slice none 0 0, .slice none 0 0] 45)).heap.size by simp)
  have H00 := Lib.hid h00
  have HK := Lib.hid (hk.below h00)
  have HKN := Lib.hid hkn
  have HI := Lib.hid hib
  have HSB := Lib.hid hsb
  have HIS := Lib.hid his
  have HSU := Lib.hid hsu
  have HSN := Lib.hid hsn
  have HX := Lib.hid hx
  have H0B := Lib.hid h0
  have HU := Lib.hid (fun W => (show Calls Tryz.prog 45 #[.int .u64 2] W (ItR NoD 2 (be (nb 2) 2) .nil W) from rOfUint_d W 2 (by decide)))
  have HN16 := Lib.hid hn16
  have HCC2 := Lib.hid hc2
  clear h00 hk hkn hib hsb his hsu hsn hx hc2 h0 hn16
  go_enter Tryz.func25, Tryz.ntmps25
  go_upto_region 1 with (fail)
  generalize (w.alloc (.cells #[.int .u64 (sn : Nat), .string is, .string su, .slice ka kn kc, .slice xa n xc, .slice sa sl sc] 26)).alloc (.cells #[.int .u8 0, .slice none 0 0, .slice none 0 0] 45) = W0 at *
  have k0 := blkc HBX.out (i := 0) rfl
  have k1 := blkc HBX.out (i := 1) rfl
  have k2 := blkc HBX.out (i := 2) rfl
  have k3 := blkc HBX.out (i := 3) rfl
  go_cut [3] from 6 (fun v3 wx => TbsAt w0 w W0 (tbsK sn ib sb kb .nil) v3 wx)
  case first =>
    refine wp_region_L (fun w_ => Below W0.heap.size W0 w_) [23] [3, 7, 11, 15, 23] (by kernel_rfl) (Below.refl _ _).drew ?_
    refine wpAnyL_pure (fun _ _ hS_ hb_ => gr_bel hS_ hb_) (i := 3) rfl (by kernel_rfl) (fun _ _ _ h => h) (pureG (by rfl) (by intro w_; go_simp; first | done | with_reducible rfl)) ?_
    try simp only [Act.put, List.getElem_toArray, List.getElem_cons_succ, List.getElem_cons_zero, List.setIfInBounds_toArray, List.set_cons_zero, List.set_cons_succ]
    refine wpAnyL_pure (fun _ _ hS_ hb_ => gr_bel hS_ hb_) (i := 7) rfl (by kernel_rfl) (fun _ _ _ h => h) (pureG (by rfl) (by intro w_; go_simp; first | done | with_reducible rfl)) ?_
    try simp only [Act.put, List.getElem_toArray, List.getElem_cons_succ, List.getElem_cons_zero, List.setIfInBounds_toArray, List.set_cons_zero, List.set_cons_succ]
    refine wpAnyL_pure (fun _ _ hS_ hb_ => gr_bel hS_ hb_) (i := 11) rfl (by kernel_rfl) (fun _ _ _ h => h) (pureG (by rfl) (by intro w_; go_simp; first | done | with_reducible rfl)) ?_
    try simp only [Act.put, List.getElem_toArray, List.getElem_cons_succ, List.getElem_cons_zero, List.setIfInBounds_toArray, List.set_cons_zero, List.set_cons_succ]
    refine wpAnyL_pure (fun _ _ hS_ hb_ => gr_bel hS_ hb_) (i := 15) rfl (by kernel_rfl) (fun _ _ _ h => h) (pureG (by rfl) (by intro w_; go_simp; first | done | with_reducible rfl)) ?_
    try simp only [Act.put, List.getElem_toArray, List.getElem_cons_succ, List.getElem_cons_zero, List.setIfInBounds_toArray, List.set_cons_zero, List.set_cons_succ]
    refine wpAnyL_take (fun _ _ hS_ hb_ => gr_bel hS_ hb_) (i := 4) rfl (by kernel_rfl) (fun _ _ _ h => h) (worldG (by rfl) (by intro w_ hS_; have q := (hS_.cell (World.block_lt_of_cell? W0 _ k0)).trans k0; go_simp; first | done | with_reducible rfl)) ?_
    try simp only [Act.put, List.getElem_toArray, List.getElem_cons_succ, List.getElem_cons_zero, List.setIfInBounds_toArray, List.set_cons_zero, List.set_cons_succ]
    refine wpAnyL_take (fun _ _ hS_ hb_ => gr_bel hS_ hb_) (i := 8) rfl (by kernel_rfl) (fun _ _ _ h => h) (worldG (by rfl) (by intro w_ hS_; have q := (hS_.cell (World.block_lt_of_cell? W0 _ k1)).trans k1; go_simp; first | done | with_reducible rfl)) ?_
    try simp only [Act.put, List.getElem_toArray, List.getElem_cons_succ, List.getElem_cons_zero, List.setIfInBounds_toArray, List.set_cons_zero, List.set_cons_succ]
    refine wpAnyL_take (fun _ _ hS_ hb_ => gr_bel hS_ hb_) (i := 12) rfl (by kernel_rfl) (fun _ _ _ h => h) (worldG (by rfl) (by intro w_ hS_; have q := (hS_.cell (World.block_lt_of_cell? W0 _ k2)).trans k2; go_simp; first | done | with_reducible rfl)) ?_
    try simp only [Act.put, List.getElem_toArray, List.getElem_cons_succ, List.getElem_cons_zero, List.setIfInBounds_toArray, List.set_cons_zero, List.set_cons_succ]
    refine wpAnyL_take (fun _ _ hS_ hb_ => gr_bel hS_ hb_) (i := 16) rfl (by kernel_rfl) (fun _ _ _ h => h) (worldG (by rfl) (by intro w_ hS_; have q := (hS_.cell (World.block_lt_of_cell? W0 _ k3)).trans k3; go_simp; first | done | with_reducible rfl)) ?_
    try simp only [Act.put, List.getElem_toArray, List.getElem_cons_succ, List.getElem_cons_zero, List.setIfInBounds_toArray, List.set_cons_zero, List.set_cons_succ]
    apply via_12
    intro T12
    apply via_11
    intro T11
    apply via_10
    intro T10
    apply via_9
    intro T9
    apply via_8
    intro T8
    apply via_7
    intro T7
    apply via_6
    intro T6
    apply via_5
    intro T5
    apply via_4
    intro T4
    apply via_3
    intro T3
    apply via_2
    intro T2
    apply via_1
    intro T1
    apply via_0
    intro T0
    · skip
      refine wpAnyL_two (i := 0) (j := 22) (by kernel_rfl) (by decide) (by decide) (fun V1 hv1 hS1 => ?_) (fun V20 hv20 hS20 => ?_)
      rotate_left
      · skip
        have HSV20 : w.heap.size + 2 ≤ V20.heap.size := by { have h1 := hS20.size; have h2 := HS0.out; omega }
        replace HK := Lib.hid (HK.out.below hS20)
        refine wpOp_alloc (i := 22) rfl (by rfl) rfl [.int .u8 0, .slice none 0 0, .slice none 0 0] (by intro w_; go_simp; first | done | rfl) ?_
        refine ⟨hS20.alloc hS20.size _, ?_⟩
        try simp only [Act.put, List.getElem_toArray, List.getElem_cons_succ, List.getElem_cons_zero, List.setIfInBounds_toArray, List.set_cons_zero, List.set_cons_succ]
        obtain ⟨g, hg⟩ : ∃ g, V20.heap.size = g := ⟨_, rfl⟩
        have HG0 := Lib.hid (Blk.new V20 45 [.int .u8 0, .slice none 0 0, .slice none 0 0])
        have HGB := Lib.hid (show W0.heap.size ≤ V20.heap.size from hS20.size)
        replace HK := Lib.hid (HK.out.below (Gr.alloc V20 (.cells #[.int .u8 0, .slice none 0 0, .slice none 0 0] 45)))
        rw [hg] at HG0 HGB
        rw [hg]
        clear hg
        obtain ⟨X, hX⟩ : ∃ X, V20.alloc (.cells #[.int .u8 0, .slice none 0 0, .slice none 0 0] 45) = X := ⟨_, rfl⟩
        rw [hX] at HG0 HK
        rw [hX]
        refine wpAnyL_lst (l' := #[false, false, false, true, true, false, false, true, true, false, false, true, true, false, false, true, true, false, false, false, false, false, true, false]) (by kernel_rfl) ?_
        exact T0 g X (And.intro HG0 (And.intro HGB HK))
      have HSV1 : w.heap.size + 2 ≤ V1.heap.size := by { have h1 := hS1.size; have h2 := HS0.out; omega }
      replace HK := Lib.hid (HK.out.below hS1)
      refine wpOp_callE (i := 0) rfl (by rfl) rfl Tryz.func45 (by kernel_rfl) (by kernel_rfl) #[.int .u64 2] (by simp [Act.eval]) ((itG (D := (fun j => j < w0.heap.size ∨ w.heap.size + 2 ≤ j)) (HU.out V1) (fun _ h => h.elim) (fun j hj => .inr (by omega))).mono ?_)
      rintro e w1 ⟨a1, n1, c1, b1, m1, d1, hn1, hm1, rfl, hd1, hb1⟩
      have HN1 := Lib.hid hn1; have HM1 := Lib.hid hm1; clear hn1 hm1
      replace HK := Lib.hid (HK.out.below hb1)
      have HD1 := Lib.hid hd1; clear hd1
      refine ⟨_, rfl, Gr.trans hS1 hb1, ?_⟩
      try simp only [Act.put, List.getElem_toArray, List.getElem_cons_succ, List.getElem_cons_zero, List.setIfInBounds_toArray, List.set_cons_zero, List.set_cons_succ]
      refine wpAnyL_two (i := 1) (j := 22) (by kernel_rfl) (by decide) (by decide) (fun V2 hv2 hS2 => ?_) (fun V20 hv20 hS20 => ?_)
      rotate_left
      · skip
        have HSV20 : w.heap.size + 2 ≤ V20.heap.size := by { have h1 := hS20.size; have h2 := HS0.out; omega }
        replace HK := Lib.hid (HK.out.below hv20)
        replace HD1 := Lib.hid (HD1.out.below hv20)
        refine wpOp_alloc (i := 22) rfl (by rfl) rfl [.int .u8 0, .slice none 0 0, .slice none 0 0] (by intro w_; go_simp; first | done | rfl) ?_
        refine ⟨hS20.alloc hS20.size _, ?_⟩
        try simp only [Act.put, List.getElem_toArray, List.getElem_cons_succ, List.getElem_cons_zero, List.setIfInBounds_toArray, List.set_cons_zero, List.set_cons_succ]
        obtain ⟨g, hg⟩ : ∃ g, V20.heap.size = g := ⟨_, rfl⟩
        have HG0 := Lib.hid (Blk.new V20 45 [.int .u8 0, .slice none 0 0, .slice none 0 0])
        have HGB := Lib.hid (show W0.heap.size ≤ V20.heap.size from hS20.size)
        replace HK := Lib.hid (HK.out.below (Gr.alloc V20 (.cells #[.int .u8 0, .slice none 0 0, .slice none 0 0] 45)))
        replace HD1 := Lib.hid (HD1.out.cutne (Gr.alloc V20 (.cells #[.int .u8 0, .slice none 0 0, .slice none 0 0] 45)))
        rw [hg] at HG0 HGB HD1
        rw [hg]
        clear hg
        obtain ⟨X, hX⟩ : ∃ X, V20.alloc (.cells #[.int .u8 0, .slice none 0 0, .slice none 0 0] 45) = X := ⟨_, rfl⟩
        rw [hX] at HG0 HK HD1
        rw [hX]
        refine wpAnyL_lst (l' := #[true, false, false, true, true, false, false, true, true, false, false, true, true, false, false, true, true, false, false, false, false, false, true, false]) (by kernel_rfl) ?_
        exact T1 a1 n1 c1 b1 m1 d1 g X (And.intro HG0 (And.intro HGB (And.intro HK (And.intro HD1 (And.intro HN1 HM1)))))
      have HSV2 : w.heap.size + 2 ≤ V2.heap.size := by { have h1 := hS2.size; have h2 := HS0.out; omega }
      replace HK := Lib.hid (HK.out.below hv2)
      replace HD1 := Lib.hid (HD1.out.below hv2)
      refine wpOp_run (i := 1) (v := .slice (some ⟨V2.heap.size, 0, none⟩) 1 1) (W2 := V2.alloc (.cells #[.int .u8 2, .slice a1 n1 c1, .slice b1 m1 d1] 45)) rfl (by rfl) (by go_simp; first | done | rfl) ?_
      refine ⟨hS2.alloc hS2.size _, ?_⟩
      try simp only [Act.put, List.getElem_toArray, List.getElem_cons_succ, List.getElem_cons_zero, List.setIfInBounds_toArray, List.set_cons_zero, List.set_cons_succ]
      have HL2 := Lib.hid (lit_g (D := (fun j => j < w0.heap.size ∨ w.heap.size + 2 ≤ j)) (T := verK) (n := 1) (cons_g 2 rfl HN1.out HM1.out HD1.out dep_its0) rfl (by decide) (.inr HSV2))
      obtain ⟨q2, hq2⟩ : ∃ q, V2.heap.size = q := ⟨_, rfl⟩
      rw [hq2] at HL2
      rw [hq2]
      replace HK := Lib.hid (HK.out.below (Gr.alloc V2 (.cells #[.int .u8 2, .slice a1 n1 c1, .slice b1 m1 d1] 45)))
      replace HD1 := Lib.hid (HD1.out.below (Gr.alloc V2 (.cells #[.int .u8 2, .slice a1 n1 c1, .slice b1 m1 d1] 45)))
      refine wpAnyL_two (i := 2) (j := 22) (by kernel_rfl) (by decide) (by decide) (fun V3 hv3 hS3 => ?_) (fun V20 hv20 hS20 => ?_)
      rotate_left
      · skip
        have HSV20 : w.heap.size + 2 ≤ V20.heap.size := by { have h1 := hS20.size; have h2 := HS0.out; omega }
        replace HK := Lib.hid (HK.out.below hv20)
        replace HL2 := Lib.hid (HL2.out.below hv20)
        refine wpOp_alloc (i := 22) rfl (by rfl) rfl [.int .u8 0, .slice none 0 0, .slice none 0 0] (by intro w_; go_simp; first | done | rfl) ?_
        refine ⟨hS20.alloc hS20.size _, ?_⟩
        try simp only [Act.put, List.getElem_toArray, List.getElem_cons_succ, List.getElem_cons_zero, List.setIfInBounds_toArray, List.set_cons_zero, List.set_cons_succ]
        obtain ⟨g, hg⟩ : ∃ g, V20.heap.size = g := ⟨_, rfl⟩
        have HG0 := Lib.hid (Blk.new V20 45 [.int .u8 0, .slice none 0 0, .slice none 0 0])
        have HGB := Lib.hid (show W0.heap.size ≤ V20.heap.size from hS20.size)
        replace HK := Lib.hid (HK.out.below (Gr.alloc V20 (.cells #[.int .u8 0, .slice none 0 0, .slice none 0 0] 45)))
        replace HL2 := Lib.hid (HL2.out.cutne (Gr.alloc V20 (.cells #[.int .u8 0, .slice none 0 0, .slice none 0 0] 45)))
        rw [hg] at HG0 HGB HL2
        rw [hg]
        clear hg
        obtain ⟨X, hX⟩ : ∃ X, V20.alloc (.cells #[.int .u8 0, .slice none 0 0, .slice none 0 0] 45) = X := ⟨_, rfl⟩
        rw [hX] at HG0 HK HL2
        rw [hX]
        refine wpAnyL_lst (l' := #[true, true, false, true, true, false, false, true, true, false, false, true, true, false, false, true, true, false, false, false, false, false, true, false]) (by kernel_rfl) ?_
        exact T2 a1 n1 c1 b1 m1 d1 q2 g X (And.intro HG0 (And.intro HGB (And.intro HK HL2)))
      have HSV3 : w.heap.size + 2 ≤ V3.heap.size := by { have h1 := hS3.size; have h2 := HS0.out; omega }
      replace HK := Lib.hid (HK.out.below hv3)
      replace HL2 := Lib.hid (HL2.out.below hv3)
      refine wpOp_callE (i := 2) rfl (by rfl) rfl Tryz.func24 (by kernel_rfl) (by kernel_rfl) #[.int .u8 160, .slice (some ⟨q2, 0, none⟩) 1 1] (by simp [Act.eval]) ((itG (D := (fun j => j < w0.heap.size ∨ w.heap.size + 2 ≤ j)) (rseq_d (fun j => j < w0.heap.size ∨ w.heap.size + 2 ≤ j) 160 160 rfl (by decide) V3 _ 1 1 (verK) rfl HL2.out) (fun _ h => h) (fun j hj => .inr (by omega))).mono ?_)
      rintro e w3 ⟨a3, n3, c3, b3, m3, d3, hn3, hm3, rfl, hd3, hb3⟩
      have HN3 := Lib.hid hn3; have HM3 := Lib.hid hm3; clear hn3 hm3
      replace HK := Lib.hid (HK.out.below hb3)
      replace HL2 := Lib.hid (HL2.out.below hb3)
      have HD3 := Lib.hid hd3; clear hd3
      refine ⟨_, rfl, Gr.trans hS3 hb3, ?_⟩
      try simp only [Act.put, List.getElem_toArray, List.getElem_cons_succ, List.getElem_cons_zero, List.setIfInBounds_toArray, List.set_cons_zero, List.set_cons_succ]
      refine wpAnyL_two (i := 5) (j := 22) (by kernel_rfl) (by decide) (by decide) (fun V4 hv4 hS4 => ?_) (fun V20 hv20 hS20 => ?_)
      rotate_left
      · skip
        have HSV20 : w.heap.size + 2 ≤ V20.heap.size := by { have h1 := hS20.size; have h2 := HS0.out; omega }
        replace HK := Lib.hid (HK.out.below hv20)
        replace HD3 := Lib.hid (HD3.out.below hv20)
        refine wpOp_alloc (i := 22) rfl (by rfl) rfl [.int .u8 0, .slice none 0 0, .slice none 0 0] (by intro w_; go_simp; first | done | rfl) ?_
        refine ⟨hS20.alloc hS20.size _, ?_⟩
        try simp only [Act.put, List.getElem_toArray, List.getElem_cons_succ, List.getElem_cons_zero, List.setIfInBounds_toArray, List.set_cons_zero, List.set_cons_succ]
        obtain ⟨g, hg⟩ : ∃ g, V20.heap.size = g := ⟨_, rfl⟩
        have HG0 := Lib.hid (Blk.new V20 45 [.int .u8 0, .slice none 0 0, .slice none 0 0])
        have HGB := Lib.hid (show W0.heap.size ≤ V20.heap.size from hS20.size)
        replace HK := Lib.hid (HK.out.below (Gr.alloc V20 (.cells #[.int .u8 0, .slice none 0 0, .slice none 0 0] 45)))
        replace HD3 := Lib.hid (HD3.out.cutne (Gr.alloc V20 (.cells #[.int .u8 0, .slice none 0 0, .slice none 0 0] 45)))
        rw [hg] at HG0 HGB HD3
        rw [hg]
        clear hg
        obtain ⟨X, hX⟩ : ∃ X, V20.alloc (.cells #[.int .u8 0, .slice none 0 0, .slice none 0 0] 45) = X := ⟨_, rfl⟩
        rw [hX] at HG0 HK HD3
        rw [hX]
        refine wpAnyL_lst (l' := #[true, true, true, true, true, false, false, true, true, false, false, true, true, false, false, true, true, false, false, false, false, false, true, false]) (by kernel_rfl) ?_
        exact T3 a1 n1 c1 b1 m1 d1 q2 a3 n3 c3 b3 m3 d3 g X (And.intro HG0 (And.intro HGB (And.intro HK (And.intro HD3 (And.intro HN3 HM3)))))
      have HSV4 : w.heap.size + 2 ≤ V4.heap.size := by { have h1 := hS4.size; have h2 := HS0.out; omega }
      replace HK := Lib.hid (HK.out.below hv4)
      replace HD3 := Lib.hid (HD3.out.below hv4)
      refine wpOp_callE (i := 5) rfl (by rfl) rfl Tryz.func45 (by kernel_rfl) (by kernel_rfl) #[.int .u64 (sn : Nat)] (by simp [Act.eval]) ((itG (D := (fun j => j < w0.heap.size ∨ w.heap.size + 2 ≤ j)) (rOfUint_d V4 sn HSN.out) (fun _ h => h.elim) (fun j hj => .inr (by omega))).mono ?_)
      rintro e w4 ⟨a4, n4, c4, b4, m4, d4, hn4, hm4, rfl, hd4, hb4⟩
      have HN4 := Lib.hid hn4; have HM4 := Lib.hid hm4; clear hn4 hm4
      replace HK := Lib.hid (HK.out.below hb4)
      replace HD3 := Lib.hid (HD3.out.below hb4)
      have HD4 := Lib.hid hd4; clear hd4
      refine ⟨_, rfl, Gr.trans hS4 hb4, ?_⟩
      try simp only [Act.put, List.getElem_toArray, List.getElem_cons_succ, List.getElem_cons_zero, List.setIfInBounds_toArray, List.set_cons_zero, List.set_cons_succ]
      refine wpAnyL_two (i := 6) (j := 22) (by kernel_rfl) (by decide) (by decide) (fun V5 hv5 hS5 => ?_) (fun V20 hv20 hS20 => ?_)
      rotate_left
      · skip
        have HSV20 : w.heap.size + 2 ≤ V20.heap.size := by { have h1 := hS20.size; have h2 := HS0.out; omega }
        replace HK := Lib.hid (HK.out.below hv20)
        replace HD3 := Lib.hid (HD3.out.below hv20)
        replace HD4 := Lib.hid (HD4.out.below hv20)
        refine wpOp_alloc (i := 22) rfl (by rfl) rfl [.int .u8 0, .slice none 0 0, .slice none 0 0] (by intro w_; go_simp; first | done | rfl) ?_
        refine ⟨hS20.alloc hS20.size _, ?_⟩
        try simp only [Act.put, List.getElem_toArray, List.getElem_cons_succ, List.getElem_cons_zero, List.setIfInBounds_toArray, List.set_cons_zero, List.set_cons_succ]
        obtain ⟨g, hg⟩ : ∃ g, V20.heap.size = g := ⟨_, rfl⟩
        have HG0 := Lib.hid (Blk.new V20 45 [.int .u8 0, .slice none 0 0, .slice none 0 0])
        have HGB := Lib.hid (show W0.heap.size ≤ V20.heap.size from hS20.size)
        replace HK := Lib.hid (HK.out.below (Gr.alloc V20 (.cells #[.int .u8 0, .slice none 0 0, .slice none 0 0] 45)))
        replace HD3 := Lib.hid (HD3.out.cutne (Gr.alloc V20 (.cells #[.int .u8 0, .slice none 0 0, .slice none 0 0] 45)))
        replace HD4 := Lib.hid (HD4.out.cutne (Gr.alloc V20 (.cells #[.int .u8 0, .slice none 0 0, .slice none 0 0] 45)))
        rw [hg] at HG0 HGB HD3 HD4
        rw [hg]
        clear hg
        obtain ⟨X, hX⟩ : ∃ X, V20.alloc (.cells #[.int .u8 0, .slice none 0 0, .slice none 0 0] 45) = X := ⟨_, rfl⟩
        rw [hX] at HG0 HK HD3 HD4
        rw [hX]
        refine wpAnyL_lst (l' := #[true, true, true, true, true, true, false, true, true, false, false, true, true, false, false, true, true, false, false, false, false, false, true, false]) (by kernel_rfl) ?_
        exact T4 a1 n1 c1 b1 m1 d1 q2 a3 n3 c3 b3 m3 d3 a4 n4 c4 b4 m4 d4 g X (And.intro HG0 (And.intro HGB (And.intro HK (And.intro HD3 (And.intro HN3 (And.intro HM3 (And.intro HD4 (And.intro HN4 HM4))))))))
      have HSV5 : w.heap.size + 2 ≤ V5.heap.size := by { have h1 := hS5.size; have h2 := HS0.out; omega }
      replace HK := Lib.hid (HK.out.below hv5)
      replace HD3 := Lib.hid (HD3.out.below hv5)
      replace HD4 := Lib.hid (HD4.out.below hv5)
      refine wpOp_callE (i := 6) rfl (by rfl) rfl Tryz.func26 (by kernel_rfl) (by kernel_rfl) #[] (by simp [Act.eval]) ((itG (D := (fun j => j < w0.heap.size ∨ w.heap.size + 2 ≤ j)) (ralg_d V5) (fun _ h => h.elim) (fun j hj => .inr (by omega))).mono ?_)
      rintro e w5 ⟨a5, n5, c5, b5, m5, d5, hn5, hm5, rfl, hd5, hb5⟩
      have HN5 := Lib.hid hn5; have HM5 := Lib.hid hm5; clear hn5 hm5
      replace HK := Lib.hid (HK.out.below hb5)
      replace HD3 := Lib.hid (HD3.out.below hb5)
      replace HD4 := Lib.hid (HD4.out.below hb5)
      have HD5 := Lib.hid hd5; clear hd5
      refine ⟨_, rfl, Gr.trans hS5 hb5, ?_⟩
      try simp only [Act.put, List.getElem_toArray, List.getElem_cons_succ, List.getElem_cons_zero, List.setIfInBounds_toArray, List.set_cons_zero, List.set_cons_succ]
      refine wpAnyL_two (i := 9) (j := 22) (by kernel_rfl) (by decide) (by decide) (fun V6 hv6 hS6 => ?_) (fun V20 hv20 hS20 => ?_)
      rotate_left
      · skip
        have HSV20 : w.heap.size + 2 ≤ V20.heap.size := by { have h1 := hS20.size; have h2 := HS0.out; omega }
        replace HK := Lib.hid (HK.out.below hv20)
        replace HD3 := Lib.hid (HD3.out.below hv20)
        replace HD4 := Lib.hid (HD4.out.below hv20)
        replace HD5 := Lib.hid (HD5.out.below hv20)
        refine wpOp_alloc (i := 22) rfl (by rfl) rfl [.int .u8 0, .slice none 0 0, .slice none 0 0] (by intro w_; go_simp; first | done | rfl) ?_
        refine ⟨hS20.alloc hS20.size _, ?_⟩
        try simp only [Act.put, List.getElem_toArray, List.getElem_cons_succ, List.getElem_cons_zero, List.setIfInBounds_toArray, List.set_cons_zero, List.set_cons_succ]
        obtain ⟨g, hg⟩ : ∃ g, V20.heap.size = g := ⟨_, rfl⟩
        have HG0 := Lib.hid (Blk.new V20 45 [.int .u8 0, .slice none 0 0, .slice none 0 0])
        have HGB := Lib.hid (show W0.heap.size ≤ V20.heap.size from hS20.size)
        replace HK := Lib.hid (HK.out.below (Gr.alloc V20 (.cells #[.int .u8 0, .slice none 0 0, .slice none 0 0] 45)))
        replace HD3 := Lib.hid (HD3.out.cutne (Gr.alloc V20 (.cells #[.int .u8 0, .slice none 0 0, .slice none 0 0] 45)))
        replace HD4 := Lib.hid (HD4.out.cutne (Gr.alloc V20 (.cells #[.int .u8 0, .slice none 0 0, .slice none 0 0] 45)))
        replace HD5 := Lib.hid (HD5.out.cutne (Gr.alloc V20 (.cells #[.int .u8 0, .slice none 0 0, .slice none 0 0] 45)))
        rw [hg] at HG0 HGB HD3 HD4 HD5
        rw [hg]
        clear hg
        obtain ⟨X, hX⟩ : ∃ X, V20.alloc (.cells #[.int .u8 0, .slice none 0 0, .slice none 0 0] 45) = X := ⟨_, rfl⟩
        rw [hX] at HG0 HK HD3 HD4 HD5
        rw [hX]
        refine wpAnyL_lst (l' := #[true, true, true, true, true, true, true, true, true, false, false, true, true, false, false, true, true, false, false, false, false, false, true, false]) (by kernel_rfl) ?_
        exact T5 a1 n1 c1 b1 m1 d1 q2 a3 n3 c3 b3 m3 d3 a4 n4 c4 b4 m4 d4 a5 n5 c5 b5 m5 d5 g X (And.intro HG0 (And.intro HGB (And.intro HK (And.intro HD3 (And.intro HN3 (And.intro HM3 (And.intro HD4 (And.intro HN4 (And.intro HM4 (And.intro HD5 (And.intro HN5 HM5)))))))))))
      have HSV6 : w.heap.size + 2 ≤ V6.heap.size := by { have h1 := hS6.size; have h2 := HS0.out; omega }
      replace HK := Lib.hid (HK.out.below hv6)
      replace HD3 := Lib.hid (HD3.out.below hv6)
      replace HD4 := Lib.hid (HD4.out.below hv6)
      replace HD5 := Lib.hid (HD5.out.below hv6)
      refine wpOp_callE (i := 9) rfl (by rfl) rfl Tryz.func46 (by kernel_rfl) (by kernel_rfl) #[.string is] (by simp [Act.eval]) ((itG (D := (fun j => j < w0.heap.size ∨ w.heap.size + 2 ≤ j)) (rname_d V6 is ib HI.out HIS.out) (fun _ h => h.elim) (fun j hj => .inr (by omega))).mono ?_)
      rintro e w6 ⟨a6, n6, c6, b6, m6, d6, hn6, hm6, rfl, hd6, hb6⟩
      have HN6 := Lib.hid hn6; have HM6 := Lib.hid hm6; clear hn6 hm6
      replace HK := Lib.hid (HK.out.below hb6)
      replace HD3 := Lib.hid (HD3.out.below hb6)
      replace HD4 := Lib.hid (HD4.out.below hb6)
      replace HD5 := Lib.hid (HD5.out.below hb6)
      have HD6 := Lib.hid hd6; clear hd6
      refine ⟨_, rfl, Gr.trans hS6 hb6, ?_⟩
      try simp only [Act.put, List.getElem_toArray, List.getElem_cons_succ, List.getElem_cons_zero, List.setIfInBounds_toArray, List.set_cons_zero, List.set_cons_succ]
      refine wpAnyL_two (i := 10) (j := 22) (by kernel_rfl) (by decide) (by decide) (fun V7 hv7 hS7 => ?_) (fun V20 hv20 hS20 => ?_)
      rotate_left
      · skip
        have HSV20 : w.heap.size + 2 ≤ V20.heap.size := by { have h1 := hS20.size; have h2 := HS0.out; omega }
        replace HK := Lib.hid (HK.out.below hv20)
        replace HD3 := Lib.hid (HD3.out.below hv20)
        replace HD4 := Lib.hid (HD4.out.below hv20)
        replace HD5 := Lib.hid (HD5.out.below hv20)
        replace HD6 := Lib.hid (HD6.out.below hv20)
        refine wpOp_alloc (i := 22) rfl (by rfl) rfl [.int .u8 0, .slice none 0 0, .slice none 0 0] (by intro w_; go_simp; first | done | rfl) ?_
        refine ⟨hS20.alloc hS20.size _, ?_⟩
        try simp only [Act.put, List.getElem_toArray, List.getElem_cons_succ, List.getElem_cons_zero, List.setIfInBounds_toArray, List.set_cons_zero, List.set_cons_succ]
        obtain ⟨g, hg⟩ : ∃ g, V20.heap.size = g := ⟨_, rfl⟩
        have HG0 := Lib.hid (Blk.new V20 45 [.int .u8 0, .slice none 0 0, .slice none 0 0])
        have HGB := Lib.hid (show W0.heap.size ≤ V20.heap.size from hS20.size)
        replace HK := Lib.hid (HK.out.below (Gr.alloc V20 (.cells #[.int .u8 0, .slice none 0 0, .slice none 0 0] 45)))
        replace HD3 := Lib.hid (HD3.out.cutne (Gr.alloc V20 (.cells #[.int .u8 0, .slice none 0 0, .slice none 0 0] 45)))
        replace HD4 := Lib.hid (HD4.out.cutne (Gr.alloc V20 (.cells #[.int .u8 0, .slice none 0 0, .slice none 0 0] 45)))
        replace HD5 := Lib.hid (HD5.out.cutne (Gr.alloc V20 (.cells #[.int .u8 0, .slice none 0 0, .slice none 0 0] 45)))
        replace HD6 := Lib.hid (HD6.out.cutne (Gr.alloc V20 (.cells #[.int .u8 0, .slice none 0 0, .slice none 0 0] 45)))
        rw [hg] at HG0 HGB HD3 HD4 HD5 HD6
        rw [hg]
        clear hg
        obtain ⟨X, hX⟩ : ∃ X, V20.alloc (.cells #[.int .u8 0, .slice none 0 0, .slice none 0 0] 45) = X := ⟨_, rfl⟩
        rw [hX] at HG0 HK HD3 HD4 HD5 HD6
        rw [hX]
        refine wpAnyL_lst (l' := #[true, true, true, true, true, true, true, true, true, true, false, true, true, false, false, true, true, false, false, false, false, false, true, false]) (by kernel_rfl) ?_
        exact T6 a1 n1 c1 b1 m1 d1 q2 a3 n3 c3 b3 m3 d3 a4 n4 c4 b4 m4 d4 a5 n5 c5 b5 m5 d5 a6 n6 c6 b6 m6 d6 g X (And.intro HG0 (And.intro HGB (And.intro HK (And.intro HD3 (And.intro HN3 (And.intro HM3 (And.intro HD4 (And.intro HN4 (And.intro HM4 (And.intro HD5 (And.intro HN5 (And.intro HM5 (And.intro HD6 (And.intro HN6 HM6))))))))))))))
      have HSV7 : w.heap.size + 2 ≤ V7.heap.size := by { have h1 := hS7.size; have h2 := HS0.out; omega }
      replace HK := Lib.hid (HK.out.below hv7)
      replace HD3 := Lib.hid (HD3.out.below hv7)
      replace HD4 := Lib.hid (HD4.out.below hv7)
      replace HD5 := Lib.hid (HD5.out.below hv7)
      replace HD6 := Lib.hid (HD6.out.below hv7)
      refine wpOp_callE (i := 10) rfl (by rfl) rfl Tryz.func47 (by kernel_rfl) (by kernel_rfl) #[] (by simp [Act.eval]) ((itG (D := (fun j => j < w0.heap.size ∨ w.heap.size + 2 ≤ j)) (rtimes_d V7) (fun _ h => h.elim) (fun j hj => .inr (by omega))).mono ?_)
      rintro e w7 ⟨a7, n7, c7, b7, m7, d7, hn7, hm7, rfl, hd7, hb7⟩
      have HN7 := Lib.hid hn7; have HM7 := Lib.hid hm7; clear hn7 hm7
      replace HK := Lib.hid (HK.out.below hb7)
      replace HD3 := Lib.hid (HD3.out.below hb7)
      replace HD4 := Lib.hid (HD4.out.below hb7)
      replace HD5 := Lib.hid (HD5.out.below hb7)
      replace HD6 := Lib.hid (HD6.out.below hb7)
      have HD7 := Lib.hid hd7; clear hd7
      refine ⟨_, rfl, Gr.trans hS7 hb7, ?_⟩
      try simp only [Act.put, List.getElem_toArray, List.getElem_cons_succ, List.getElem_cons_zero, List.setIfInBounds_toArray, List.set_cons_zero, List.set_cons_succ]
      refine wpAnyL_two (i := 13) (j := 22) (by kernel_rfl) (by decide) (by decide) (fun V8 hv8 hS8 => ?_) (fun V20 hv20 hS20 => ?_)
      rotate_left
      · skip
        have HSV20 : w.heap.size + 2 ≤ V20.heap.size := by { have h1 := hS20.size; have h2 := HS0.out; omega }
        replace HK := Lib.hid (HK.out.below hv20)
        replace HD3 := Lib.hid (HD3.out.below hv20)
        replace HD4 := Lib.hid (HD4.out.below hv20)
        replace HD5 := Lib.hid (HD5.out.below hv20)
        replace HD6 := Lib.hid (HD6.out.below hv20)
        replace HD7 := Lib.hid (HD7.out.below hv20)
        refine wpOp_alloc (i := 22) rfl (by rfl) rfl [.int .u8 0, .slice none 0 0, .slice none 0 0] (by intro w_; go_simp; first | done | rfl) ?_
        refine ⟨hS20.alloc hS20.size _, ?_⟩
        try simp only [Act.put, List.getElem_toArray, List.getElem_cons_succ, List.getElem_cons_zero, List.setIfInBounds_toArray, List.set_cons_zero, List.set_cons_succ]
        obtain ⟨g, hg⟩ : ∃ g, V20.heap.size = g := ⟨_, rfl⟩
        have HG0 := Lib.hid (Blk.new V20 45 [.int .u8 0, .slice none 0 0, .slice none 0 0])
        have HGB := Lib.hid (show W0.heap.size ≤ V20.heap.size from hS20.size)
        replace HK := Lib.hid (HK.out.below (Gr.alloc V20 (.cells #[.int .u8 0, .slice none 0 0, .slice none 0 0] 45)))
        replace HD3 := Lib.hid (HD3.out.cutne (Gr.alloc V20 (.cells #[.int .u8 0, .slice none 0 0, .slice none 0 0] 45)))
        replace HD4 := Lib.hid (HD4.out.cutne (Gr.alloc V20 (.cells #[.int .u8 0, .slice none 0 0, .slice none 0 0] 45)))
        replace HD5 := Lib.hid (HD5.out.cutne (Gr.alloc V20 (.cells #[.int .u8 0, .slice none 0 0, .slice none 0 0] 45)))
        replace HD6 := Lib.hid (HD6.out.cutne (Gr.alloc V20 (.cells #[.int .u8 0, .slice none 0 0, .slice none 0 0] 45)))
        replace HD7 := Lib.hid (HD7.out.cutne (Gr.alloc V20 (.cells #[.int .u8 0, .slice none 0 0, .slice none 0 0] 45)))
        rw [hg] at HG0 HGB HD3 HD4 HD5 HD6 HD7
        rw [hg]
        clear hg
        obtain ⟨X, hX⟩ : ∃ X, V20.alloc (.cells #[.int .u8 0, .slice none 0 0, .slice none 0 0] 45) = X := ⟨_, rfl⟩
        rw [hX] at HG0 HK HD3 HD4 HD5 HD6 HD7
        rw [hX]
        refine wpAnyL_lst (l' := #[true, true, true, true, true, true, true, true, true, true, true, true, true, false, false, true, true, false, false, false, false, false, true, false]) (by kernel_rfl) ?_
        exact T7 a1 n1 c1 b1 m1 d1 q2 a3 n3 c3 b3 m3 d3 a4 n4 c4 b4 m4 d4 a5 n5 c5 b5 m5 d5 a6 n6 c6 b6 m6 d6 a7 n7 c7 b7 m7 d7 g X (And.intro HG0 (And.intro HGB (And.intro HK (And.intro HD3 (And.intro HN3 (And.intro HM3 (And.intro HD4 (And.intro HN4 (And.intro HM4 (And.intro HD5 (And.intro HN5 (And.intro HM5 (And.intro HD6 (And.intro HN6 (And.intro HM6 (And.intro HD7 (And.intro HN7 HM7)))))))))))))))))
      have HSV8 : w.heap.size + 2 ≤ V8.heap.size := by { have h1 := hS8.size; have h2 := HS0.out; omega }
      replace HK := Lib.hid (HK.out.below hv8)
      replace HD3 := Lib.hid (HD3.out.below hv8)
      replace HD4 := Lib.hid (HD4.out.below hv8)
      replace HD5 := Lib.hid (HD5.out.below hv8)
      replace HD6 := Lib.hid (HD6.out.below hv8)
      replace HD7 := Lib.hid (HD7.out.below hv8)
      refine wpOp_callE (i := 13) rfl (by rfl) rfl Tryz.func46 (by kernel_rfl) (by kernel_rfl) #[.string su] (by simp [Act.eval]) ((itG (D := (fun j => j < w0.heap.size ∨ w.heap.size + 2 ≤ j)) (rname_d V8 su sb HSB.out HSU.out) (fun _ h => h.elim) (fun j hj => .inr (by omega))).mono ?_)
      rintro e w8 ⟨a8, n8, c8, b8, m8, d8, hn8, hm8, rfl, hd8, hb8⟩
      have HN8 := Lib.hid hn8; have HM8 := Lib.hid hm8; clear hn8 hm8
      replace HK := Lib.hid (HK.out.below hb8)
      replace HD3 := Lib.hid (HD3.out.below hb8)
      replace HD4 := Lib.hid (HD4.out.below hb8)
      replace HD5 := Lib.hid (HD5.out.below hb8)
      replace HD6 := Lib.hid (HD6.out.below hb8)
      replace HD7 := Lib.hid (HD7.out.below hb8)
      have HD8 := Lib.hid hd8; clear hd8
      refine ⟨_, rfl, Gr.trans hS8 hb8, ?_⟩
      try simp only [Act.put, List.getElem_toArray, List.getElem_cons_succ, List.getElem_cons_zero, List.setIfInBounds_toArray, List.set_cons_zero, List.set_cons_succ]
      refine wpAnyL_two (i := 14) (j := 22) (by kernel_rfl) (by decide) (by decide) (fun V9 hv9 hS9 => ?_) (fun V20 hv20 hS20 => ?_)
      rotate_left
      · skip
        have HSV20 : w.heap.size + 2 ≤ V20.heap.size := by { have h1 := hS20.size; have h2 := HS0.out; omega }
        replace HK := Lib.hid (HK.out.below hv20)
        replace HD3 := Lib.hid (HD3.out.below hv20)
        replace HD4 := Lib.hid (HD4.out.below hv20)
        replace HD5 := Lib.hid (HD5.out.below hv20)
        replace HD6 := Lib.hid (HD6.out.below hv20)
        replace HD7 := Lib.hid (HD7.out.below hv20)
        replace HD8 := Lib.hid (HD8.out.below hv20)
        refine wpOp_alloc (i := 22) rfl (by rfl) rfl [.int .u8 0, .slice none 0 0, .slice none 0 0] (by intro w_; go_simp; first | done | rfl) ?_
        refine ⟨hS20.alloc hS20.size _, ?_⟩
        try simp only [Act.put, List.getElem_toArray, List.getElem_cons_succ, List.getElem_cons_zero, List.setIfInBounds_toArray, List.set_cons_zero, List.set_cons_succ]
        obtain ⟨g, hg⟩ : ∃ g, V20.heap.size = g := ⟨_, rfl⟩
        have HG0 := Lib.hid (Blk.new V20 45 [.int .u8 0, .slice none 0 0, .slice none 0 0])
        have HGB := Lib.hid (show W0.heap.size ≤ V20.heap.size from hS20.size)
        replace HK := Lib.hid (HK.out.below (Gr.alloc V20 (.cells #[.int .u8 0, .slice none 0 0, .slice none 0 0] 45)))
        replace HD3 := Lib.hid (HD3.out.cutne (Gr.alloc V20 (.cells #[.int .u8 0, .slice none 0 0, .slice none 0 0] 45)))
        replace HD4 := Lib.hid (HD4.out.cutne (Gr.alloc V20 (.cells #[.int .u8 0, .slice none 0 0, .slice none 0 0] 45)))
        replace HD5 := Lib.hid (HD5.out.cutne (Gr.alloc V20 (.cells #[.int .u8 0, .slice none 0 0, .slice none 0 0] 45)))
        replace HD6 := Lib.hid (HD6.out.cutne (Gr.alloc V20 (.cells #[.int .u8 0, .slice none 0 0, .slice none 0 0] 45)))
        replace HD7 := Lib.hid (HD7.out.cutne (Gr.alloc V20 (.cells #[.int .u8 0, .slice none 0 0, .slice none 0 0] 45)))
        replace HD8 := Lib.hid (HD8.out.cutne (Gr.alloc V20 (.cells #[.int .u8 0, .slice none 0 0, .slice none 0 0] 45)))
        rw [hg] at HG0 HGB HD3 HD4 HD5 HD6 HD7 HD8
        rw [hg]
        clear hg
        obtain ⟨X, hX⟩ : ∃ X, V20.alloc (.cells #[.int .u8 0, .slice none 0 0, .slice none 0 0] 45) = X := ⟨_, rfl⟩
        rw [hX] at HG0 HK HD3 HD4 HD5 HD6 HD7 HD8
        rw [hX]
        refine wpAnyL_lst (l' := #[true, true, true, true, true, true, true, true, true, true, true, true, true, true, false, true, true, false, false, false, false, false, true, false]) (by kernel_rfl) ?_
        exact T8 a1 n1 c1 b1 m1 d1 q2 a3 n3 c3 b3 m3 d3 a4 n4 c4 b4 m4 d4 a5 n5 c5 b5 m5 d5 a6 n6 c6 b6 m6 d6 a7 n7 c7 b7 m7 d7 a8 n8 c8 b8 m8 d8 g X (And.intro HG0 (And.intro HGB (And.intro HK (And.intro HD3 (And.intro HN3 (And.intro HM3 (And.intro HD4 (And.intro HN4 (And.intro HM4 (And.intro HD5 (And.intro HN5 (And.intro HM5 (And.intro HD6 (And.intro HN6 (And.intro HM6 (And.intro HD7 (And.intro HN7 (And.intro HM7 (And.intro HD8 (And.intro HN8 HM8))))))))))))))))))))
      have HSV9 : w.heap.size + 2 ≤ V9.heap.size := by { have h1 := hS9.size; have h2 := HS0.out; omega }
      replace HK := Lib.hid (HK.out.below hv9)
      replace HD3 := Lib.hid (HD3.out.below hv9)
      replace HD4 := Lib.hid (HD4.out.below hv9)
      replace HD5 := Lib.hid (HD5.out.below hv9)
      replace HD6 := Lib.hid (HD6.out.below hv9)
      replace HD7 := Lib.hid (HD7.out.below hv9)
      replace HD8 := Lib.hid (HD8.out.below hv9)
      refine wpOp_callE (i := 14) rfl (by rfl) rfl Tryz.func26 (by kernel_rfl) (by kernel_rfl) #[] (by simp [Act.eval]) ((itG (D := (fun j => j < w0.heap.size ∨ w.heap.size + 2 ≤ j)) (ralg_d V9) (fun _ h => h.elim) (fun j hj => .inr (by omega))).mono ?_)
      rintro e w9 ⟨a9, n9, c9, b9, m9, d9, hn9, hm9, rfl, hd9, hb9⟩
      have HN9 := Lib.hid hn9; have HM9 := Lib.hid hm9; clear hn9 hm9
      replace HK := Lib.hid (HK.out.below hb9)
      replace HD3 := Lib.hid (HD3.out.below hb9)
      replace HD4 := Lib.hid (HD4.out.below hb9)
      replace HD5 := Lib.hid (HD5.out.below hb9)
      replace HD6 := Lib.hid (HD6.out.below hb9)
      replace HD7 := Lib.hid (HD7.out.below hb9)
      replace HD8 := Lib.hid (HD8.out.below hb9)
      have HD9 := Lib.hid hd9; clear hd9
      refine ⟨_, rfl, Gr.trans hS9 hb9, ?_⟩
      try simp only [Act.put, List.getElem_toArray, List.getElem_cons_succ, List.getElem_cons_zero, List.setIfInBounds_toArray, List.set_cons_zero, List.set_cons_succ]
      refine wpAnyL_two (i := 17) (j := 22) (by kernel_rfl) (by decide) (by decide) (fun V10 hv10 hS10 => ?_) (fun V20 hv20 hS20 => ?_)
      rotate_left
      · skip
        have HSV20 : w.heap.size + 2 ≤ V20.heap.size := by { have h1 := hS20.size; have h2 := HS0.out; omega }
        replace HK := Lib.hid (HK.out.below hv20)
        replace HD3 := Lib.hid (HD3.out.below hv20)
        replace HD4 := Lib.hid (HD4.out.below hv20)
        replace HD5 := Lib.hid (HD5.out.below hv20)
        replace HD6 := Lib.hid (HD6.out.below hv20)
        replace HD7 := Lib.hid (HD7.out.below hv20)
        replace HD8 := Lib.hid (HD8.out.below hv20)
        replace HD9 := Lib.hid (HD9.out.below hv20)
        refine wpOp_alloc (i := 22) rfl (by rfl) rfl [.int .u8 0, .slice none 0 0, .slice none 0 0] (by intro w_; go_simp; first | done | rfl) ?_
        refine ⟨hS20.alloc hS20.size _, ?_⟩
        try simp only [Act.put, List.getElem_toArray, List.getElem_cons_succ, List.getElem_cons_zero, List.setIfInBounds_toArray, List.set_cons_zero, List.set_cons_succ]
        obtain ⟨g, hg⟩ : ∃ g, V20.heap.size = g := ⟨_, rfl⟩
        have HG0 := Lib.hid (Blk.new V20 45 [.int .u8 0, .slice none 0 0, .slice none 0 0])
        have HGB := Lib.hid (show W0.heap.size ≤ V20.heap.size from hS20.size)
        replace HK := Lib.hid (HK.out.below (Gr.alloc V20 (.cells #[.int .u8 0, .slice none 0 0, .slice none 0 0] 45)))
        replace HD3 := Lib.hid (HD3.out.cutne (Gr.alloc V20 (.cells #[.int .u8 0, .slice none 0 0, .slice none 0 0] 45)))
        replace HD4 := Lib.hid (HD4.out.cutne (Gr.alloc V20 (.cells #[.int .u8 0, .slice none 0 0, .slice none 0 0] 45)))
        replace HD5 := Lib.hid (HD5.out.cutne (Gr.alloc V20 (.cells #[.int .u8 0, .slice none 0 0, .slice none 0 0] 45)))
        replace HD6 := Lib.hid (HD6.out.cutne (Gr.alloc V20 (.cells #[.int .u8 0, .slice none 0 0, .slice none 0 0] 45)))
        replace HD7 := Lib.hid (HD7.out.cutne (Gr.alloc V20 (.cells #[.int .u8 0, .slice none 0 0, .slice none 0 0] 45)))
        replace HD8 := Lib.hid (HD8.out.cutne (Gr.alloc V20 (.cells #[.int .u8 0, .slice none 0 0, .slice none 0 0] 45)))
        replace HD9 := Lib.hid (HD9.out.cutne (Gr.alloc V20 (.cells #[.int .u8 0, .slice none 0 0, .slice none 0 0] 45)))
        rw [hg] at HG0 HGB HD3 HD4 HD5 HD6 HD7 HD8 HD9
        rw [hg]
        clear hg
        obtain ⟨X, hX⟩ : ∃ X, V20.alloc (.cells #[.int .u8 0, .slice none 0 0, .slice none 0 0] 45) = X := ⟨_, rfl⟩
        rw [hX] at HG0 HK HD3 HD4 HD5 HD6 HD7 HD8 HD9
        rw [hX]
        refine wpAnyL_lst (l' := #[true, true, true, true, true, true, true, true, true, true, true, true, true, true, true, true, true, false, false, false, false, false, true, false]) (by kernel_rfl) ?_
        exact T9 a1 n1 c1 b1 m1 d1 q2 a3 n3 c3 b3 m3 d3 a4 n4 c4 b4 m4 d4 a5 n5 c5 b5 m5 d5 a6 n6 c6 b6 m6 d6 a7 n7 c7 b7 m7 d7 a8 n8 c8 b8 m8 d8 a9 n9 c9 b9 m9 d9 g X (And.intro HG0 (And.intro HGB (And.intro HK (And.intro HD3 (And.intro HN3 (And.intro HM3 (And.intro HD4 (And.intro HN4 (And.intro HM4 (And.intro HD5 (And.intro HN5 (And.intro HM5 (And.intro HD6 (And.intro HN6 (And.intro HM6 (And.intro HD7 (And.intro HN7 (And.intro HM7 (And.intro HD8 (And.intro HN8 (And.intro HM8 (And.intro HD9 (And.intro HN9 HM9)))))))))))))))))))))))
      have HSV10 : w.heap.size + 2 ≤ V10.heap.size := by { have h1 := hS10.size; have h2 := HS0.out; omega }
      replace HK := Lib.hid (HK.out.below hv10)
      replace HD3 := Lib.hid (HD3.out.below hv10)
      replace HD4 := Lib.hid (HD4.out.below hv10)
      replace HD5 := Lib.hid (HD5.out.below hv10)
      replace HD6 := Lib.hid (HD6.out.below hv10)
      replace HD7 := Lib.hid (HD7.out.below hv10)
      replace HD8 := Lib.hid (HD8.out.below hv10)
      replace HD9 := Lib.hid (HD9.out.below hv10)
      refine wpOp_callE (i := 17) rfl (by rfl) rfl Tryz.func27 (by kernel_rfl) (by kernel_rfl) #[.slice ka kn kc] (by simp [Act.eval]) ((itG (D := (fun j => j < w0.heap.size ∨ w.heap.size + 2 ≤ j)) (rOfBits_d V10 kb ka kn kc HK.out HKN.out) (fun _ h => h.elim) (fun j hj => .inr (by omega))).mono ?_)
      rintro e w10 ⟨a10, n10, c10, b10, m10, d10, hn10, hm10, rfl, hd10, hb10⟩
      have HN10 := Lib.hid hn10; have HM10 := Lib.hid hm10; clear hn10 hm10
      replace HK := Lib.hid (HK.out.below hb10)
      replace HD3 := Lib.hid (HD3.out.below hb10)
      replace HD4 := Lib.hid (HD4.out.below hb10)
      replace HD5 := Lib.hid (HD5.out.below hb10)
      replace HD6 := Lib.hid (HD6.out.below hb10)
      replace HD7 := Lib.hid (HD7.out.below hb10)
      replace HD8 := Lib.hid (HD8.out.below hb10)
      replace HD9 := Lib.hid (HD9.out.below hb10)
      have HD10 := Lib.hid hd10; clear hd10
      refine ⟨_, rfl, Gr.trans hS10 hb10, ?_⟩
      try simp only [Act.put, List.getElem_toArray, List.getElem_cons_succ, List.getElem_cons_zero, List.setIfInBounds_toArray, List.set_cons_zero, List.set_cons_succ]
      refine wpAnyL_two (i := 18) (j := 22) (by kernel_rfl) (by decide) (by decide) (fun V11 hv11 hS11 => ?_) (fun V20 hv20 hS20 => ?_)
      rotate_left
      · skip
        have HSV20 : w.heap.size + 2 ≤ V20.heap.size := by { have h1 := hS20.size; have h2 := HS0.out; omega }
        replace HD3 := Lib.hid (HD3.out.below hv20)
        replace HD4 := Lib.hid (HD4.out.below hv20)
        replace HD5 := Lib.hid (HD5.out.below hv20)
        replace HD6 := Lib.hid (HD6.out.below hv20)
        replace HD7 := Lib.hid (HD7.out.below hv20)
        replace HD8 := Lib.hid (HD8.out.below hv20)
        replace HD9 := Lib.hid (HD9.out.below hv20)
        replace HD10 := Lib.hid (HD10.out.below hv20)
        refine wpOp_alloc (i := 22) rfl (by rfl) rfl [.int .u8 0, .slice none 0 0, .slice none 0 0] (by intro w_; go_simp; first | done | rfl) ?_
        refine ⟨hS20.alloc hS20.size _, ?_⟩
        try simp only [Act.put, List.getElem_toArray, List.getElem_cons_succ, List.getElem_cons_zero, List.setIfInBounds_toArray, List.set_cons_zero, List.set_cons_succ]
        obtain ⟨g, hg⟩ : ∃ g, V20.heap.size = g := ⟨_, rfl⟩
        have HG0 := Lib.hid (Blk.new V20 45 [.int .u8 0, .slice none 0 0, .slice none 0 0])
        have HGB := Lib.hid (show W0.heap.size ≤ V20.heap.size from hS20.size)
        replace HD3 := Lib.hid (HD3.out.cutne (Gr.alloc V20 (.cells #[.int .u8 0, .slice none 0 0, .slice none 0 0] 45)))
        replace HD4 := Lib.hid (HD4.out.cutne (Gr.alloc V20 (.cells #[.int .u8 0, .slice none 0 0, .slice none 0 0] 45)))
        replace HD5 := Lib.hid (HD5.out.cutne (Gr.alloc V20 (.cells #[.int .u8 0, .slice none 0 0, .slice none 0 0] 45)))
        replace HD6 := Lib.hid (HD6.out.cutne (Gr.alloc V20 (.cells #[.int .u8 0, .slice none 0 0, .slice none 0 0] 45)))
        replace HD7 := Lib.hid (HD7.out.cutne (Gr.alloc V20 (.cells #[.int .u8 0, .slice none 0 0, .slice none 0 0] 45)))
        replace HD8 := Lib.hid (HD8.out.cutne (Gr.alloc V20 (.cells #[.int .u8 0, .slice none 0 0, .slice none 0 0] 45)))
        replace HD9 := Lib.hid (HD9.out.cutne (Gr.alloc V20 (.cells #[.int .u8 0, .slice none 0 0, .slice none 0 0] 45)))
        replace HD10 := Lib.hid (HD10.out.cutne (Gr.alloc V20 (.cells #[.int .u8 0, .slice none 0 0, .slice none 0 0] 45)))
        rw [hg] at HG0 HGB HD3 HD4 HD5 HD6 HD7 HD8 HD9 HD10
        rw [hg]
        clear hg
        obtain ⟨X, hX⟩ : ∃ X, V20.alloc (.cells #[.int .u8 0, .slice none 0 0, .slice none 0 0] 45) = X := ⟨_, rfl⟩
        rw [hX] at HG0 HD3 HD4 HD5 HD6 HD7 HD8 HD9 HD10
        rw [hX]
        refine wpAnyL_lst (l' := #[true, true, true, true, true, true, true, true, true, true, true, true, true, true, true, true, true, true, false, false, false, false, true, false]) (by kernel_rfl) ?_
        exact T10 a1 n1 c1 b1 m1 d1 q2 a3 n3 c3 b3 m3 d3 a4 n4 c4 b4 m4 d4 a5 n5 c5 b5 m5 d5 a6 n6 c6 b6 m6 d6 a7 n7 c7 b7 m7 d7 a8 n8 c8 b8 m8 d8 a9 n9 c9 b9 m9 d9 a10 n10 c10 b10 m10 d10 g X (And.intro HG0 (And.intro HGB (And.intro HD3 (And.intro HN3 (And.intro HM3 (And.intro HD4 (And.intro HN4 (And.intro HM4 (And.intro HD5 (And.intro HN5 (And.intro HM5 (And.intro HD6 (And.intro HN6 (And.intro HM6 (And.intro HD7 (And.intro HN7 (And.intro HM7 (And.intro HD8 (And.intro HN8 (And.intro HM8 (And.intro HD9 (And.intro HN9 (And.intro HM9 (And.intro HD10 (And.intro HN10 HM10)))))))))))))))))))))))))
      have HSV11 : w.heap.size + 2 ≤ V11.heap.size := by { have h1 := hS11.size; have h2 := HS0.out; omega }
      replace HD3 := Lib.hid (HD3.out.below hv11)
      replace HD4 := Lib.hid (HD4.out.below hv11)
      replace HD5 := Lib.hid (HD5.out.below hv11)
      replace HD6 := Lib.hid (HD6.out.below hv11)
      replace HD7 := Lib.hid (HD7.out.below hv11)
      replace HD8 := Lib.hid (HD8.out.below hv11)
      replace HD9 := Lib.hid (HD9.out.below hv11)
      replace HD10 := Lib.hid (HD10.out.below hv11)
      refine wpOp_run (i := 18) (v := .slice (some ⟨V11.heap.size, 0, none⟩) 2 2) (W2 := V11.alloc (.cells #[.int .u8 48, .slice a9 n9 c9, .slice b9 m9 d9, .int .u8 3, .slice a10 n10 c10, .slice b10 m10 d10] 45)) rfl (by rfl) (by go_simp; first | done | rfl) ?_
      refine ⟨hS11.alloc hS11.size _, ?_⟩
      try simp only [Act.put, List.getElem_toArray, List.getElem_cons_succ, List.getElem_cons_zero, List.setIfInBounds_toArray, List.set_cons_zero, List.set_cons_succ]
      have HL11 := Lib.hid (lit_g (D := (fun j => j < w0.heap.size ∨ w.heap.size + 2 ≤ j)) (T := keyT kb) (n := 2) (cons_g 48 rfl HN9.out HM9.out HD9.out (cons_g 3 rfl HN10.out HM10.out HD10.out dep_its0)) rfl (by decide) (.inr HSV11))
      obtain ⟨q11, hq11⟩ : ∃ q, V11.heap.size = q := ⟨_, rfl⟩
      rw [hq11] at HL11
      rw [hq11]
      replace HD3 := Lib.hid (HD3.out.below (Gr.alloc V11 (.cells #[.int .u8 48, .slice a9 n9 c9, .slice b9 m9 d9, .int .u8 3, .slice a10 n10 c10, .slice b10 m10 d10] 45)))
      replace HD4 := Lib.hid (HD4.out.below (Gr.alloc V11 (.cells #[.int .u8 48, .slice a9 n9 c9, .slice b9 m9 d9, .int .u8 3, .slice a10 n10 c10, .slice b10 m10 d10] 45)))
      replace HD5 := Lib.hid (HD5.out.below (Gr.alloc V11 (.cells #[.int .u8 48, .slice a9 n9 c9, .slice b9 m9 d9, .int .u8 3, .slice a10 n10 c10, .slice b10 m10 d10] 45)))
      replace HD6 := Lib.hid (HD6.out.below (Gr.alloc V11 (.cells #[.int .u8 48, .slice a9 n9 c9, .slice b9 m9 d9, .int .u8 3, .slice a10 n10 c10, .slice b10 m10 d10] 45)))
      replace HD7 := Lib.hid (HD7.out.below (Gr.alloc V11 (.cells #[.int .u8 48, .slice a9 n9 c9, .slice b9 m9 d9, .int .u8 3, .slice a10 n10 c10, .slice b10 m10 d10] 45)))
      replace HD8 := Lib.hid (HD8.out.below (Gr.alloc V11 (.cells #[.int .u8 48, .slice a9 n9 c9, .slice b9 m9 d9, .int .u8 3, .slice a10 n10 c10, .slice b10 m10 d10] 45)))
      replace HD9 := Lib.hid (HD9.out.below (Gr.alloc V11 (.cells #[.int .u8 48, .slice a9 n9 c9, .slice b9 m9 d9, .int .u8 3, .slice a10 n10 c10, .slice b10 m10 d10] 45)))
      replace HD10 := Lib.hid (HD10.out.below (Gr.alloc V11 (.cells #[.int .u8 48, .slice a9 n9 c9, .slice b9 m9 d9, .int .u8 3, .slice a10 n10 c10, .slice b10 m10 d10] 45)))
      refine wpAnyL_two (i := 19) (j := 22) (by kernel_rfl) (by decide) (by decide) (fun V12 hv12 hS12 => ?_) (fun V20 hv20 hS20 => ?_)
      rotate_left
      · skip
        have HSV20 : w.heap.size + 2 ≤ V20.heap.size := by { have h1 := hS20.size; have h2 := HS0.out; omega }
        replace HD3 := Lib.hid (HD3.out.below hv20)
        replace HD4 := Lib.hid (HD4.out.below hv20)
        replace HD5 := Lib.hid (HD5.out.below hv20)
        replace HD6 := Lib.hid (HD6.out.below hv20)
        replace HD7 := Lib.hid (HD7.out.below hv20)
        replace HD8 := Lib.hid (HD8.out.below hv20)
        replace HL11 := Lib.hid (HL11.out.below hv20)
        refine wpOp_alloc (i := 22) rfl (by rfl) rfl [.int .u8 0, .slice none 0 0, .slice none 0 0] (by intro w_; go_simp; first | done | rfl) ?_
        refine ⟨hS20.alloc hS20.size _, ?_⟩
        try simp only [Act.put, List.getElem_toArray, List.getElem_cons_succ, List.getElem_cons_zero, List.setIfInBounds_toArray, List.set_cons_zero, List.set_cons_succ]
        obtain ⟨g, hg⟩ : ∃ g, V20.heap.size = g := ⟨_, rfl⟩
        have HG0 := Lib.hid (Blk.new V20 45 [.int .u8 0, .slice none 0 0, .slice none 0 0])
        have HGB := Lib.hid (show W0.heap.size ≤ V20.heap.size from hS20.size)
        replace HD3 := Lib.hid (HD3.out.cutne (Gr.alloc V20 (.cells #[.int .u8 0, .slice none 0 0, .slice none 0 0] 45)))
        replace HD4 := Lib.hid (HD4.out.cutne (Gr.alloc V20 (.cells #[.int .u8 0, .slice none 0 0, .slice none 0 0] 45)))
        replace HD5 := Lib.hid (HD5.out.cutne (Gr.alloc V20 (.cells #[.int .u8 0, .slice none 0 0, .slice none 0 0] 45)))
        replace HD6 := Lib.hid (HD6.out.cutne (Gr.alloc V20 (.cells #[.int .u8 0, .slice none 0 0, .slice none 0 0] 45)))
        replace HD7 := Lib.hid (HD7.out.cutne (Gr.alloc V20 (.cells #[.int .u8 0, .slice none 0 0, .slice none 0 0] 45)))
        replace HD8 := Lib.hid (HD8.out.cutne (Gr.alloc V20 (.cells #[.int .u8 0, .slice none 0 0, .slice none 0 0] 45)))
        replace HL11 := Lib.hid (HL11.out.cutne (Gr.alloc V20 (.cells #[.int .u8 0, .slice none 0 0, .slice none 0 0] 45)))
        rw [hg] at HG0 HGB HD3 HD4 HD5 HD6 HD7 HD8 HL11
        rw [hg]
        clear hg
        obtain ⟨X, hX⟩ : ∃ X, V20.alloc (.cells #[.int .u8 0, .slice none 0 0, .slice none 0 0] 45) = X := ⟨_, rfl⟩
        rw [hX] at HG0 HD3 HD4 HD5 HD6 HD7 HD8 HL11
        rw [hX]
        refine wpAnyL_lst (l' := #[true, true, true, true, true, true, true, true, true, true, true, true, true, true, true, true, true, true, true, false, false, false, true, false]) (by kernel_rfl) ?_
        exact T11 a1 n1 c1 b1 m1 d1 q2 a3 n3 c3 b3 m3 d3 a4 n4 c4 b4 m4 d4 a5 n5 c5 b5 m5 d5 a6 n6 c6 b6 m6 d6 a7 n7 c7 b7 m7 d7 a8 n8 c8 b8 m8 d8 a9 n9 c9 b9 m9 d9 a10 n10 c10 b10 m10 d10 q11 g X (And.intro HG0 (And.intro HGB (And.intro HD3 (And.intro HN3 (And.intro HM3 (And.intro HD4 (And.intro HN4 (And.intro HM4 (And.intro HD5 (And.intro HN5 (And.intro HM5 (And.intro HD6 (And.intro HN6 (And.intro HM6 (And.intro HD7 (And.intro HN7 (And.intro HM7 (And.intro HD8 (And.intro HN8 (And.intro HM8 HL11))))))))))))))))))))
      have HSV12 : w.heap.size + 2 ≤ V12.heap.size := by { have h1 := hS12.size; have h2 := HS0.out; omega }
      replace HD3 := Lib.hid (HD3.out.below hv12)
      replace HD4 := Lib.hid (HD4.out.below hv12)
      replace HD5 := Lib.hid (HD5.out.below hv12)
      replace HD6 := Lib.hid (HD6.out.below hv12)
      replace HD7 := Lib.hid (HD7.out.below hv12)
      replace HD8 := Lib.hid (HD8.out.below hv12)
      replace HL11 := Lib.hid (HL11.out.below hv12)
      refine wpOp_callE (i := 19) rfl (by rfl) rfl Tryz.func24 (by kernel_rfl) (by kernel_rfl) #[.int .u8 48, .slice (some ⟨q11, 0, none⟩) 2 2] (by simp [Act.eval]) ((itG (D := (fun j => j < w0.heap.size ∨ w.heap.size + 2 ≤ j)) (rseq_d (fun j => j < w0.heap.size ∨ w.heap.size + 2 ≤ j) 48 48 rfl (by decide) V12 _ 2 2 (keyT kb) rfl HL11.out) (fun _ h => h) (fun j hj => .inr (by omega))).mono ?_)
      rintro e w12 ⟨a12, n12, c12, b12, m12, d12, hn12, hm12, rfl, hd12, hb12⟩
      have HN12 := Lib.hid hn12; have HM12 := Lib.hid hm12; clear hn12 hm12
      replace HD3 := Lib.hid (HD3.out.below hb12)
      replace HD4 := Lib.hid (HD4.out.below hb12)
      replace HD5 := Lib.hid (HD5.out.below hb12)
      replace HD6 := Lib.hid (HD6.out.below hb12)
      replace HD7 := Lib.hid (HD7.out.below hb12)
      replace HD8 := Lib.hid (HD8.out.below hb12)
      replace HL11 := Lib.hid (HL11.out.below hb12)
      have HD12 := Lib.hid hd12; clear hd12
      refine ⟨_, rfl, Gr.trans hS12 hb12, ?_⟩
      try simp only [Act.put, List.getElem_toArray, List.getElem_cons_succ, List.getElem_cons_zero, List.setIfInBounds_toArray, List.set_cons_zero, List.set_cons_succ]
      refine wpAnyL_two (i := 20) (j := 22) (by kernel_rfl) (by decide) (by decide) (fun V13 hv13 hS13 => ?_) (fun V20 hv20 hS20 => ?_)
      rotate_left
      · skip
        have HSV20 : w.heap.size + 2 ≤ V20.heap.size := by { have h1 := hS20.size; have h2 := HS0.out; omega }
        replace HD3 := Lib.hid (HD3.out.below hv20)
        replace HD4 := Lib.hid (HD4.out.below hv20)
        replace HD5 := Lib.hid (HD5.out.below hv20)
        replace HD6 := Lib.hid (HD6.out.below hv20)
        replace HD7 := Lib.hid (HD7.out.below hv20)
        replace HD8 := Lib.hid (HD8.out.below hv20)
        replace HD12 := Lib.hid (HD12.out.below hv20)
        refine wpOp_alloc (i := 22) rfl (by rfl) rfl [.int .u8 0, .slice none 0 0, .slice none 0 0] (by intro w_; go_simp; first | done | rfl) ?_
        refine ⟨hS20.alloc hS20.size _, ?_⟩
        try simp only [Act.put, List.getElem_toArray, List.getElem_cons_succ, List.getElem_cons_zero, List.setIfInBounds_toArray, List.set_cons_zero, List.set_cons_succ]
        obtain ⟨g, hg⟩ : ∃ g, V20.heap.size = g := ⟨_, rfl⟩
        have HG0 := Lib.hid (Blk.new V20 45 [.int .u8 0, .slice none 0 0, .slice none 0 0])
        have HGB := Lib.hid (show W0.heap.size ≤ V20.heap.size from hS20.size)
        replace HD3 := Lib.hid (HD3.out.cutne (Gr.alloc V20 (.cells #[.int .u8 0, .slice none 0 0, .slice none 0 0] 45)))
        replace HD4 := Lib.hid (HD4.out.cutne (Gr.alloc V20 (.cells #[.int .u8 0, .slice none 0 0, .slice none 0 0] 45)))
        replace HD5 := Lib.hid (HD5.out.cutne (Gr.alloc V20 (.cells #[.int .u8 0, .slice none 0 0, .slice none 0 0] 45)))
        replace HD6 := Lib.hid (HD6.out.cutne (Gr.alloc V20 (.cells #[.int .u8 0, .slice none 0 0, .slice none 0 0] 45)))
        replace HD7 := Lib.hid (HD7.out.cutne (Gr.alloc V20 (.cells #[.int .u8 0, .slice none 0 0, .slice none 0 0] 45)))
        replace HD8 := Lib.hid (HD8.out.cutne (Gr.alloc V20 (.cells #[.int .u8 0, .slice none 0 0, .slice none 0 0] 45)))
        replace HD12 := Lib.hid (HD12.out.cutne (Gr.alloc V20 (.cells #[.int .u8 0, .slice none 0 0, .slice none 0 0] 45)))
        rw [hg] at HG0 HGB HD3 HD4 HD5 HD6 HD7 HD8 HD12
        rw [hg]
        clear hg
        obtain ⟨X, hX⟩ : ∃ X, V20.alloc (.cells #[.int .u8 0, .slice none 0 0, .slice none 0 0] 45) = X := ⟨_, rfl⟩
        rw [hX] at HG0 HD3 HD4 HD5 HD6 HD7 HD8 HD12
        rw [hX]
        refine wpAnyL_lst (l' := #[true, true, true, true, true, true, true, true, true, true, true, true, true, true, true, true, true, true, true, true, false, false, true, false]) (by kernel_rfl) ?_
        exact T12 a1 n1 c1 b1 m1 d1 q2 a3 n3 c3 b3 m3 d3 a4 n4 c4 b4 m4 d4 a5 n5 c5 b5 m5 d5 a6 n6 c6 b6 m6 d6 a7 n7 c7 b7 m7 d7 a8 n8 c8 b8 m8 d8 a9 n9 c9 b9 m9 d9 a10 n10 c10 b10 m10 d10 q11 a12 n12 c12 b12 m12 d12 g X (And.intro HG0 (And.intro HGB (And.intro HD3 (And.intro HN3 (And.intro HM3 (And.intro HD4 (And.intro HN4 (And.intro HM4 (And.intro HD5 (And.intro HN5 (And.intro HM5 (And.intro HD6 (And.intro HN6 (And.intro HM6 (And.intro HD7 (And.intro HN7 (And.intro HM7 (And.intro HD8 (And.intro HN8 (And.intro HM8 (And.intro HD12 (And.intro HN12 HM12))))))))))))))))))))))
      have HSV13 : w.heap.size + 2 ≤ V13.heap.size := by { have h1 := hS13.size; have h2 := HS0.out; omega }
      replace HD3 := Lib.hid (HD3.out.below hv13)
      replace HD4 := Lib.hid (HD4.out.below hv13)
      replace HD5 := Lib.hid (HD5.out.below hv13)
      replace HD6 := Lib.hid (HD6.out.below hv13)
      replace HD7 := Lib.hid (HD7.out.below hv13)
      replace HD8 := Lib.hid (HD8.out.below hv13)
      replace HD12 := Lib.hid (HD12.out.below hv13)
      refine wpOp_run (i := 20) (v := .slice (some ⟨V13.heap.size, 0, none⟩) 7 7) (W2 := V13.alloc (.cells #[.int .u8 160, .slice a3 n3 c3, .slice b3 m3 d3, .int .u8 2, .slice a4 n4 c4, .slice b4 m4 d4, .int .u8 48, .slice a5 n5 c5, .slice b5 m5 d5, .int .u8 48, .slice a6 n6 c6, .slice b6 m6 d6, .int .u8 48, .slice a7 n7 c7, .slice b7 m7 d7, .int .u8 48, .slice a8 n8 c8, .slice b8 m8 d8, .int .u8 48, .slice a12 n12 c12, .slice b12 m12 d12] 45)) rfl (by rfl) (by go_simp; first | done | rfl) ?_
      refine ⟨hS13.alloc hS13.size _, ?_⟩
      try simp only [Act.put, List.getElem_toArray, List.getElem_cons_succ, List.getElem_cons_zero, List.setIfInBounds_toArray, List.set_cons_zero, List.set_cons_succ]
      have HIT := Lib.hid ((Dep.self (X := fun x => Its x (tbsK sn ib sb kb .nil) _) (cons_g 160 rfl HN3.out HM3.out HD3.out (cons_g 2 rfl HN4.out HM4.out HD4.out (cons_g 48 rfl HN5.out HM5.out HD5.out (cons_g 48 rfl HN6.out HM6.out HD6.out (cons_g 48 rfl HN7.out HM7.out HD7.out (cons_g 48 rfl HN8.out HM8.out HD8.out (cons_g 48 rfl HN12.out HM12.out HD12.out dep_its0)))))))).below (Gr.alloc V13 (.cells #[.int .u8 160, .slice a3 n3 c3, .slice b3 m3 d3, .int .u8 2, .slice a4 n4 c4, .slice b4 m4 d4, .int .u8 48, .slice a5 n5 c5, .slice b5 m5 d5, .int .u8 48, .slice a6 n6 c6, .slice b6 m6 d6, .int .u8 48, .slice a7 n7 c7, .slice b7 m7 d7, .int .u8 48, .slice a8 n8 c8, .slice b8 m8 d8, .int .u8 48, .slice a12 n12 c12, .slice b12 m12 d12] 45)))
      have HO7 := Lib.hid (World.ownsRow_lit (base := w.heap.size + 2) (e := 45) (size := 3) V13 #[.int .u8 160, .slice a3 n3 c3, .slice b3 m3 d3, .int .u8 2, .slice a4 n4 c4, .slice b4 m4 d4, .int .u8 48, .slice a5 n5 c5, .slice b5 m5 d5, .int .u8 48, .slice a6 n6 c6, .slice b6 m6 d6, .int .u8 48, .slice a7 n7 c7, .slice b7 m7 d7, .int .u8 48, .slice a8 n8 c8, .slice b8 m8 d8, .int .u8 48, .slice a12 n12 c12, .slice b12 m12 d12] 7 HSV13 (by decide) rfl)
      have hsz13 : V13.heap.size < (V13.alloc (.cells #[.int .u8 160, .slice a3 n3 c3, .slice b3 m3 d3, .int .u8 2, .slice a4 n4 c4, .slice b4 m4 d4, .int .u8 48, .slice a5 n5 c5, .slice b5 m5 d5, .int .u8 48, .slice a6 n6 c6, .slice b6 m6 d6, .int .u8 48, .slice a7 n7 c7, .slice b7 m7 d7, .int .u8 48, .slice a8 n8 c8, .slice b8 m8 d8, .int .u8 48, .slice a12 n12 c12, .slice b12 m12 d12] 45)).heap.size := by simp
      have HSZ13 := Lib.hid hsz13
      refine wpAnyL_two (i := 21) (j := 22) (by kernel_rfl) (by decide) (by decide) (fun V14 hv14 hS14 => ?_) (fun V20 hv20 hS20 => ?_)
      rotate_left
      · skip
        have HSV20 : w.heap.size + 2 ≤ V20.heap.size := by { have h1 := hS20.size; have h2 := HS0.out; omega }
        replace HIT := Lib.hid (HIT.out.below hv20)
        replace HO7 := Lib.hid (own_below HO7.out hv20)
        replace HSZ13 := Lib.hid (Nat.lt_of_lt_of_le HSZ13.out hv20.size)
        refine wpOp_alloc (i := 22) rfl (by rfl) rfl [.int .u8 0, .slice none 0 0, .slice none 0 0] (by intro w_; go_simp; first | done | rfl) ?_
        refine ⟨hS20.alloc hS20.size _, ?_⟩
        try simp only [Act.put, List.getElem_toArray, List.getElem_cons_succ, List.getElem_cons_zero, List.setIfInBounds_toArray, List.set_cons_zero, List.set_cons_succ]
        obtain ⟨g, hg⟩ : ∃ g, V20.heap.size = g := ⟨_, rfl⟩
        have HG0 := Lib.hid (Blk.new V20 45 [.int .u8 0, .slice none 0 0, .slice none 0 0])
        have HGB := Lib.hid (show W0.heap.size ≤ V20.heap.size from hS20.size)
        replace HIT := Lib.hid (HIT.out.cutne (Gr.alloc V20 (.cells #[.int .u8 0, .slice none 0 0, .slice none 0 0] 45)))
        replace HO7 := Lib.hid (own_below HO7.out (Gr.alloc V20 (.cells #[.int .u8 0, .slice none 0 0, .slice none 0 0] 45)))
        have hsz20 := HSZ13.out
        replace HSZ13 := Lib.hid (Nat.lt_of_lt_of_le HSZ13.out (Gr.alloc V20 (.cells #[.int .u8 0, .slice none 0 0, .slice none 0 0] 45)).size)
        have HNE := Lib.hid (show V20.heap.size ≠ V13.heap.size from by omega)
        rw [hg] at HG0 HGB HIT HNE
        rw [hg]
        clear hg
        replace HIT := Lib.hid (HIT.out.mono (E := fun j => (j < w0.heap.size ∨ w.heap.size + 2 ≤ j) ∧ j ≠ g ∧ j < V13.heap.size) (fun j hj _ => ⟨hj.1.1, hj.2, hj.1.2⟩))
        refine wpAnyL_one (i := 21) (by kernel_rfl) (by decide) fun V14 hv14 hS14 => ?_
        have HSV14 : w.heap.size + 2 ≤ V14.heap.size := by { have h1 := hS14.size; have h2 := HS0.out; omega }
        replace HIT := Lib.hid (HIT.out.below hv14)
        replace HG0 := Lib.hid (HG0.out.below' hv14)
        replace HO7 := Lib.hid (own_below HO7.out hv14)
        replace HSZ13 := Lib.hid (Nat.lt_of_lt_of_le HSZ13.out hv14.size)
        refine wpOp_callE (i := 21) rfl (by rfl) rfl Tryz.func24 (by kernel_rfl) (by kernel_rfl) #[.int .u8 48, .slice (some ⟨V13.heap.size, 0, none⟩) 7 7] (by simp [Act.eval]) ((rseq_v 48 48 rfl V14 _ 7 7).mono ?_)
        rintro e w14 ⟨rfl, hb14⟩
        replace HIT := Lib.hid (HIT.out.below hb14)
        replace HG0 := Lib.hid (HG0.out.below' hb14)
        replace HO7 := Lib.hid (own_below HO7.out hb14)
        replace HSZ13 := Lib.hid (Nat.lt_of_lt_of_le HSZ13.out hb14.size)
        have HBW := Lib.hid (Below.trans hS14 (Below.mono hb14 hS14.size))
        refine ⟨_, rfl, Gr.trans hS14 hb14, ?_⟩
        try simp only [Act.put, List.getElem_toArray, List.getElem_cons_succ, List.getElem_cons_zero, List.setIfInBounds_toArray, List.set_cons_zero, List.set_cons_succ]
        refine wpAnyL_oneF (i := 23) (by kernel_rfl) (by decide) (by kernel_rfl) (by decide) fun V21 hv21 => ?_
        refine (StoresG.mk (g := g) (t := 45) (cs := [.int .u8 48, .slice none 0 0, .slice (some ⟨V13.heap.size, 0, none⟩) 7 7]) (by rfl) _ _ _ rfl rfl rfl info25 (by intro v hv; simp at hv; rcases hv with rfl | rfl | rfl <;> rfl)).wpOp (i := 23) rfl (HG0.out.below' hv21) rfl ?_
        try simp only [Act.put, List.getElem_toArray, List.getElem_cons_succ, List.getElem_cons_zero, List.setIfInBounds_toArray, List.set_cons_zero, List.set_cons_succ]
        refine wpAnyL_done (by kernel_rfl) ?_ _
        intro W9 hg9
        have hfin := tbs_fin HG0.out HGB.out HS0.out HIT.out HO7.out HBW.out HNE.out rfl hv21 hg9
        go_wp2_with fail
        go_meet
        exact hfin
      have HSV14 : w.heap.size + 2 ≤ V14.heap.size := by { have h1 := hS14.size; have h2 := HS0.out; omega }
      replace HIT := Lib.hid (HIT.out.below hv14)
      replace HO7 := Lib.hid (own_below HO7.out hv14)
      replace HSZ13 := Lib.hid (Nat.lt_of_lt_of_le HSZ13.out hv14.size)
      refine wpOp_callE (i := 21) rfl (by rfl) rfl Tryz.func24 (by kernel_rfl) (by kernel_rfl) #[.int .u8 48, .slice (some ⟨V13.heap.size, 0, none⟩) 7 7] (by simp [Act.eval]) ((rseq_v 48 48 rfl V14 _ 7 7).mono ?_)
      rintro e w14 ⟨rfl, hb14⟩
      replace HIT := Lib.hid (HIT.out.below hb14)
      replace HO7 := Lib.hid (own_below HO7.out hb14)
      replace HSZ13 := Lib.hid (Nat.lt_of_lt_of_le HSZ13.out hb14.size)
      have HBW := Lib.hid (Below.trans hS14 (Below.mono hb14 hS14.size))
      refine ⟨_, rfl, Gr.trans hS14 hb14, ?_⟩
      try simp only [Act.put, List.getElem_toArray, List.getElem_cons_succ, List.getElem_cons_zero, List.setIfInBounds_toArray, List.set_cons_zero, List.set_cons_succ]
      refine wpAnyL_one (i := 22) (by kernel_rfl) (by decide) fun V20 hv20 hS20 => ?_
      have HSV20 : w.heap.size + 2 ≤ V20.heap.size := by { have h1 := hS20.size; have h2 := HS0.out; omega }
      replace HIT := Lib.hid (HIT.out.below hv20)
      replace HO7 := Lib.hid (own_below HO7.out hv20)
      replace HSZ13 := Lib.hid (Nat.lt_of_lt_of_le HSZ13.out hv20.size)
      refine wpOp_alloc (i := 22) rfl (by rfl) rfl [.int .u8 0, .slice none 0 0, .slice none 0 0] (by intro w_; go_simp; first | done | rfl) ?_
      refine ⟨hS20.alloc hS20.size _, ?_⟩
      try simp only [Act.put, List.getElem_toArray, List.getElem_cons_succ, List.getElem_cons_zero, List.setIfInBounds_toArray, List.set_cons_zero, List.set_cons_succ]
      obtain ⟨g, hg⟩ : ∃ g, V20.heap.size = g := ⟨_, rfl⟩
      have HG0 := Lib.hid (Blk.new V20 45 [.int .u8 0, .slice none 0 0, .slice none 0 0])
      have HGB := Lib.hid (show W0.heap.size ≤ V20.heap.size from hS20.size)
      replace HIT := Lib.hid (HIT.out.cutne (Gr.alloc V20 (.cells #[.int .u8 0, .slice none 0 0, .slice none 0 0] 45)))
      replace HO7 := Lib.hid (own_below HO7.out (Gr.alloc V20 (.cells #[.int .u8 0, .slice none 0 0, .slice none 0 0] 45)))
      have hsz20 := HSZ13.out
      replace HSZ13 := Lib.hid (Nat.lt_of_lt_of_le HSZ13.out (Gr.alloc V20 (.cells #[.int .u8 0, .slice none 0 0, .slice none 0 0] 45)).size)
      have HNE := Lib.hid (show V20.heap.size ≠ V13.heap.size from by omega)
      rw [hg] at HG0 HGB HIT HNE
      rw [hg]
      clear hg
      replace HIT := Lib.hid (HIT.out.mono (E := fun j => (j < w0.heap.size ∨ w.heap.size + 2 ≤ j) ∧ j ≠ g ∧ j < V13.heap.size) (fun j hj _ => ⟨hj.1.1, hj.2, hj.1.2⟩))
      have HBW := Lib.hid (Below.trans hS20 (Below.mono (Gr.alloc V20 (.cells #[.int .u8 0, .slice none 0 0, .slice none 0 0] 45)) hS20.size))
      refine wpAnyL_oneF (i := 23) (by kernel_rfl) (by decide) (by kernel_rfl) (by decide) fun V21 hv21 => ?_
      refine (StoresG.mk (g := g) (t := 45) (cs := [.int .u8 48, .slice none 0 0, .slice (some ⟨V13.heap.size, 0, none⟩) 7 7]) (by rfl) _ _ _ rfl rfl rfl info25 (by intro v hv; simp at hv; rcases hv with rfl | rfl | rfl <;> rfl)).wpOp (i := 23) rfl (HG0.out.below' hv21) rfl ?_
      try simp only [Act.put, List.getElem_toArray, List.getElem_cons_succ, List.getElem_cons_zero, List.setIfInBounds_toArray, List.set_cons_zero, List.set_cons_succ]
      refine wpAnyL_done (by kernel_rfl) ?_ _
      intro W9 hg9
      have hfin := tbs_fin HG0.out HGB.out HS0.out HIT.out HO7.out HBW.out HNE.out rfl hv21 hg9
      go_wp2_with fail
      go_meet
      exact hfin
    · intro g X HA
      obtain ⟨HG0, HGB, HK⟩ := HA
      refine wpAnyL_one (i := 0) (by kernel_rfl) (by decide) fun V1 hv1 hS1 => ?_
      have HSV1 : w.heap.size + 2 ≤ V1.heap.size := by { have h1 := hS1.size; have h2 := HS0.out; omega }
      replace HG0 := Lib.hid (HG0.out.below' hv1)
      replace HK := Lib.hid (HK.out.below hv1)
      refine wpOp_callE (i := 0) rfl (by rfl) rfl Tryz.func45 (by kernel_rfl) (by kernel_rfl) #[.int .u64 2] (by simp [Act.eval]) ((itG (D := (fun j => (j < w0.heap.size ∨ w.heap.size + 2 ≤ j) ∧ j ≠ g)) (HU.out V1) (fun _ h => h.elim) (fun j hj => by have h9 := HG0.out.lt; exact ⟨.inr (by omega), by omega⟩)).mono ?_)
      rintro e w1 ⟨a1, n1, c1, b1, m1, d1, hn1, hm1, rfl, hd1, hb1⟩
      have HN1 := Lib.hid hn1; have HM1 := Lib.hid hm1; clear hn1 hm1
      replace HG0 := Lib.hid (HG0.out.below' hb1)
      replace HK := Lib.hid (HK.out.below hb1)
      have HD1 := Lib.hid hd1; clear hd1
      refine ⟨_, rfl, Gr.trans hS1 hb1, ?_⟩
      try simp only [Act.put, List.getElem_toArray, List.getElem_cons_succ, List.getElem_cons_zero, List.setIfInBounds_toArray, List.set_cons_zero, List.set_cons_succ]
      refine wpAnyL_lst (l' := #[true, false, false, true, true, false, false, true, true, false, false, true, true, false, false, true, true, false, false, false, false, false, true, false]) (by kernel_rfl) ?_
      exact T1 a1 n1 c1 b1 m1 d1 g w1 (And.intro HG0 (And.intro HGB (And.intro HK (And.intro HD1 (And.intro HN1 HM1)))))
    · intro a1 n1 c1 b1 m1 d1 g X HA
      obtain ⟨HG0, HGB, HK, HD1, HN1, HM1⟩ := HA
      refine wpAnyL_one (i := 1) (by kernel_rfl) (by decide) fun V2 hv2 hS2 => ?_
      have HSV2 : w.heap.size + 2 ≤ V2.heap.size := by { have h1 := hS2.size; have h2 := HS0.out; omega }
      replace HG0 := Lib.hid (HG0.out.below' hv2)
      replace HK := Lib.hid (HK.out.below hv2)
      replace HD1 := Lib.hid (HD1.out.below hv2)
      refine wpOp_run (i := 1) (v := .slice (some ⟨V2.heap.size, 0, none⟩) 1 1) (W2 := V2.alloc (.cells #[.int .u8 2, .slice a1 n1 c1, .slice b1 m1 d1] 45)) rfl (by rfl) (by go_simp; first | done | rfl) ?_
      refine ⟨hS2.alloc hS2.size _, ?_⟩
      try simp only [Act.put, List.getElem_toArray, List.getElem_cons_succ, List.getElem_cons_zero, List.setIfInBounds_toArray, List.set_cons_zero, List.set_cons_succ]
      have HL2 := Lib.hid (lit_g (D := (fun j => (j < w0.heap.size ∨ w.heap.size + 2 ≤ j) ∧ j ≠ g)) (T := verK) (n := 1) (cons_g 2 rfl HN1.out HM1.out HD1.out dep_its0) rfl (by decide) ⟨.inr HSV2, by have h9 := HG0.out.lt; omega⟩)
      obtain ⟨q2, hq2⟩ : ∃ q, V2.heap.size = q := ⟨_, rfl⟩
      rw [hq2] at HL2
      rw [hq2]
      replace HG0 := Lib.hid (HG0.out.below' (Gr.alloc V2 (.cells #[.int .u8 2, .slice a1 n1 c1, .slice b1 m1 d1] 45)))
      replace HK := Lib.hid (HK.out.below (Gr.alloc V2 (.cells #[.int .u8 2, .slice a1 n1 c1, .slice b1 m1 d1] 45)))
      replace HD1 := Lib.hid (HD1.out.below (Gr.alloc V2 (.cells #[.int .u8 2, .slice a1 n1 c1, .slice b1 m1 d1] 45)))
      obtain ⟨X, hX⟩ : ∃ X, V2.alloc (.cells #[.int .u8 2, .slice a1 n1 c1, .slice b1 m1 d1] 45) = X := ⟨_, rfl⟩
      rw [hX] at HG0 HK HL2
      rw [hX]
      refine wpAnyL_lst (l' := #[true, true, false, true, true, false, false, true, true, false, false, true, true, false, false, true, true, false, false, false, false, false, true, false]) (by kernel_rfl) ?_
      exact T2 a1 n1 c1 b1 m1 d1 q2 g X (And.intro HG0 (And.intro HGB (And.intro HK HL2)))
    · intro a1 n1 c1 b1 m1 d1 q2 g X HA
      obtain ⟨HG0, HGB, HK, HL2⟩ := HA
      refine wpAnyL_one (i := 2) (by kernel_rfl) (by decide) fun V3 hv3 hS3 => ?_
      have HSV3 : w.heap.size + 2 ≤ V3.heap.size := by { have h1 := hS3.size; have h2 := HS0.out; omega }
      replace HG0 := Lib.hid (HG0.out.below' hv3)
      replace HK := Lib.hid (HK.out.below hv3)
      replace HL2 := Lib.hid (HL2.out.below hv3)
      refine wpOp_callE (i := 2) rfl (by rfl) rfl Tryz.func24 (by kernel_rfl) (by kernel_rfl) #[.int .u8 160, .slice (some ⟨q2, 0, none⟩) 1 1] (by simp [Act.eval]) ((itG (D := (fun j => (j < w0.heap.size ∨ w.heap.size + 2 ≤ j) ∧ j ≠ g)) (rseq_d (fun j => (j < w0.heap.size ∨ w.heap.size + 2 ≤ j) ∧ j ≠ g) 160 160 rfl (by decide) V3 _ 1 1 (verK) rfl HL2.out) (fun _ h => h) (fun j hj => by have h9 := HG0.out.lt; exact ⟨.inr (by omega), by omega⟩)).mono ?_)
      rintro e w3 ⟨a3, n3, c3, b3, m3, d3, hn3, hm3, rfl, hd3, hb3⟩
      have HN3 := Lib.hid hn3; have HM3 := Lib.hid hm3; clear hn3 hm3
      replace HG0 := Lib.hid (HG0.out.below' hb3)
      replace HK := Lib.hid (HK.out.below hb3)
      replace HL2 := Lib.hid (HL2.out.below hb3)
      have HD3 := Lib.hid hd3; clear hd3
      refine ⟨_, rfl, Gr.trans hS3 hb3, ?_⟩
      try simp only [Act.put, List.getElem_toArray, List.getElem_cons_succ, List.getElem_cons_zero, List.setIfInBounds_toArray, List.set_cons_zero, List.set_cons_succ]
      refine wpAnyL_lst (l' := #[true, true, true, true, true, false, false, true, true, false, false, true, true, false, false, true, true, false, false, false, false, false, true, false]) (by kernel_rfl) ?_
      exact T3 a1 n1 c1 b1 m1 d1 q2 a3 n3 c3 b3 m3 d3 g w3 (And.intro HG0 (And.intro HGB (And.intro HK (And.intro HD3 (And.intro HN3 HM3)))))
    · intro a1 n1 c1 b1 m1 d1 q2 a3 n3 c3 b3 m3 d3 g X HA
      obtain ⟨HG0, HGB, HK, HD3, HN3, HM3⟩ := HA
      refine wpAnyL_one (i := 5) (by kernel_rfl) (by decide) fun V4 hv4 hS4 => ?_
      have HSV4 : w.heap.size + 2 ≤ V4.heap.size := by { have h1 := hS4.size; have h2 := HS0.out; omega }
      replace HG0 := Lib.hid (HG0.out.below' hv4)
      replace HK := Lib.hid (HK.out.below hv4)
      replace HD3 := Lib.hid (HD3.out.below hv4)
      refine wpOp_callE (i := 5) rfl (by rfl) rfl Tryz.func45 (by kernel_rfl) (by kernel_rfl) #[.int .u64 (sn : Nat)] (by simp [Act.eval]) ((itG (D := (fun j => (j < w0.heap.size ∨ w.heap.size + 2 ≤ j) ∧ j ≠ g)) (rOfUint_d V4 sn HSN.out) (fun _ h => h.elim) (fun j hj => by have h9 := HG0.out.lt; exact ⟨.inr (by omega), by omega⟩)).mono ?_)
      rintro e w4 ⟨a4, n4, c4, b4, m4, d4, hn4, hm4, rfl, hd4, hb4⟩
      have HN4 := Lib.hid hn4; have HM4 := Lib.hid hm4; clear hn4 hm4
      replace HG0 := Lib.hid (HG0.out.below' hb4)
      replace HK := Lib.hid (HK.out.below hb4)
      replace HD3 := Lib.hid (HD3.out.below hb4)
      have HD4 := Lib.hid hd4; clear hd4
      refine ⟨_, rfl, Gr.trans hS4 hb4, ?_⟩
      try simp only [Act.put, List.getElem_toArray, List.getElem_cons_succ, List.getElem_cons_zero, List.setIfInBounds_toArray, List.set_cons_zero, List.set_cons_succ]
      refine wpAnyL_lst (l' := #[true, true, true, true, true, true, false, true, true, false, false, true, true, false, false, true, true, false, false, false, false, false, true, false]) (by kernel_rfl) ?_
      exact T4 a1 n1 c1 b1 m1 d1 q2 a3 n3 c3 b3 m3 d3 a4 n4 c4 b4 m4 d4 g w4 (And.intro HG0 (And.intro HGB (And.intro HK (And.intro HD3 (And.intro HN3 (And.intro HM3 (And.intro HD4 (And.intro HN4 HM4))))))))
    · intro a1 n1 c1 b1 m1 d1 q2 a3 n3 c3 b3 m3 d3 a4 n4 c4 b4 m4 d4 g X HA
      obtain ⟨HG0, HGB, HK, HD3, HN3, HM3, HD4, HN4, HM4⟩ := HA
      refine wpAnyL_one (i := 6) (by kernel_rfl) (by decide) fun V5 hv5 hS5 => ?_
      have HSV5 : w.heap.size + 2 ≤ V5.heap.size := by { have h1 := hS5.size; have h2 := HS0.out; omega }
      replace HG0 := Lib.hid (HG0.out.below' hv5)
      replace HK := Lib.hid (HK.out.below hv5)
      replace HD3 := Lib.hid (HD3.out.below hv5)
      replace HD4 := Lib.hid (HD4.out.below hv5)
      refine wpOp_callE (i := 6) rfl (by rfl) rfl Tryz.func26 (by kernel_rfl) (by kernel_rfl) #[] (by simp [Act.eval]) ((itG (D := (fun j => (j < w0.heap.size ∨ w.heap.size + 2 ≤ j) ∧ j ≠ g)) (ralg_d V5) (fun _ h => h.elim) (fun j hj => by have h9 := HG0.out.lt; exact ⟨.inr (by omega), by omega⟩)).mono ?_)
      rintro e w5 ⟨a5, n5, c5, b5, m5, d5, hn5, hm5, rfl, hd5, hb5⟩
      have HN5 := Lib.hid hn5; have HM5 := Lib.hid hm5; clear hn5 hm5
      replace HG0 := Lib.hid (HG0.out.below' hb5)
      replace HK := Lib.hid (HK.out.below hb5)
      replace HD3 := Lib.hid (HD3.out.below hb5)
      replace HD4 := Lib.hid (HD4.out.below hb5)
      have HD5 := Lib.hid hd5; clear hd5
      refine ⟨_, rfl, Gr.trans hS5 hb5, ?_⟩
      try simp only [Act.put, List.getElem_toArray, List.getElem_cons_succ, List.getElem_cons_zero, List.setIfInBounds_toArray, List.set_cons_zero, List.set_cons_succ]
      refine wpAnyL_lst (l' := #[true, true, true, true, true, true, true, true, true, false, false, true, true, false, false, true, true, false, false, false, false, false, true, false]) (by kernel_rfl) ?_
      exact T5 a1 n1 c1 b1 m1 d1 q2 a3 n3 c3 b3 m3 d3 a4 n4 c4 b4 m4 d4 a5 n5 c5 b5 m5 d5 g w5 (And.intro HG0 (And.intro HGB (And.intro HK (And.intro HD3 (And.intro HN3 (And.intro HM3 (And.intro HD4 (And.intro HN4 (And.intro HM4 (And.intro HD5 (And.intro HN5 HM5)))))))))))
    · intro a1 n1 c1 b1 m1 d1 q2 a3 n3 c3 b3 m3 d3 a4 n4 c4 b4 m4 d4 a5 n5 c5 b5 m5 d5 g X HA
      obtain ⟨HG0, HGB, HK, HD3, HN3, HM3, HD4, HN4, HM4, HD5, HN5, HM5⟩ := HA
      refine wpAnyL_one (i := 9) (by kernel_rfl) (by decide) fun V6 hv6 hS6 => ?_
      have HSV6 : w.heap.size + 2 ≤ V6.heap.size := by { have h1 := hS6.size; have h2 := HS0.out; omega }
      replace HG0 := Lib.hid (HG0.out.below' hv6)
      replace HK := Lib.hid (HK.out.below hv6)
      replace HD3 := Lib.hid (HD3.out.below hv6)
      replace HD4 := Lib.hid (HD4.out.below hv6)
      replace HD5 := Lib.hid (HD5.out.below hv6)
      refine wpOp_callE (i := 9) rfl (by rfl) rfl Tryz.func46 (by kernel_rfl) (by kernel_rfl) #[.string is] (by simp [Act.eval]) ((itG (D := (fun j => (j < w0.heap.size ∨ w.heap.size + 2 ≤ j) ∧ j ≠ g)) (rname_d V6 is ib HI.out HIS.out) (fun _ h => h.elim) (fun j hj => by have h9 := HG0.out.lt; exact ⟨.inr (by omega), by omega⟩)).mono ?_)
      rintro e w6 ⟨a6, n6, c6, b6, m6, d6, hn6, hm6, rfl, hd6, hb6⟩
      have HN6 := Lib.hid hn6; have HM6 := Lib.hid hm6; clear hn6 hm6
      replace HG0 := Lib.hid (HG0.out.below' hb6)
      replace HK := Lib.hid (HK.out.below hb6)
      replace HD3 := Lib.hid (HD3.out.below hb6)
      replace HD4 := Lib.hid (HD4.out.below hb6)
      replace HD5 := Lib.hid (HD5.out.below hb6)
      have HD6 := Lib.hid hd6; clear hd6
      refine ⟨_, rfl, Gr.trans hS6 hb6, ?_⟩
      try simp only [Act.put, List.getElem_toArray, List.getElem_cons_succ, List.getElem_cons_zero, List.setIfInBounds_toArray, List.set_cons_zero, List.set_cons_succ]
      refine wpAnyL_lst (l' := #[true, true, true, true, true, true, true, true, true, true, false, true, true, false, false, true, true, false, false, false, false, false, true, false]) (by kernel_rfl) ?_
      exact T6 a1 n1 c1 b1 m1 d1 q2 a3 n3 c3 b3 m3 d3 a4 n4 c4 b4 m4 d4 a5 n5 c5 b5 m5 d5 a6 n6 c6 b6 m6 d6 g w6 (And.intro HG0 (And.intro HGB (And.intro HK (And.intro HD3 (And.intro HN3 (And.intro HM3 (And.intro HD4 (And.intro HN4 (And.intro HM4 (And.intro HD5 (And.intro HN5 (And.intro HM5 (And.intro HD6 (And.intro HN6 HM6))))))))))))))
    · intro a1 n1 c1 b1 m1 d1 q2 a3 n3 c3 b3 m3 d3 a4 n4 c4 b4 m4 d4 a5 n5 c5 b5 m5 d5 a6 n6 c6 b6 m6 d6 g X HA
      obtain ⟨HG0, HGB, HK, HD3, HN3, HM3, HD4, HN4, HM4, HD5, HN5, HM5, HD6, HN6, HM6⟩ := HA
      refine wpAnyL_one (i := 10) (by kernel_rfl) (by decide) fun V7 hv7 hS7 => ?_
      have HSV7 : w.heap.size + 2 ≤ V7.heap.size := by { have h1 := hS7.size; have h2 := HS0.out; omega }
      replace HG0 := Lib.hid (HG0.out.below' hv7)
      replace HK := Lib.hid (HK.out.below hv7)
      replace HD3 := Lib.hid (HD3.out.below hv7)
      replace HD4 := Lib.hid (HD4.out.below hv7)
      replace HD5 := Lib.hid (HD5.out.below hv7)
      replace HD6 := Lib.hid (HD6.out.below hv7)
      refine wpOp_callE (i := 10) rfl (by rfl) rfl Tryz.func47 (by kernel_rfl) (by kernel_rfl) #[] (by simp [Act.eval]) ((itG (D := (fun j => (j < w0.heap.size ∨ w.heap.size + 2 ≤ j) ∧ j ≠ g)) (rtimes_d V7) (fun _ h => h.elim) (fun j hj => by have h9 := HG0.out.lt; exact ⟨.inr (by omega), by omega⟩)).mono ?_)
      rintro e w7 ⟨a7, n7, c7, b7, m7, d7, hn7, hm7, rfl, hd7, hb7⟩
      have HN7 := Lib.hid hn7; have HM7 := Lib.hid hm7; clear hn7 hm7
      replace HG0 := Lib.hid (HG0.out.below' hb7)
      replace HK := Lib.hid (HK.out.below hb7)
      replace HD3 := Lib.hid (HD3.out.below hb7)
      replace HD4 := Lib.hid (HD4.out.below hb7)
      replace HD5 := Lib.hid (HD5.out.below hb7)
      replace HD6 := Lib.hid (HD6.out.below hb7)
      have HD7 := Lib.hid hd7; clear hd7
      refine ⟨_, rfl, Gr.trans hS7 hb7, ?_⟩
      try simp only [Act.put, List.getElem_toArray, List.getElem_cons_succ, List.getElem_cons_zero, List.setIfInBounds_toArray, List.set_cons_zero, List.set_cons_succ]
      refine wpAnyL_lst (l' := #[true, true, true, true, true, true, true, true, true, true, true, true, true, false, false, true, true, false, false, false, false, false, true, false]) (by kernel_rfl) ?_
      exact T7 a1 n1 c1 b1 m1 d1 q2 a3 n3 c3 b3 m3 d3 a4 n4 c4 b4 m4 d4 a5 n5 c5 b5 m5 d5 a6 n6 c6 b6 m6 d6 a7 n7 c7 b7 m7 d7 g w7 (And.intro HG0 (And.intro HGB (And.intro HK (And.intro HD3 (And.intro HN3 (And.intro HM3 (And.intro HD4 (And.intro HN4 (And.intro HM4 (And.intro HD5 (And.intro HN5 (And.intro HM5 (And.intro HD6 (And.intro HN6 (And.intro HM6 (And.intro HD7 (And.intro HN7 HM7)))))))))))))))))
    · intro a1 n1 c1 b1 m1 d1 q2 a3 n3 c3 b3 m3 d3 a4 n4 c4 b4 m4 d4 a5 n5 c5 b5 m5 d5 a6 n6 c6 b6 m6 d6 a7 n7 c7 b7 m7 d7 g X HA
      obtain ⟨HG0, HGB, HK, HD3, HN3, HM3, HD4, HN4, HM4, HD5, HN5, HM5, HD6, HN6, HM6, HD7, HN7, HM7⟩ := HA
      refine wpAnyL_one (i := 13) (by kernel_rfl) (by decide) fun V8 hv8 hS8 => ?_
      have HSV8 : w.heap.size + 2 ≤ V8.heap.size := by { have h1 := hS8.size; have h2 := HS0.out; omega }
      replace HG0 := Lib.hid (HG0.out.below' hv8)
      replace HK := Lib.hid (HK.out.below hv8)
      replace HD3 := Lib.hid (HD3.out.below hv8)
      replace HD4 := Lib.hid (HD4.out.below hv8)
      replace HD5 := Lib.hid (HD5.out.below hv8)
      replace HD6 := Lib.hid (HD6.out.below hv8)
      replace HD7 := Lib.hid (HD7.out.below hv8)
      refine wpOp_callE (i := 13) rfl (by rfl) rfl Tryz.func46 (by kernel_rfl) (by kernel_rfl) #[.string su] (by simp [Act.eval]) ((itG (D := (fun j => (j < w0.heap.size ∨ w.heap.size + 2 ≤ j) ∧ j ≠ g)) (rname_d V8 su sb HSB.out HSU.out) (fun _ h => h.elim) (fun j hj => by have h9 := HG0.out.lt; exact ⟨.inr (by omega), by omega⟩)).mono ?_)
      rintro e w8 ⟨a8, n8, c8, b8, m8, d8, hn8, hm8, rfl, hd8, hb8⟩
      have HN8 := Lib.hid hn8; have HM8 := Lib.hid hm8; clear hn8 hm8
      replace HG0 := Lib.hid (HG0.out.below' hb8)
      replace HK := Lib.hid (HK.out.below hb8)
      replace HD3 := Lib.hid (HD3.out.below hb8)
      replace HD4 := Lib.hid (HD4.out.below hb8)
      replace HD5 := Lib.hid (HD5.out.below hb8)
      replace HD6 := Lib.hid (HD6.out.below hb8)
      replace HD7 := Lib.hid (HD7.out.below hb8)
      have HD8 := Lib.hid hd8; clear hd8
      refine ⟨_, rfl, Gr.trans hS8 hb8, ?_⟩
      try simp only [Act.put, List.getElem_toArray, List.getElem_cons_succ, List.getElem_cons_zero, List.setIfInBounds_toArray, List.set_cons_zero, List.set_cons_succ]
      refine wpAnyL_lst (l' := #[true, true, true, true, true, true, true, true, true, true, true, true, true, true, false, true, true, false, false, false, false, false, true, false]) (by kernel_rfl) ?_
      exact T8 a1 n1 c1 b1 m1 d1 q2 a3 n3 c3 b3 m3 d3 a4 n4 c4 b4 m4 d4 a5 n5 c5 b5 m5 d5 a6 n6 c6 b6 m6 d6 a7 n7 c7 b7 m7 d7 a8 n8 c8 b8 m8 d8 g w8 (And.intro HG0 (And.intro HGB (And.intro HK (And.intro HD3 (And.intro HN3 (And.intro HM3 (And.intro HD4 (And.intro HN4 (And.intro HM4 (And.intro HD5 (And.intro HN5 (And.intro HM5 (And.intro HD6 (And.intro HN6 (And.intro HM6 (And.intro HD7 (And.intro HN7 (And.intro HM7 (And.intro HD8 (And.intro HN8 HM8))))))))))))))))))))
    · intro a1 n1 c1 b1 m1 d1 q2 a3 n3 c3 b3 m3 d3 a4 n4 c4 b4 m4 d4 a5 n5 c5 b5 m5 d5 a6 n6 c6 b6 m6 d6 a7 n7 c7 b7 m7 d7 a8 n8 c8 b8 m8 d8 g X HA
      obtain ⟨HG0, HGB, HK, HD3, HN3, HM3, HD4, HN4, HM4, HD5, HN5, HM5, HD6, HN6, HM6, HD7, HN7, HM7, HD8, HN8, HM8⟩ := HA
      refine wpAnyL_one (i := 14) (by kernel_rfl) (by decide) fun V9 hv9 hS9 => ?_
      have HSV9 : w.heap.size + 2 ≤ V9.heap.size := by { have h1 := hS9.size; have h2 := HS0.out; omega }
      replace HG0 := Lib.hid (HG0.out.below' hv9)
      replace HK := Lib.hid (HK.out.below hv9)
      replace HD3 := Lib.hid (HD3.out.below hv9)
      replace HD4 := Lib.hid (HD4.out.below hv9)
      replace HD5 := Lib.hid (HD5.out.below hv9)
      replace HD6 := Lib.hid (HD6.out.below hv9)
      replace HD7 := Lib.hid (HD7.out.below hv9)
      replace HD8 := Lib.hid (HD8.out.below hv9)
      refine wpOp_callE (i := 14) rfl (by rfl) rfl Tryz.func26 (by kernel_rfl) (by kernel_rfl) #[] (by simp [Act.eval]) ((itG (D := (fun j => (j < w0.heap.size ∨ w.heap.size + 2 ≤ j) ∧ j ≠ g)) (ralg_d V9) (fun _ h => h.elim) (fun j hj => by have h9 := HG0.out.lt; exact ⟨.inr (by omega), by omega⟩)).mono ?_)
      rintro e w9 ⟨a9, n9, c9, b9, m9, d9, hn9, hm9, rfl, hd9, hb9⟩
      have HN9 := Lib.hid hn9; have HM9 := Lib.hid hm9; clear hn9 hm9
      replace HG0 := Lib.hid (HG0.out.below' hb9)
      replace HK := Lib.hid (HK.out.below hb9)
      replace HD3 := Lib.hid (HD3.out.below hb9)
      replace HD4 := Lib.hid (HD4.out.below hb9)
      replace HD5 := Lib.hid (HD5.out.below hb9)
      replace HD6 := Lib.hid (HD6.out.below hb9)
      replace HD7 := Lib.hid (HD7.out.below hb9)
      replace HD8 := Lib.hid (HD8.out.below hb9)
      have HD9 := Lib.hid hd9; clear hd9
      refine ⟨_, rfl, Gr.trans hS9 hb9, ?_⟩
      try simp only [Act.put, List.getElem_toArray, List.getElem_cons_succ, List.getElem_cons_zero, List.setIfInBounds_toArray, List.set_cons_zero, List.set_cons_succ]
      refine wpAnyL_lst (l' := #[true, true, true, true, true, true, true, true, true, true, true, true, true, true, true, true, true, false, false, false, false, false, true, false]) (by kernel_rfl) ?_
      exact T9 a1 n1 c1 b1 m1 d1 q2 a3 n3 c3 b3 m3 d3 a4 n4 c4 b4 m4 d4 a5 n5 c5 b5 m5 d5 a6 n6 c6 b6 m6 d6 a7 n7 c7 b7 m7 d7 a8 n8 c8 b8 m8 d8 a9 n9 c9 b9 m9 d9 g w9 (And.intro HG0 (And.intro HGB (And.intro HK (And.intro HD3 (And.intro HN3 (And.intro HM3 (And.intro HD4 (And.intro HN4 (And.intro HM4 (And.intro HD5 (And.intro HN5 (And.intro HM5 (And.intro HD6 (And.intro HN6 (And.intro HM6 (And.intro HD7 (And.intro HN7 (And.intro HM7 (And.intro HD8 (And.intro HN8 (And.intro HM8 (And.intro HD9 (And.intro HN9 HM9)))))))))))))))))))))))
    · intro a1 n1 c1 b1 m1 d1 q2 a3 n3 c3 b3 m3 d3 a4 n4 c4 b4 m4 d4 a5 n5 c5 b5 m5 d5 a6 n6 c6 b6 m6 d6 a7 n7 c7 b7 m7 d7 a8 n8 c8 b8 m8 d8 a9 n9 c9 b9 m9 d9 g X HA
      obtain ⟨HG0, HGB, HK, HD3, HN3, HM3, HD4, HN4, HM4, HD5, HN5, HM5, HD6, HN6, HM6, HD7, HN7, HM7, HD8, HN8, HM8, HD9, HN9, HM9⟩ := HA
      refine wpAnyL_one (i := 17) (by kernel_rfl) (by decide) fun V10 hv10 hS10 => ?_
      have HSV10 : w.heap.size + 2 ≤ V10.heap.size := by { have h1 := hS10.size; have h2 := HS0.out; omega }
      replace HG0 := Lib.hid (HG0.out.below' hv10)
      replace HK := Lib.hid (HK.out.below hv10)
      replace HD3 := Lib.hid (HD3.out.below hv10)
      replace HD4 := Lib.hid (HD4.out.below hv10)
      replace HD5 := Lib.hid (HD5.out.below hv10)
      replace HD6 := Lib.hid (HD6.out.below hv10)
      replace HD7 := Lib.hid (HD7.out.below hv10)
      replace HD8 := Lib.hid (HD8.out.below hv10)
      replace HD9 := Lib.hid (HD9.out.below hv10)
      refine wpOp_callE (i := 17) rfl (by rfl) rfl Tryz.func27 (by kernel_rfl) (by kernel_rfl) #[.slice ka kn kc] (by simp [Act.eval]) ((itG (D := (fun j => (j < w0.heap.size ∨ w.heap.size + 2 ≤ j) ∧ j ≠ g)) (rOfBits_d V10 kb ka kn kc HK.out HKN.out) (fun _ h => h.elim) (fun j hj => by have h9 := HG0.out.lt; exact ⟨.inr (by omega), by omega⟩)).mono ?_)
      rintro e w10 ⟨a10, n10, c10, b10, m10, d10, hn10, hm10, rfl, hd10, hb10⟩
      have HN10 := Lib.hid hn10; have HM10 := Lib.hid hm10; clear hn10 hm10
      replace HG0 := Lib.hid (HG0.out.below' hb10)
      replace HK := Lib.hid (HK.out.below hb10)
      replace HD3 := Lib.hid (HD3.out.below hb10)
      replace HD4 := Lib.hid (HD4.out.below hb10)
      replace HD5 := Lib.hid (HD5.out.below hb10)
      replace HD6 := Lib.hid (HD6.out.below hb10)
      replace HD7 := Lib.hid (HD7.out.below hb10)
      replace HD8 := Lib.hid (HD8.out.below hb10)
      replace HD9 := Lib.hid (HD9.out.below hb10)
      have HD10 := Lib.hid hd10; clear hd10
      refine ⟨_, rfl, Gr.trans hS10 hb10, ?_⟩
      try simp only [Act.put, List.getElem_toArray, List.getElem_cons_succ, List.getElem_cons_zero, List.setIfInBounds_toArray, List.set_cons_zero, List.set_cons_succ]
      refine wpAnyL_lst (l' := #[true, true, true, true, true, true, true, true, true, true, true, true, true, true, true, true, true, true, false, false, false, false, true, false]) (by kernel_rfl) ?_
      exact T10 a1 n1 c1 b1 m1 d1 q2 a3 n3 c3 b3 m3 d3 a4 n4 c4 b4 m4 d4 a5 n5 c5 b5 m5 d5 a6 n6 c6 b6 m6 d6 a7 n7 c7 b7 m7 d7 a8 n8 c8 b8 m8 d8 a9 n9 c9 b9 m9 d9 a10 n10 c10 b10 m10 d10 g w10 (And.intro HG0 (And.intro HGB (And.intro HD3 (And.intro HN3 (And.intro HM3 (And.intro HD4 (And.intro HN4 (And.intro HM4 (And.intro HD5 (And.intro HN5 (And.intro HM5 (And.intro HD6 (And.intro HN6 (And.intro HM6 (And.intro HD7 (And.intro HN7 (And.intro HM7 (And.intro HD8 (And.intro HN8 (And.intro HM8 (And.intro HD9 (And.intro HN9 (And.intro HM9 (And.intro HD10 (And.intro HN10 HM10)))))))))))))))))))))))))
    · intro a1 n1 c1 b1 m1 d1 q2 a3 n3 c3 b3 m3 d3 a4 n4 c4 b4 m4 d4 a5 n5 c5 b5 m5 d5 a6 n6 c6 b6 m6 d6 a7 n7 c7 b7 m7 d7 a8 n8 c8 b8 m8 d8 a9 n9 c9 b9 m9 d9 a10 n10 c10 b10 m10 d10 g X HA
      obtain ⟨HG0, HGB, HD3, HN3, HM3, HD4, HN4, HM4, HD5, HN5, HM5, HD6, HN6, HM6, HD7, HN7, HM7, HD8, HN8, HM8, HD9, HN9, HM9, HD10, HN10, HM10⟩ := HA
      refine wpAnyL_one (i := 18) (by kernel_rfl) (by decide) fun V11 hv11 hS11 => ?_
      have HSV11 : w.heap.size + 2 ≤ V11.heap.size := by { have h1 := hS11.size; have h2 := HS0.out; omega }
      replace HG0 := Lib.hid (HG0.out.below' hv11)
      replace HD3 := Lib.hid (HD3.out.below hv11)
      replace HD4 := Lib.hid (HD4.out.below hv11)
      replace HD5 := Lib.hid (HD5.out.below hv11)
      replace HD6 := Lib.hid (HD6.out.below hv11)
      replace HD7 := Lib.hid (HD7.out.below hv11)
      replace HD8 := Lib.hid (HD8.out.below hv11)
      replace HD9 := Lib.hid (HD9.out.below hv11)
      replace HD10 := Lib.hid (HD10.out.below hv11)
      refine wpOp_run (i := 18) (v := .slice (some ⟨V11.heap.size, 0, none⟩) 2 2) (W2 := V11.alloc (.cells #[.int .u8 48, .slice a9 n9 c9, .slice b9 m9 d9, .int .u8 3, .slice a10 n10 c10, .slice b10 m10 d10] 45)) rfl (by rfl) (by go_simp; first | done | rfl) ?_
      refine ⟨hS11.alloc hS11.size _, ?_⟩
      try simp only [Act.put, List.getElem_toArray, List.getElem_cons_succ, List.getElem_cons_zero, List.setIfInBounds_toArray, List.set_cons_zero, List.set_cons_succ]
      have HL11 := Lib.hid (lit_g (D := (fun j => (j < w0.heap.size ∨ w.heap.size + 2 ≤ j) ∧ j ≠ g)) (T := keyT kb) (n := 2) (cons_g 48 rfl HN9.out HM9.out HD9.out (cons_g 3 rfl HN10.out HM10.out HD10.out dep_its0)) rfl (by decide) ⟨.inr HSV11, by have h9 := HG0.out.lt; omega⟩)
      obtain ⟨q11, hq11⟩ : ∃ q, V11.heap.size = q := ⟨_, rfl⟩
      rw [hq11] at HL11
      rw [hq11]
      replace HG0 := Lib.hid (HG0.out.below' (Gr.alloc V11 (.cells #[.int .u8 48, .slice a9 n9 c9, .slice b9 m9 d9, .int .u8 3, .slice a10 n10 c10, .slice b10 m10 d10] 45)))
      replace HD3 := Lib.hid (HD3.out.below (Gr.alloc V11 (.cells #[.int .u8 48, .slice a9 n9 c9, .slice b9 m9 d9, .int .u8 3, .slice a10 n10 c10, .slice b10 m10 d10] 45)))
      replace HD4 := Lib.hid (HD4.out.below (Gr.alloc V11 (.cells #[.int .u8 48, .slice a9 n9 c9, .slice b9 m9 d9, .int .u8 3, .slice a10 n10 c10, .slice b10 m10 d10] 45)))
      replace HD5 := Lib.hid (HD5.out.below (Gr.alloc V11 (.cells #[.int .u8 48, .slice a9 n9 c9, .slice b9 m9 d9, .int .u8 3, .slice a10 n10 c10, .slice b10 m10 d10] 45)))
      replace HD6 := Lib.hid (HD6.out.below (Gr.alloc V11 (.cells #[.int .u8 48, .slice a9 n9 c9, .slice b9 m9 d9, .int .u8 3, .slice a10 n10 c10, .slice b10 m10 d10] 45)))
      replace HD7 := Lib.hid (HD7.out.below (Gr.alloc V11 (.cells #[.int .u8 48, .slice a9 n9 c9, .slice b9 m9 d9, .int .u8 3, .slice a10 n10 c10, .slice b10 m10 d10] 45)))
      replace HD8 := Lib.hid (HD8.out.below (Gr.alloc V11 (.cells #[.int .u8 48, .slice a9 n9 c9, .slice b9 m9 d9, .int .u8 3, .slice a10 n10 c10, .slice b10 m10 d10] 45)))
      replace HD9 := Lib.hid (HD9.out.below (Gr.alloc V11 (.cells #[.int .u8 48, .slice a9 n9 c9, .slice b9 m9 d9, .int .u8 3, .slice a10 n10 c10, .slice b10 m10 d10] 45)))
      replace HD10 := Lib.hid (HD10.out.below (Gr.alloc V11 (.cells #[.int .u8 48, .slice a9 n9 c9, .slice b9 m9 d9, .int .u8 3, .slice a10 n10 c10, .slice b10 m10 d10] 45)))
      obtain ⟨X, hX⟩ : ∃ X, V11.alloc (.cells #[.int .u8 48, .slice a9 n9 c9, .slice b9 m9 d9, .int .u8 3, .slice a10 n10 c10, .slice b10 m10 d10] 45) = X := ⟨_, rfl⟩
      rw [hX] at HG0 HD3 HD4 HD5 HD6 HD7 HD8 HL11
      rw [hX]
      refine wpAnyL_lst (l' := #[true, true, true, true, true, true, true, true, true, true, true, true, true, true, true, true, true, true, true, false, false, false, true, false]) (by kernel_rfl) ?_
      exact T11 a1 n1 c1 b1 m1 d1 q2 a3 n3 c3 b3 m3 d3 a4 n4 c4 b4 m4 d4 a5 n5 c5 b5 m5 d5 a6 n6 c6 b6 m6 d6 a7 n7 c7 b7 m7 d7 a8 n8 c8 b8 m8 d8 a9 n9 c9 b9 m9 d9 a10 n10 c10 b10 m10 d10 q11 g X (And.intro HG0 (And.intro HGB (And.intro HD3 (And.intro HN3 (And.intro HM3 (And.intro HD4 (And.intro HN4 (And.intro HM4 (And.intro HD5 (And.intro HN5 (And.intro HM5 (And.intro HD6 (And.intro HN6 (And.intro HM6 (And.intro HD7 (And.intro HN7 (And.intro HM7 (And.intro HD8 (And.intro HN8 (And.intro HM8 HL11))))))))))))))))))))
    · intro a1 n1 c1 b1 m1 d1 q2 a3 n3 c3 b3 m3 d3 a4 n4 c4 b4 m4 d4 a5 n5 c5 b5 m5 d5 a6 n6 c6 b6 m6 d6 a7 n7 c7 b7 m7 d7 a8 n8 c8 b8 m8 d8 a9 n9 c9 b9 m9 d9 a10 n10 c10 b10 m10 d10 q11 g X HA
      obtain ⟨HG0, HGB, HD3, HN3, HM3, HD4, HN4, HM4, HD5, HN5, HM5, HD6, HN6, HM6, HD7, HN7, HM7, HD8, HN8, HM8, HL11⟩ := HA
      refine wpAnyL_one (i := 19) (by kernel_rfl) (by decide) fun V12 hv12 hS12 => ?_
      have HSV12 : w.heap.size + 2 ≤ V12.heap.size := by { have h1 := hS12.size; have h2 := HS0.out; omega }
      replace HG0 := Lib.hid (HG0.out.below' hv12)
      replace HD3 := Lib.hid (HD3.out.below hv12)
      replace HD4 := Lib.hid (HD4.out.below hv12)
      replace HD5 := Lib.hid (HD5.out.below hv12)
      replace HD6 := Lib.hid (HD6.out.below hv12)
      replace HD7 := Lib.hid (HD7.out.below hv12)
      replace HD8 := Lib.hid (HD8.out.below hv12)
      replace HL11 := Lib.hid (HL11.out.below hv12)
      refine wpOp_callE (i := 19) rfl (by rfl) rfl Tryz.func24 (by kernel_rfl) (by kernel_rfl) #[.int .u8 48, .slice (some ⟨q11, 0, none⟩) 2 2] (by simp [Act.eval]) ((itG (D := (fun j => (j < w0.heap.size ∨ w.heap.size + 2 ≤ j) ∧ j ≠ g)) (rseq_d (fun j => (j < w0.heap.size ∨ w.heap.size + 2 ≤ j) ∧ j ≠ g) 48 48 rfl (by decide) V12 _ 2 2 (keyT kb) rfl HL11.out) (fun _ h => h) (fun j hj => by have h9 := HG0.out.lt; exact ⟨.inr (by omega), by omega⟩)).mono ?_)
      rintro e w12 ⟨a12, n12, c12, b12, m12, d12, hn12, hm12, rfl, hd12, hb12⟩
      have HN12 := Lib.hid hn12; have HM12 := Lib.hid hm12; clear hn12 hm12
      replace HG0 := Lib.hid (HG0.out.below' hb12)
      replace HD3 := Lib.hid (HD3.out.below hb12)
      replace HD4 := Lib.hid (HD4.out.below hb12)
      replace HD5 := Lib.hid (HD5.out.below hb12)
      replace HD6 := Lib.hid (HD6.out.below hb12)
      replace HD7 := Lib.hid (HD7.out.below hb12)
      replace HD8 := Lib.hid (HD8.out.below hb12)
      replace HL11 := Lib.hid (HL11.out.below hb12)
      have HD12 := Lib.hid hd12; clear hd12
      refine ⟨_, rfl, Gr.trans hS12 hb12, ?_⟩
      try simp only [Act.put, List.getElem_toArray, List.getElem_cons_succ, List.getElem_cons_zero, List.setIfInBounds_toArray, List.set_cons_zero, List.set_cons_succ]
      refine wpAnyL_lst (l' := #[true, true, true, true, true, true, true, true, true, true, true, true, true, true, true, true, true, true, true, true, false, false, true, false]) (by kernel_rfl) ?_
      exact T12 a1 n1 c1 b1 m1 d1 q2 a3 n3 c3 b3 m3 d3 a4 n4 c4 b4 m4 d4 a5 n5 c5 b5 m5 d5 a6 n6 c6 b6 m6 d6 a7 n7 c7 b7 m7 d7 a8 n8 c8 b8 m8 d8 a9 n9 c9 b9 m9 d9 a10 n10 c10 b10 m10 d10 q11 a12 n12 c12 b12 m12 d12 g w12 (And.intro HG0 (And.intro HGB (And.intro HD3 (And.intro HN3 (And.intro HM3 (And.intro HD4 (And.intro HN4 (And.intro HM4 (And.intro HD5 (And.intro HN5 (And.intro HM5 (And.intro HD6 (And.intro HN6 (And.intro HM6 (And.intro HD7 (And.intro HN7 (And.intro HM7 (And.intro HD8 (And.intro HN8 (And.intro HM8 (And.intro HD12 (And.intro HN12 HM12))))))))))))))))))))))
    · intro a1 n1 c1 b1 m1 d1 q2 a3 n3 c3 b3 m3 d3 a4 n4 c4 b4 m4 d4 a5 n5 c5 b5 m5 d5 a6 n6 c6 b6 m6 d6 a7 n7 c7 b7 m7 d7 a8 n8 c8 b8 m8 d8 a9 n9 c9 b9 m9 d9 a10 n10 c10 b10 m10 d10 q11 a12 n12 c12 b12 m12 d12 g X HA
      obtain ⟨HG0, HGB, HD3, HN3, HM3, HD4, HN4, HM4, HD5, HN5, HM5, HD6, HN6, HM6, HD7, HN7, HM7, HD8, HN8, HM8, HD12, HN12, HM12⟩ := HA
      refine wpAnyL_one (i := 20) (by kernel_rfl) (by decide) fun V13 hv13 hS13 => ?_
      have HSV13 : w.heap.size + 2 ≤ V13.heap.size := by { have h1 := hS13.size; have h2 := HS0.out; omega }
      replace HG0 := Lib.hid (HG0.out.below' hv13)
      replace HD3 := Lib.hid (HD3.out.below hv13)
      replace HD4 := Lib.hid (HD4.out.below hv13)
      replace HD5 := Lib.hid (HD5.out.below hv13)
      replace HD6 := Lib.hid (HD6.out.below hv13)
      replace HD7 := Lib.hid (HD7.out.below hv13)
      replace HD8 := Lib.hid (HD8.out.below hv13)
      replace HD12 := Lib.hid (HD12.out.below hv13)
      refine wpOp_run (i := 20) (v := .slice (some ⟨V13.heap.size, 0, none⟩) 7 7) (W2 := V13.alloc (.cells #[.int .u8 160, .slice a3 n3 c3, .slice b3 m3 d3, .int .u8 2, .slice a4 n4 c4, .slice b4 m4 d4, .int .u8 48, .slice a5 n5 c5, .slice b5 m5 d5, .int .u8 48, .slice a6 n6 c6, .slice b6 m6 d6, .int .u8 48, .slice a7 n7 c7, .slice b7 m7 d7, .int .u8 48, .slice a8 n8 c8, .slice b8 m8 d8, .int .u8 48, .slice a12 n12 c12, .slice b12 m12 d12] 45)) rfl (by rfl) (by go_simp; first | done | rfl) ?_
      refine ⟨hS13.alloc hS13.size _, ?_⟩
      try simp only [Act.put, List.getElem_toArray, List.getElem_cons_succ, List.getElem_cons_zero, List.setIfInBounds_toArray, List.set_cons_zero, List.set_cons_succ]
      have HIT := Lib.hid ((Dep.self (X := fun x => Its x (tbsK sn ib sb kb .nil) _) (cons_g 160 rfl HN3.out HM3.out HD3.out (cons_g 2 rfl HN4.out HM4.out HD4.out (cons_g 48 rfl HN5.out HM5.out HD5.out (cons_g 48 rfl HN6.out HM6.out HD6.out (cons_g 48 rfl HN7.out HM7.out HD7.out (cons_g 48 rfl HN8.out HM8.out HD8.out (cons_g 48 rfl HN12.out HM12.out HD12.out dep_its0)))))))).below (Gr.alloc V13 (.cells #[.int .u8 160, .slice a3 n3 c3, .slice b3 m3 d3, .int .u8 2, .slice a4 n4 c4, .slice b4 m4 d4, .int .u8 48, .slice a5 n5 c5, .slice b5 m5 d5, .int .u8 48, .slice a6 n6 c6, .slice b6 m6 d6, .int .u8 48, .slice a7 n7 c7, .slice b7 m7 d7, .int .u8 48, .slice a8 n8 c8, .slice b8 m8 d8, .int .u8 48, .slice a12 n12 c12, .slice b12 m12 d12] 45)))
      have HO7 := Lib.hid (World.ownsRow_lit (base := w.heap.size + 2) (e := 45) (size := 3) V13 #[.int .u8 160, .slice a3 n3 c3, .slice b3 m3 d3, .int .u8 2, .slice a4 n4 c4, .slice b4 m4 d4, .int .u8 48, .slice a5 n5 c5, .slice b5 m5 d5, .int .u8 48, .slice a6 n6 c6, .slice b6 m6 d6, .int .u8 48, .slice a7 n7 c7, .slice b7 m7 d7, .int .u8 48, .slice a8 n8 c8, .slice b8 m8 d8, .int .u8 48, .slice a12 n12 c12, .slice b12 m12 d12] 7 HSV13 (by decide) rfl)
      replace HIT := Lib.hid (HIT.out.mono (E := fun j => (j < w0.heap.size ∨ w.heap.size + 2 ≤ j) ∧ j ≠ g ∧ j < V13.heap.size) (fun j hj _ => ⟨hj.1.1, hj.1.2, hj.2⟩))
      have HNE := Lib.hid (show g ≠ V13.heap.size from by have h9 := HG0.out.lt; omega)
      replace HG0 := Lib.hid (HG0.out.below' (Gr.alloc V13 (.cells #[.int .u8 160, .slice a3 n3 c3, .slice b3 m3 d3, .int .u8 2, .slice a4 n4 c4, .slice b4 m4 d4, .int .u8 48, .slice a5 n5 c5, .slice b5 m5 d5, .int .u8 48, .slice a6 n6 c6, .slice b6 m6 d6, .int .u8 48, .slice a7 n7 c7, .slice b7 m7 d7, .int .u8 48, .slice a8 n8 c8, .slice b8 m8 d8, .int .u8 48, .slice a12 n12 c12, .slice b12 m12 d12] 45)))
      have hsz13 : V13.heap.size < (V13.alloc (.cells #[.int .u8 160, .slice a3 n3 c3, .slice b3 m3 d3, .int .u8 2, .slice a4 n4 c4, .slice b4 m4 d4, .int .u8 48, .slice a5 n5 c5, .slice b5 m5 d5, .int .u8 48, .slice a6 n6 c6, .slice b6 m6 d6, .int .u8 48, .slice a7 n7 c7, .slice b7 m7 d7, .int .u8 48, .slice a8 n8 c8, .slice b8 m8 d8, .int .u8 48, .slice a12 n12 c12, .slice b12 m12 d12] 45)).heap.size := by simp
      have HSZ13 := Lib.hid hsz13
      refine wpAnyL_one (i := 21) (by kernel_rfl) (by decide) fun V14 hv14 hS14 => ?_
      have HSV14 : w.heap.size + 2 ≤ V14.heap.size := by { have h1 := hS14.size; have h2 := HS0.out; omega }
      replace HG0 := Lib.hid (HG0.out.below' hv14)
      replace HIT := Lib.hid (HIT.out.below hv14)
      replace HO7 := Lib.hid (own_below HO7.out hv14)
      replace HSZ13 := Lib.hid (Nat.lt_of_lt_of_le HSZ13.out hv14.size)
      refine wpOp_callE (i := 21) rfl (by rfl) rfl Tryz.func24 (by kernel_rfl) (by kernel_rfl) #[.int .u8 48, .slice (some ⟨V13.heap.size, 0, none⟩) 7 7] (by simp [Act.eval]) ((rseq_v 48 48 rfl V14 _ 7 7).mono ?_)
      rintro e w14 ⟨rfl, hb14⟩
      replace HG0 := Lib.hid (HG0.out.below' hb14)
      replace HIT := Lib.hid (HIT.out.below hb14)
      replace HO7 := Lib.hid (own_below HO7.out hb14)
      replace HSZ13 := Lib.hid (Nat.lt_of_lt_of_le HSZ13.out hb14.size)
      have HBW := Lib.hid (Below.trans hS14 (Below.mono hb14 hS14.size))
      refine ⟨_, rfl, Gr.trans hS14 hb14, ?_⟩
      try simp only [Act.put, List.getElem_toArray, List.getElem_cons_succ, List.getElem_cons_zero, List.setIfInBounds_toArray, List.set_cons_zero, List.set_cons_succ]
      refine wpAnyL_oneF (i := 23) (by kernel_rfl) (by decide) (by kernel_rfl) (by decide) fun V21 hv21 => ?_
      refine (StoresG.mk (g := g) (t := 45) (cs := [.int .u8 48, .slice none 0 0, .slice (some ⟨V13.heap.size, 0, none⟩) 7 7]) (by rfl) _ _ _ rfl rfl rfl info25 (by intro v hv; simp at hv; rcases hv with rfl | rfl | rfl <;> rfl)).wpOp (i := 23) rfl (HG0.out.below' hv21) rfl ?_
      try simp only [Act.put, List.getElem_toArray, List.getElem_cons_succ, List.getElem_cons_zero, List.setIfInBounds_toArray, List.set_cons_zero, List.set_cons_succ]
      refine wpAnyL_done (by kernel_rfl) ?_ _
      intro W9 hg9
      have hfin := tbs_fin HG0.out HGB.out HS0.out HIT.out HO7.out HBW.out HNE.out rfl hv21 hg9
      go_wp2_with fail
      go_meet
      exact hfin
  case rest =>
    obtain ⟨g3, rfl, hg3, hkd, hbx⟩ := hcut
    obtain ⟨N, hN⟩ : ∃ N, wc.heap.size = N := ⟨_, rfl⟩
    have HNC := Lib.hid hN
    have HBXc := Lib.hid (HBX.out.below' hbx)
    have HRSc := Lib.hid (HRS.out.below' hbx)
    have H0c := Lib.hid (H00.out.trans (Below.mono hbx H00.out.size))
    have HBB := Lib.hid (show w0.heap.size ≤ w.heap.size from H0B.out.size)
    have HBN := Lib.hid (show w.heap.size + 2 ≤ N from by have := hbx.size; have := HS0.out; omega)
    have HKD := Lib.hid hkd
    have HG3 := Lib.hid hg3
    have k4 := blkc HBXc.out (i := 4) rfl
    have hnm : n ≤ 140737488355328 := by have := HN16.out; omega
    clear hkd hbx hN k0 k1 k2 k3 HU HK HKN HI HSB HIS HSU HSN hg3
    by_cases hn0 : n = 0
    · subst hn0
      have hxs : xs = [] := List.eq_nil_of_length_eq_zero HX.out.1
      have HXS := Lib.hid (show exT xs = .nil from by rw [hxs]; rfl)
      have HRF := HRSc
      have HFB := H0c
      obtain ⟨ka9, kn9, kc9, hl9, hb9, hk9⟩ := KdAt.kin HKD.out (by simp [Tr.len])
      have HBI9 := Lib.hid hb9
      have HL9 := Lib.hid hl9
      have HK9 := Lib.hid hk9
      clear hb9 hl9 hk9 hxs
      go_wp2_with (first
        | (refine wpList_load_row (P := Tryz.prog) rfl 45 (.tmp 3) rfl g3 rfl 45 _ _ _ HBI9.out Tryz.underlying45 rfl info25 ?_)
        | (refine wpList_store_row (P := Tryz.prog) rfl 45 (.tmp 2) (.tmp 59) rfl (w.heap.size + 1) #[.int .u8 48, .slice none 0 0, .slice ka9 kn9 kc9] rfl rfl 45 _ HRF.out info25 rfl (all_item _ _ _ _ _ _ _) ?_))
      refine bodyPost_ret (results_one Tryz.results25 _ _ (w.heap.size + 1) 45 _ (0, 0) _ rfl (HRF.out.setRow [.int .u8 48, .slice none 0 0, .slice ka9 kn9 kc9]) Tryz.underlying45 rfl info25) rfl ?_
      rw [HXS.out]
      exact ⟨none, 0, 0, ka9, kn9, kc9, rfl, HL9.out, rfl, (((HK9.out.row (w.heap.size + 1) #[.int .u8 48, .slice none 0 0, .slice ka9 kn9 kc9] (fun h => by have := HBB.out; rcases h.1 with h | h <;> omega)).map (fun x hx => (⟨by decide, bin_empty x none 0 (by simp [maxLen]) (fun _ => rfl), hx⟩ : ItIn x 48 none 0 ka9 kc9 [] _))).mono (fun j hj _ => by rcases hj.1 with h | h; exact .inl h; exact .inr (by omega))), below_setRow' HFB.out (by omega) _⟩
    · have hni : (0 : Int) < (n : Int) := by omega
      have HNI := Lib.hid hn0
      have HSQ := Lib.hid (rseq_v 48 48 rfl wc none 0 0)
      clear hn0
      go_wp2_with (first
        | (go_at_call 24; go_loud ((with_reducible refine HSQ.out.mono ?_); rintro e w3 ⟨rfl, hb3⟩; have HZ3 := Lib.hid (Blk.new w3 45 [.int .u8 0, .slice none 0 0, .slice none 0 0]); have HGC := Lib.hid hb3; clear hb3))
        | (refine wpList_store_row (P := Tryz.prog) rfl 45 (.tmp 4) (.tmp 32) rfl w3.heap.size #[.int .u8 48, .slice none 0 0, .slice none 0 0] rfl rfl 45 _ HZ3.out info25 rfl (all_item _ _ _ _ _ _ _) ?_))
      have hgr : Gr wc ((w3.alloc (.cells #[.int .u8 0, .slice none 0 0, .slice none 0 0] 45)).setRow w3.heap.size #[.int .u8 48, .slice none 0 0, .slice none 0 0]) := HGC.out.trans (Below.mono (below_setRow' (Gr.alloc w3 (.cells #[.int .u8 0, .slice none 0 0, .slice none 0 0] 45)) (Nat.le_refl _) #[.int .u8 48, .slice none 0 0, .slice none 0 0]) (Below.size HGC.out))
      have hka : KdAt w0.heap.size N w3.heap.size 48 (extT (xs.take 0)) ((w3.alloc (.cells #[.int .u8 0, .slice none 0 0, .slice none 0 0] 45)).setRow w3.heap.size #[.int .u8 48, .slice none 0 0, .slice none 0 0]) :=
        ⟨none, 0, 0, [], HZ3.out.setRow _, rfl, World.ownsRow_nil _ _ _ _, by simp [ob, Value.ownBlock], fun _ _ => rfl⟩
      obtain ⟨W5, hW5⟩ : ∃ W5, (w3.alloc (.cells #[.int .u8 0, .slice none 0 0, .slice none 0 0] 45)).setRow w3.heap.size #[.int .u8 48, .slice none 0 0, .slice none 0 0] = W5 := ⟨_, rfl⟩
      have hg4 : N ≤ w3.heap.size := by have := Below.size HGC.out; have := HNC.out; omega
      obtain ⟨g4, hg4e⟩ : ∃ g4, w3.heap.size = g4 := ⟨_, rfl⟩
      rw [hW5] at hgr hka
      rw [hW5]
      rw [hg4e] at hka hg4
      rw [hg4e]
      have HGR := Lib.hid hgr
      have HKA0 := Lib.hid hka
      have HG4 := Lib.hid hg4
      clear hgr hka hg4 hW5 hg4e HSQ HGC HZ3
      go_loopw [5] (fun v5 wr => ∃ j : Nat, v5 = .int .i64 (j : Nat) ∧ j ≤ n ∧ KdAt w0.heap.size N g4 48 (extT (xs.take j)) wr ∧ Gr wc wr) (fun v _ => n - (intOf v).toNat)
      case atStart => exact ⟨0, rfl, Nat.zero_le _, HKA0.out, HGR.out⟩
      case round =>
        obtain ⟨j, rfl, hj, hka, hgr⟩ := hrel
        have HGR2 := Lib.hid hgr
        have HBXr := Lib.hid (HBXc.out.below' hgr)
        have HRSr := Lib.hid (HRSc.out.below' hgr)
        have H0r := Lib.hid (H0c.out.trans (Below.mono hgr H0c.out.size))
        have HNW := Lib.hid (show N ≤ wr.heap.size from by have := Below.size hgr; have := HNC.out; omega)
        have k4 := blkc HBXr.out (i := 4) rfl
        have HKAj := Lib.hid hka
        clear hgr hka HGR HKA0
        by_cases hjn : j < n
        · obtain ⟨y, hy⟩ : ∃ y, xs[j]? = some y := ⟨xs[j]'(by have := HX.out.1; omega), List.getElem?_eq_getElem _⟩
          have hyb := HCC2.out j y hy
          obtain ⟨v, hv⟩ : ∃ v : Nat, y.1 = (v : Int) := Int.eq_ofNat_of_zero_le (by omega)
          have hv1 : 1 ≤ v := by omega
          have hv2 : v ≤ 2147483647 := by omega
          obtain ⟨g, o, rfl, hrow⟩ := HX.out.2.2.2.2.resolve_left (by omega)
          obtain ⟨hxb, a2, c2, hr, hbi2⟩ := hrow.at hy
          obtain ⟨m2, hm2⟩ : ∃ q, y.2.2.length = q := ⟨_, rfl⟩
          rw [hm2] at hr hbi2
          rw [hv] at hr
          have HB0r := Lib.hid (H0B.out.trans (Below.mono H0r.out HBB.out))
          have HR := Lib.hid (rangeAt_below hr HB0r.out)
          have HBV := Lib.hid hbi2
          have HM2 := Lib.hid hm2
          have HEXT := Lib.hid (show extT (xs.take (j + 1)) = (extT (xs.take j)).app (.node 48 [] (extK v y.2.1 y.2.2) .nil) from by rw [extT_snoc hy, hv]; rfl)
          have HAL := Lib.hid (show (extT (xs.take j)).len ≤ 16 from by rw [extT_len, List.length_take]; have := HN16.out; omega)
          have HV1 := Lib.hid hv1
          have HV2 := Lib.hid hv2
          have hji : (j : Int) < (n : Int) := by omega
          have hj0 : (0 : Int) ≤ (j : Int) := by omega
          obtain ⟨ka1, kn1, kc1, vs1, hbi, hgk⟩ := HKAj.out
          obtain ⟨A, hA⟩ : ∃ A, extT (xs.take j) = A := ⟨_, rfl⟩
          rw [hA] at HEXT HAL hgk
          have HBI := Lib.hid hbi
          have HGK := Lib.hid hgk
          have HKL := Lib.hid (show kn1 ≤ 100 from by have := hgk.1; have := HAL.out; omega)
          have HS0 := Lib.hid (Nat.le_refl wr.heap.size)
          have HSB := HNW
          have HGB := HG4
          have HB := Lib.hid (show w0.heap.size ≤ N from by have := HBB.out; have := HBN.out; omega)
          have kk := blkc hbi (i := 2) rfl
          clear hbi hgk hr hrow hy hm2 hbi2 hyb hv hv1 hv2 hxb hA HKAj
          go_upto_region 7 with (fail)
          refine wp_region_L (fun w_ => Below wr.heap.size wr w_) [9, 11] [0, 2, 4, 5, 10, 11] (by kernel_rfl) (Below.refl _ _).drew ?_
          refine wpAnyL_pure (fun _ _ hS_ hb_ => gr_bel hS_ hb_) (i := 0) rfl (by kernel_rfl) (fun _ _ _ h => h) (pureG (by rfl) (by intro w_; go_simp; first | done | with_reducible rfl)) ?_
          try simp only [Act.put, List.getElem_toArray, List.getElem_cons_succ, List.getElem_cons_zero, List.setIfInBounds_toArray, List.set_cons_zero, List.set_cons_succ]
          refine wpAnyL_pure (fun _ _ hS_ hb_ => gr_bel hS_ hb_) (i := 2) rfl (by kernel_rfl) (fun _ _ _ h => h) (pureG (by rfl) (by intro w_; go_simp; first | done | with_reducible rfl)) ?_
          try simp only [Act.put, List.getElem_toArray, List.getElem_cons_succ, List.getElem_cons_zero, List.setIfInBounds_toArray, List.set_cons_zero, List.set_cons_succ]
          refine wpAnyL_pure (fun _ _ hS_ hb_ => gr_bel hS_ hb_) (i := 4) rfl (by kernel_rfl) (fun _ _ _ h => h) (pureG (by rfl) (by intro w_; go_simp; first | done | with_reducible rfl)) ?_
          try simp only [Act.put, List.getElem_toArray, List.getElem_cons_succ, List.getElem_cons_zero, List.setIfInBounds_toArray, List.set_cons_zero, List.set_cons_succ]
          refine wpAnyL_take (fun _ _ hS_ hb_ => gr_bel hS_ hb_) (i := 1) rfl (by kernel_rfl) (fun _ _ _ h => h) (worldG (by rfl) (by intro w_ hS_; have q := (hS_.cell (World.block_lt_of_cell? wr _ kk)).trans kk; go_simp; first | done | with_reducible rfl)) ?_
          try simp only [Act.put, List.getElem_toArray, List.getElem_cons_succ, List.getElem_cons_zero, List.setIfInBounds_toArray, List.set_cons_zero, List.set_cons_succ]
          refine wpAnyL_take (fun _ _ hS_ hb_ => gr_bel hS_ hb_) (i := 3) rfl (by kernel_rfl) (fun _ _ _ h => h) (worldG (by rfl) (by intro w_ hS_; have q := (hS_.cell (World.block_lt_of_cell? wr _ k4)).trans k4; go_simp; first | done | with_reducible rfl)) ?_
          try simp only [Act.put, List.getElem_toArray, List.getElem_cons_succ, List.getElem_cons_zero, List.setIfInBounds_toArray, List.set_cons_zero, List.set_cons_succ]
          refine wpAnyL_pure (fun _ _ hS_ hb_ => gr_bel hS_ hb_) (i := 5) rfl (by kernel_rfl) (fun _ _ _ h => h) (pureG (by rfl) (by intro w_; go_simp; first | done | with_reducible rfl)) ?_
          try simp only [Act.put, List.getElem_toArray, List.getElem_cons_succ, List.getElem_cons_zero, List.setIfInBounds_toArray, List.set_cons_zero, List.set_cons_succ]
          refine wpAnyL_take (fun _ _ hS_ hb_ => gr_bel hS_ hb_) (i := 6) rfl (by kernel_rfl) (fun _ _ _ h => h) (loadG (by rfl) _ _ rfl g (o + j * 3) rfl [.int .i64 (v : Nat), .bool y.2.1, .slice a2 m2 c2] _ (fun w_ hS_ => rangeAt_below HR.out hS_) Tryz.underlying67 rfl info65) ?_
          try simp only [Act.put, List.getElem_toArray, List.getElem_cons_succ, List.getElem_cons_zero, List.setIfInBounds_toArray, List.set_cons_zero, List.set_cons_succ]
          refine wpAnyL_one (i := 7) (by kernel_rfl) (by decide) fun V7 hv7 hS7 => ?_
          have HSV7 : wr.heap.size ≤ V7.heap.size := by { have h1 := hS7.size; have h2 := HS0.out; omega }
          refine wpOp_callE (i := 7) rfl (by rfl) rfl Tryz.func48 (by kernel_rfl) (by kernel_rfl) #[.agg #[.int .i64 (v : Nat), .bool y.2.1, .slice a2 m2 c2]] (by simp [Act.eval]) ((itO (B0 := w0.heap.size) (base := wr.heap.size) (rext_k V7 v y.2.1 HV1.out HV2.out y.2.2 a2 m2 c2 HM2.out HBV.out.2.2.2.1 w0.heap.size (Nat.le_trans HB0r.out.size hS7.size) (dep_bin HBV.out (HB0r.out.trans (Below.mono hS7 HB0r.out.size)))) HSV7 (fun _ h => .inl h)).mono ?_)
          rintro e w7 ⟨a7, n7, c7, b7, m7, d7, hn7, hm7, rfl, hd7, hb7⟩
          have HN7 := Lib.hid hn7; have HM7 := Lib.hid hm7; clear hn7 hm7
          have HD7 := Lib.hid hd7; clear hd7
          refine ⟨_, rfl, Gr.trans hS7 hb7, ?_⟩
          try simp only [Act.put, List.getElem_toArray, List.getElem_cons_succ, List.getElem_cons_zero, List.setIfInBounds_toArray, List.set_cons_zero, List.set_cons_succ]
          refine wpAnyL_one (i := 8) (by kernel_rfl) (by decide) fun V8 hv8 hS8 => ?_
          have HSV8 : wr.heap.size ≤ V8.heap.size := by { have h1 := hS8.size; have h2 := HS0.out; omega }
          replace HD7 := Lib.hid (HD7.out.below hv8)
          refine wpOp_run (i := 8) (v := .slice (some ⟨V8.heap.size, 0, none⟩) 1 1) (W2 := V8.alloc (.cells #[.int .u8 48, .slice a7 n7 c7, .slice b7 m7 d7] 45)) rfl (by rfl) (by go_simp; first | done | rfl) ?_
          refine ⟨hS8.alloc hS8.size _, ?_⟩
          try simp only [Act.put, List.getElem_toArray, List.getElem_cons_succ, List.getElem_cons_zero, List.setIfInBounds_toArray, List.set_cons_zero, List.set_cons_succ]
          replace HD7 := Lib.hid (HD7.out.below (Gr.alloc V8 (.cells #[.int .u8 48, .slice a7 n7 c7, .slice b7 m7 d7] 45)))
          refine wpAnyL_oneD (i := 9) (by kernel_rfl) (by decide) (by decide) (by kernel_rfl) (by decide) fun W10 hg10 hS10 => ?_
          have hnews := fun j u hu => ((hg10.cell (World.block_lt_of_cell? _ _ (news_lit V8 45 [.int .u8 48, .slice a7 n7 c7, .slice b7 m7 d7] j u hu))).trans (news_lit V8 45 [.int .u8 48, .slice a7 n7 c7, .slice b7 m7 d7] j u hu))
          replace HD7 := Lib.hid (HD7.out.below hg10)
          obtain ⟨i25, hi25, hz25, hs25, hy25⟩ := info_parts info25z
          refine wpOp_append_lies (i := 9) rfl (by rfl) _ _ 43 rfl (N) 45 i25 _ 3 56 Tryz.underlying43 hi25 hz25 hs25 hy25 rfl (by decide) (.slice ka1 kn1 kc1) kn1 vs1 rfl (own_below HGK.out.2.1 hS10) ⟨V8.heap.size, 0, none⟩ 1 1 [.int .u8 48, .slice a7 n7 c7, .slice b7 m7 d7] rfl rfl hnews (all1_item _ _ _ _ _ _ _) (by decide) (by have := HKL.out; simp only [maxLen]; omega) (by have := HKL.out; omega) (by have h1 := hS10.size; have h2 := HSB.out; omega) fun g5 cap5 W11 hown5 hg5 hat5 hlt5 => ?_
          try simp only [Act.put, List.getElem_toArray, List.getElem_cons_succ, List.getElem_cons_zero, List.setIfInBounds_toArray, List.set_cons_zero, List.set_cons_succ]
          refine wpAnyL_pure (fun _ _ hS_ hb_ => gr_bel hS_ hb_) (i := 10) rfl (by kernel_rfl) (fun _ _ _ h => h) (pureG (by rfl) (by intro w_; go_simp; first | done | with_reducible rfl)) ?_
          try simp only [Act.put, List.getElem_toArray, List.getElem_cons_succ, List.getElem_cons_zero, List.setIfInBounds_toArray, List.set_cons_zero, List.set_cons_succ]
          have hB11 := (HBI.out.below' hS10).of (hg5.block (g4) (HBI.out.below' hS10).lt (fun e => HGK.out.2.2.1 (by rw [ob, ← e]; simp)))
          refine wpAnyL_cell (i := 11) (g := g4) (x := 2) (t := 45) (u := .slice (some ⟨g5, 0, none⟩) (kn1 + 1) cap5) (by kernel_rfl) (by kernel_rfl) rfl (by decide) (by kernel_rfl) (by decide) hB11 (by simp) (stS (by rfl) rfl rfl rfl) ?_
          intro W12 hg12 hb12
          try simp only [Act.put, List.getElem_toArray, List.getElem_cons_succ, List.getElem_cons_zero, List.setIfInBounds_toArray, List.set_cons_zero, List.set_cons_succ]
          have hob := own_ob_lt HGK.out.2.1
          have hpu := GrowK.push HGK.out HN7.out HM7.out hS10 HD7.out (fun j hj hl => by have h1 := HGB.out; have h2 := HB.out; have h3 := HBI.out.lt; rcases hj with hj | hj; exact ⟨.inl hj, by omega, fun hx => by have := (hob j hx).1; omega⟩; exact ⟨.inr (by have := HSB.out; omega), by omega, fun hx => by have := (hob j hx).2; omega⟩) hg5 HBI.out.lt (Nat.le_refl _) hat5 hown5
          have hkp : ∀ j, j < N → j ≠ g4 → W12.heap[j]? = wr.heap[j]? := fun j hj hne => (hg12.block j (by have h1 := hg5.size; have h2 := hS10.size; have h3 := HSB.out; omega) (fun e => by injection e with e; exact hne e)).trans ((hg5.block j (by have h2 := hS10.size; have h3 := HSB.out; omega) (fun e => by have h4 := (hob j (by rw [ob, ← e]; simp)).1; omega)).trans (hS10.block j (by have h3 := HSB.out; omega)))
          have HBW2 := Lib.hid (show Below (N) wr W12 from ⟨hg12.os.trans (hg5.os.trans hS10.os), hg12.tape.trans (hg5.tape.trans hS10.tape), hg12.output.trans (hg5.output.trans hS10.output), Nat.le_trans hS10.size (Nat.le_trans hg5.size hg12.size), fun j hj => hkp j hj (fun e => by have h5 := HGB.out; omega)⟩)
          have HKA := Lib.hid (show KdAt w0.heap.size (N) (g4) 48 _ W12 from ⟨_, _, _, _, hb12, hpu.cellK hg12⟩)
          clear hnews hB11 hpu hown5 hg5 hat5 hlt5 hg12 hb12 hg10 hS10 hkp hob hi25 hz25 hs25 hy25
          go_wp2_with fail
          go_roundw
          case rel => exact ⟨j + 1, by go_num, by omega, by rw [HEXT.out]; exact HKA.out, Below.trans HGR2.out (Below.mono HBW2.out (by have := HNC.out; omega))⟩
          case measure => simp [intOf]; omega
        · have hji : ¬ (j : Int) < (n : Int) := by omega
          have hjl : j = n := by omega
          have hte : extT (xs.take j) = extT xs := by rw [hjl, List.take_of_length_le (by have := HX.out.1; omega)]
          have HXS := Lib.hid (show exT xs = .node 163 [] (.node 48 [] (extT xs) .nil) .nil from by unfold exT; rw [if_neg (by intro h; have h1 := HX.out.1; have h2 := HNI.out; rw [h] at h1; simp at h1; omega)])
          obtain ⟨kx, nx, cx, hlx, hbx, hkx⟩ := KdAt.kin HKAj.out (by rw [hte, extT_len]; have := HX.out.1; have := HN16.out; omega)
          rw [hte] at hlx hkx
          have HLX := Lib.hid hlx
          have HBX4 := Lib.hid hbx
          have HKX := Lib.hid hkx
          obtain ⟨ka1, kn1, kc1, vs1, hbi, hgk⟩ := HKD.out
          have HOBN := Lib.hid (show ∀ q ∈ ob (.slice ka1 kn1 kc1), q < N from fun q hq => by have := (own_ob_lt hgk.2.1 q hq).2; have := HNC.out; omega)
          have HG3N := Lib.hid (show g3 < N from by have := hbi.lt; have := HNC.out; omega)
          have HBI := Lib.hid (hbi.below' HGR2.out)
          have HGK := Lib.hid (hgk.below HGR2.out)
          have HKL := Lib.hid (show kn1 ≤ 100 from by have := hgk.1; simp [Tr.len] at this; omega)
          have HS0 := Lib.hid (show N ≤ wr.heap.size from HNW.out)
          have HSB := Lib.hid (show w.heap.size + 2 ≤ wr.heap.size from by have := HNW.out; have := HBN.out; omega)
          have HGB := HG3
          have kk := blkc HBI.out (i := 2) rfl
          clear hlx hbx hkx hbi hgk hjl hte
          go_upto_region 8 with (fail)
          refine wp_region_L (fun w_ => Below wr.heap.size wr w_) [6, 8] [0, 7, 8] (by kernel_rfl) (Below.refl _ _).drew ?_
          refine wpAnyL_pure (fun _ _ hS_ hb_ => gr_bel hS_ hb_) (i := 0) rfl (by kernel_rfl) (fun _ _ _ h => h) (pureG (by rfl) (by intro w_; go_simp; first | done | with_reducible rfl)) ?_
          try simp only [Act.put, List.getElem_toArray, List.getElem_cons_succ, List.getElem_cons_zero, List.setIfInBounds_toArray, List.set_cons_zero, List.set_cons_succ]
          refine wpAnyL_take (fun _ _ hS_ hb_ => gr_bel hS_ hb_) (i := 1) rfl (by kernel_rfl) (fun _ _ _ h => h) (worldG (by rfl) (by intro w_ hS_; have q := (hS_.cell (World.block_lt_of_cell? wr _ kk)).trans kk; go_simp; first | done | with_reducible rfl)) ?_
          try simp only [Act.put, List.getElem_toArray, List.getElem_cons_succ, List.getElem_cons_zero, List.setIfInBounds_toArray, List.set_cons_zero, List.set_cons_succ]
          refine wpAnyL_take (fun _ _ hS_ hb_ => gr_bel hS_ hb_) (i := 2) rfl (by kernel_rfl) (fun _ _ _ h => h) (loadG (by rfl) _ _ rfl g4 0 rfl [.int .u8 48, .slice none 0 0, .slice kx nx cx] _ (fun w_ hS_ => rangeAt_below (blk_all6 HBX4.out) hS_) Tryz.underlying45 rfl info25) ?_
          try simp only [Act.put, List.getElem_toArray, List.getElem_cons_succ, List.getElem_cons_zero, List.setIfInBounds_toArray, List.set_cons_zero, List.set_cons_succ]
          refine wpAnyL_one (i := 3) (by kernel_rfl) (by decide) fun V3 hv3 hS3 => ?_
          have HSV3 : N ≤ V3.heap.size := by { have h1 := hS3.size; have h2 := HS0.out; omega }
          replace HKX := Lib.hid (HKX.out.below hS3)
          refine wpOp_run (i := 3) (v := .slice (some ⟨V3.heap.size, 0, none⟩) 1 1) (W2 := V3.alloc (.cells #[.int .u8 48, .slice none 0 0, .slice kx nx cx] 45)) rfl (by rfl) (by go_simp; first | done | rfl) ?_
          refine ⟨hS3.alloc hS3.size _, ?_⟩
          try simp only [Act.put, List.getElem_toArray, List.getElem_cons_succ, List.getElem_cons_zero, List.setIfInBounds_toArray, List.set_cons_zero, List.set_cons_succ]
          have HL3 := Lib.hid (lit_g (D := (fun j => j < w0.heap.size ∨ N ≤ j)) (T := .node 48 [] (extT xs) .nil) (n := 1) (cons_g 48 rfl (b := []) (k := extT xs) rfl HLX.out ((HKX.out.mono (fun j hj _ => hj.1)).map (fun x hx => (⟨by decide, bin_empty x none 0 (by simp [maxLen]) (fun _ => rfl), hx⟩ : ItIn x 48 none 0 kx cx [] (extT xs)))) dep_its0) rfl (by decide) (.inr HSV3))
          replace HKX := Lib.hid (HKX.out.below (Gr.alloc V3 (.cells #[.int .u8 48, .slice none 0 0, .slice kx nx cx] 45)))
          refine wpAnyL_one (i := 4) (by kernel_rfl) (by decide) fun V5 hv5 hS5 => ?_
          have HSV5 : N ≤ V5.heap.size := by { have h1 := hS5.size; have h2 := HS0.out; omega }
          replace HL3 := Lib.hid (HL3.out.below hv5)
          refine wpOp_callE (i := 4) rfl (by rfl) rfl Tryz.func24 (by kernel_rfl) (by kernel_rfl) #[.int .u8 163, .slice (some ⟨V3.heap.size, 0, none⟩) 1 1] (by simp [Act.eval]) ((itG (D := (fun j => j < w0.heap.size ∨ N ≤ j)) (rseq_d (fun j => j < w0.heap.size ∨ N ≤ j) 163 163 rfl (by decide) V5 _ 1 1 (.node 48 [] (extT xs) .nil) rfl HL3.out) (fun _ h => h) (fun j hj => .inr (by omega))).mono ?_)
          rintro e w5 ⟨a5, n5, c5, b5, m5, d5, hn5, hm5, rfl, hd5, hb5⟩
          have HN5 := Lib.hid hn5; have HM5 := Lib.hid hm5; clear hn5 hm5
          replace HL3 := Lib.hid (HL3.out.below hb5)
          have HD5 := Lib.hid hd5; clear hd5
          refine ⟨_, rfl, Gr.trans hS5 hb5, ?_⟩
          try simp only [Act.put, List.getElem_toArray, List.getElem_cons_succ, List.getElem_cons_zero, List.setIfInBounds_toArray, List.set_cons_zero, List.set_cons_succ]
          refine wpAnyL_one (i := 5) (by kernel_rfl) (by decide) fun V6 hv6 hS6 => ?_
          have HSV6 : N ≤ V6.heap.size := by { have h1 := hS6.size; have h2 := HS0.out; omega }
          replace HD5 := Lib.hid (HD5.out.below hv6)
          refine wpOp_run (i := 5) (v := .slice (some ⟨V6.heap.size, 0, none⟩) 1 1) (W2 := V6.alloc (.cells #[.int .u8 163, .slice a5 n5 c5, .slice b5 m5 d5] 45)) rfl (by rfl) (by go_simp; first | done | rfl) ?_
          refine ⟨hS6.alloc hS6.size _, ?_⟩
          try simp only [Act.put, List.getElem_toArray, List.getElem_cons_succ, List.getElem_cons_zero, List.setIfInBounds_toArray, List.set_cons_zero, List.set_cons_succ]
          replace HD5 := Lib.hid (HD5.out.below (Gr.alloc V6 (.cells #[.int .u8 163, .slice a5 n5 c5, .slice b5 m5 d5] 45)))
          refine wpAnyL_oneD (i := 6) (by kernel_rfl) (by decide) (by decide) (by kernel_rfl) (by decide) fun W10 hg10 hS10 => ?_
          have hnews := fun j u hu => ((hg10.cell (World.block_lt_of_cell? _ _ (news_lit V6 45 [.int .u8 163, .slice a5 n5 c5, .slice b5 m5 d5] j u hu))).trans (news_lit V6 45 [.int .u8 163, .slice a5 n5 c5, .slice b5 m5 d5] j u hu))
          replace HD5 := Lib.hid (HD5.out.below hg10)
          obtain ⟨i25, hi25, hz25, hs25, hy25⟩ := info_parts info25z
          refine wpOp_append_lies (i := 6) rfl (by rfl) _ _ 43 rfl (w.heap.size + 2) 45 i25 _ 3 56 Tryz.underlying43 hi25 hz25 hs25 hy25 rfl (by decide) (.slice ka1 kn1 kc1) kn1 vs1 rfl (own_below HGK.out.2.1 hS10) ⟨V6.heap.size, 0, none⟩ 1 1 [.int .u8 163, .slice a5 n5 c5, .slice b5 m5 d5] rfl rfl hnews (all1_item _ _ _ _ _ _ _) (by decide) (by have := HKL.out; simp only [maxLen]; omega) (by have := HKL.out; omega) (by have h1 := hS10.size; have h2 := HSB.out; omega) fun g5 cap5 W11 hown5 hg5 hat5 hlt5 => ?_
          try simp only [Act.put, List.getElem_toArray, List.getElem_cons_succ, List.getElem_cons_zero, List.setIfInBounds_toArray, List.set_cons_zero, List.set_cons_succ]
          refine wpAnyL_pure (fun _ _ hS_ hb_ => gr_bel hS_ hb_) (i := 7) rfl (by kernel_rfl) (fun _ _ _ h => h) (pureG (by rfl) (by intro w_; go_simp; first | done | with_reducible rfl)) ?_
          try simp only [Act.put, List.getElem_toArray, List.getElem_cons_succ, List.getElem_cons_zero, List.setIfInBounds_toArray, List.set_cons_zero, List.set_cons_succ]
          have hB11 := (HBI.out.below' hS10).of (hg5.block (g3) (HBI.out.below' hS10).lt (fun e => HGK.out.2.2.1 (by rw [ob, ← e]; simp)))
          refine wpAnyL_cell (i := 8) (g := g3) (x := 2) (t := 45) (u := .slice (some ⟨g5, 0, none⟩) (kn1 + 1) cap5) (by kernel_rfl) (by kernel_rfl) rfl (by decide) (by kernel_rfl) (by decide) hB11 (by simp) (stS (by rfl) rfl rfl rfl) ?_
          intro W12 hg12 hb12
          try simp only [Act.put, List.getElem_toArray, List.getElem_cons_succ, List.getElem_cons_zero, List.setIfInBounds_toArray, List.set_cons_zero, List.set_cons_succ]
          have hob := own_ob_lt HGK.out.2.1
          have hpu := GrowK.push HGK.out HN5.out HM5.out hS10 HD5.out (fun j hj hl => by have h1 := HG3N.out; have h2 := HBN.out; have h5 := HBB.out; have h6 := HGB.out; rcases hj with hj | hj; exact ⟨.inl hj, by omega, fun hx => by have := (hob j hx).1; omega⟩; exact ⟨.inr (by omega), by omega, fun hx => by have := HOBN.out j hx; omega⟩) hg5 HBI.out.lt (Nat.le_refl _) hat5 hown5
          have hkp : ∀ j, j < w.heap.size + 2 → j ≠ g3 → W12.heap[j]? = wr.heap[j]? := fun j hj hne => (hg12.block j (by have h1 := hg5.size; have h2 := hS10.size; have h3 := HSB.out; omega) (fun e => by injection e with e; exact hne e)).trans ((hg5.block j (by have h2 := hS10.size; have h3 := HSB.out; omega) (fun e => by have h4 := (hob j (by rw [ob, ← e]; simp)).1; omega)).trans (hS10.block j (by have h3 := HSB.out; omega)))
          have HBW2 := Lib.hid (show Below (w.heap.size + 2) wr W12 from ⟨hg12.os.trans (hg5.os.trans hS10.os), hg12.tape.trans (hg5.tape.trans hS10.tape), hg12.output.trans (hg5.output.trans hS10.output), Nat.le_trans hS10.size (Nat.le_trans hg5.size hg12.size), fun j hj => hkp j hj (fun e => by have h5 := HGB.out; omega)⟩)
          have HKA := Lib.hid (show KdAt w0.heap.size (w.heap.size + 2) (g3) 48 _ W12 from ⟨_, _, _, _, hb12, hpu.cellK hg12⟩)
          clear hnews hB11 hpu hown5 hg5 hat5 hlt5 hg12 hb12 hg10 hS10 hkp hob hi25 hz25 hs25 hy25
          have HRF := Lib.hid (HRSr.out.below HBW2.out (by omega))
          have HFB := Lib.hid (H0r.out.trans (Below.mono HBW2.out (by omega)))
          obtain ⟨ka9, kn9, kc9, hl9, hb9, hk9⟩ := KdAt.kin HKA.out (by simp [Tr.len, Tr.app])
          have HBI9 := Lib.hid hb9
          have HL9 := Lib.hid hl9
          have HK9 := Lib.hid hk9
          clear hb9 hl9 hk9
          go_wp2_with (first
        | (refine wpList_load_row (P := Tryz.prog) rfl 45 (.tmp 3) rfl g3 rfl 45 _ _ _ HBI9.out Tryz.underlying45 rfl info25 ?_)
        | (refine wpList_store_row (P := Tryz.prog) rfl 45 (.tmp 2) (.tmp 59) rfl (w.heap.size + 1) #[.int .u8 48, .slice none 0 0, .slice ka9 kn9 kc9] rfl rfl 45 _ HRF.out info25 rfl (all_item _ _ _ _ _ _ _) ?_))
          refine bodyPost_ret (results_one Tryz.results25 _ _ (w.heap.size + 1) 45 _ (0, 0) _ rfl (HRF.out.setRow [.int .u8 48, .slice none 0 0, .slice ka9 kn9 kc9]) Tryz.underlying45 rfl info25) rfl ?_
          rw [HXS.out]
          exact ⟨none, 0, 0, ka9, kn9, kc9, rfl, HL9.out, rfl, (((HK9.out.row (w.heap.size + 1) #[.int .u8 48, .slice none 0 0, .slice ka9 kn9 kc9] (fun h => by have := HBB.out; rcases h.1 with h | h <;> omega)).map (fun x hx => (⟨by decide, bin_empty x none 0 (by simp [maxLen]) (fun _ => rfl), hx⟩ : ItIn x 48 none 0 ka9 kc9 [] _))).mono (fun j hj _ => by rcases hj.1 with h | h; exact .inl h; exact .inr (by omega))), below_setRow' HFB.out (by omega) _⟩
end Go.Proofs.YtbabpmncdphnjaaGreat
