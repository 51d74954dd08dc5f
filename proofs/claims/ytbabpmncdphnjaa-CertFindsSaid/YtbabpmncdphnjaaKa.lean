/- What hangs on some blocks alone; items that a call made, told so that a store elsewhere leaves them. No condition. -/
import Derived.Test.YtbabpmncdphnjaaSpo
namespace Go.Proofs.Ytbabpmncdphnjaa
open Go.RowKit
set_option linter.unusedVariables false
set_option maxRecDepth 100000
set_option linter.unusedSimpArgs false

/-- X holds wherever the blocks of D are as they are here -/
def Dep (D : Nat → Prop) (w : World) (X : World → Prop) : Prop := ∀ w'' : World, (∀ j, D j → j < w.heap.size → w''.heap[j]? = w.heap[j]?) → X w''
theorem Dep.now {D : Nat → Prop} {w : World} {X : World → Prop} (h : Dep D w X) : X w := h w (fun _ _ _ => rfl)
theorem Dep.mono {D E : Nat → Prop} {w : World} {X : World → Prop} (h : Dep D w X) (hD : ∀ j, D j → j < w.heap.size → E j) : Dep E w X := fun w'' hw => h w'' (fun j hj hl => hw j (hD j hj hl) hl)
theorem Dep.keep {D E : Nat → Prop} {w w' : World} {X : World → Prop} (h : Dep D w X) (hs : w.heap.size ≤ w'.heap.size) (hk : ∀ j, D j → j < w.heap.size → w'.heap[j]? = w.heap[j]?) (hE : ∀ j, D j → j < w.heap.size → E j) : Dep E w' X :=
  fun w'' hw => h w'' (fun j hj hl => (hw j (hE j hj hl) (by omega)).trans (hk j hj hl))
theorem Dep.below {D : Nat → Prop} {w w' : World} {X : World → Prop} (h : Dep D w X) (hb : Below w.heap.size w w') : Dep D w' X := h.keep hb.size (fun j _ hl => hb.block j hl) (fun _ h _ => h)
theorem Dep.cut {D : Nat → Prop} {w w' : World} {X : World → Prop} (h : Dep D w X) (hb : Below w.heap.size w w') : Dep (fun j => D j ∧ j < w.heap.size) w' X := h.keep hb.size (fun j _ hl => hb.block j hl) (fun _ h hl => ⟨h, hl⟩)
theorem Dep.row {D : Nat → Prop} {w : World} {X : World → Prop} (h : Dep D w X) (g : Nat) (cs : Array Value) (hg : ¬ D g) : Dep D (w.setRow g cs) X :=
  h.keep (by simp) (fun j hj _ => setRow_other w g j cs (fun e => hg (e ▸ hj))) (fun _ h _ => h)
theorem Dep.cell {D : Nat → Prop} {w : World} {X : World → Prop} (h : Dep D w X) (a : Addr) (v : Value) (hg : ¬ D a.block) : Dep D (w.setCell a v) X :=
  h.keep (by simp) (fun j hj _ => heap_setCell_other w a j v (fun e => hg (e ▸ hj))) (fun _ h _ => h)
theorem Dep.map {D : Nat → Prop} {w : World} {X Y : World → Prop} (h : Dep D w X) (hY : ∀ w'', X w'' → Y w'') : Dep D w Y := fun w'' hw => hY w'' (h w'' hw)
theorem Dep.and {D E : Nat → Prop} {w : World} {X Y : World → Prop} (h : Dep D w X) (k : Dep E w Y) : Dep (fun j => D j ∨ E j) w (fun x => X x ∧ Y x) := fun w'' hw => ⟨h w'' (fun j hj hl => hw j (.inl hj) hl), k w'' (fun j hj hl => hw j (.inr hj) hl)⟩
theorem Dep.const {D : Nat → Prop} {w : World} {p : Prop} (h : p) : Dep D w (fun _ => p) := fun _ _ => h
theorem dep_own {w : World} {base n : Nat} {a : Option Addr} {c : Nat} {l : List Nat} (h : w.ownsRow base 5 1 (.slice a n c) n (bytesV l)) (h8 : ∀ x ∈ l, x < 256) (hn : n ≤ 140737488355328) : Dep (fun j => base ≤ j) w (fun x => BIn x a n c l) := by
  intro w'' hw
  have h2 := own_keep h (w' := w'') (fun g hg => hw g (own_ob_lt h g hg).1 (own_ob_lt h g hg).2)
  obtain ⟨a2, c2, e, hin, _⟩ := own_in h2 h8 hn
  injection e with e1 _ e3
  subst e1 e3
  exact hin
theorem dep_nilB (w : World) (D : Nat → Prop) : Dep D w (fun x => BIn x none 0 0 []) := fun w'' _ => bin_empty w'' none 0 (by simp [maxLen]) (fun _ => rfl)
theorem dep_kin {w : World} {base : Nat} {k : Tr} {a : Option Addr} {c : Nat} {ys : List Value} {L : List Nat} (h6 : w.ownsRow base 25 3 (.slice a k.len c) k.len ys) (h7 : OwnV w base k ys L) (h4 : k.len ≤ 1048576) : Dep (fun j => base ≤ j) w (fun x => KIn x a c k) := by
  intro w'' hw
  have h6' := own_keep h6 (w' := w'') (fun g hg => hw g (own_ob_lt h6 g hg).1 (own_ob_lt h6 g hg).2)
  have h7' := h7.keep (w' := w'') (fun g hg => hw g (h7.lt g hg).1 (h7.lt g hg).2)
  obtain ⟨a2, c2, e, hin⟩ := OwnV.kin h6' h7' h4
  injection e with e1 _ e3
  subst e1 e3
  exact hin
/-- an item of the call's own, as what hangs on its own blocks -/
theorem dep_item {w : World} {base t : Nat} {b : List Nat} {k : Tr} {a a' : Option Addr} {c c' : Nat} {L : List Nat} (h : OwnV w base (.node t b k .nil) [.int .u8 (t : Nat), .slice a b.length c, .slice a' k.len c'] L) : Dep (fun j => base ≤ j) w (fun x => ItIn x t a c a' c' b k) := by
  intro w'' hw
  have h' := h.keep (w' := w'') (fun g hg => hw g (h.lt g hg).1 (h.lt g hg).2)
  obtain ⟨a1, c1, a2, c2, _, e1, e2, hit⟩ := h'.item
  injection e1 with e1 _ e1'
  injection e2 with e2 _ e2'
  subst e1 e1' e2 e2'
  exact hit
/-- what a call that makes an item answers: it hangs on new blocks and those of D -/
def ItR (D : Nat → Prop) (t : Nat) (b : List Nat) (k : Tr) (w : World) (e : Ending) (w' : World) : Prop :=
  ∃ a n c a' m c', b.length = n ∧ k.len = m ∧ e = .returned (itV t a n c a' m c') ∧ Dep (fun j => D j ∨ w.heap.size ≤ j) w' (fun x => ItIn x t a c a' c' b k) ∧ Below w.heap.size w w'
abbrev NoD : Nat → Prop := fun _ => False
/-- the cells xs are these items -/
def Its (w : World) : Tr → List Value → Prop
  | .nil, xs => xs = []
  | .node t b k r, xs => ∃ a c a' c' xr, xs = .int .u8 (t : Nat) :: .slice a b.length c :: .slice a' k.len c' :: xr ∧ ItIn w t a c a' c' b k ∧ Its w r xr
theorem Its.row {w : World} : ∀ {T : Tr} {xs : List Value} {g o : Nat}, Its w T xs → (∀ j u, xs[j]? = some u → w.cell? ⟨g, o + j, none⟩ = some u) → Row w T g o
  | .nil, _, _, _, _, _ => trivial
  | .node t b k r, xs, g, o, ⟨a, c, a', c', xr, e, hit, hr⟩, hc => by
    subst e
    refine Row.node (fun j v hv => ?_) hit (Its.row hr (fun j u hu => by rw [Nat.add_assoc, Nat.add_comm 3 j]; exact hc (j + 3) u (by simpa using hu)))
    match j, hv with
    | 0, hv => exact hc 0 v (by simpa using hv)
    | 1, hv => exact hc 1 v (by simpa using hv)
    | 2, hv => exact hc 2 v (by simpa using hv)
    | j + 3, hv => simp at hv
theorem Its.length {w : World} : ∀ {T : Tr} {xs : List Value}, Its w T xs → xs.length = 3 * T.len
  | .nil, _, h => by subst h; rfl
  | .node t b k r, xs, ⟨a, c, a', c', xr, e, hit, hr⟩ => by subst e; have := Its.length hr; simp [Tr.len, this]; omega
/-- a list of items that lies in a new block -/
theorem dep_lit {D : Nat → Prop} {w : World} {T : Tr} {xs : List Value} {n : Nat} (h : Dep D w (fun x => Its x T xs)) (hn : T.len = n) (hl : n ≤ 1000) {w' : World} {g : Nat} (hg : w.heap.size ≤ g) (hs : w.heap.size ≤ w'.heap.size) (hk : ∀ j, D j → j < w.heap.size → w'.heap[j]? = w.heap[j]?) (hb : Blk w' g 25 xs) :
    Dep (fun j => (D j ∧ j < w.heap.size) ∨ j = g) w' (fun x => KIn x (some ⟨g, 0, none⟩) n T) := by
  intro w'' hw
  have hi := h w'' (fun j hj hl => (hw j (.inl ⟨hj, hl⟩) (by omega)).trans (hk j hj hl))
  have hb2 : Blk w'' g 25 xs := hb.of (hw g (.inr rfl) hb.lt)
  refine ⟨⟨by omega, by omega, fun h => by cases h⟩, ?_⟩
  exact .inr ⟨g, 0, rfl, hi.row (fun j u hu => by rw [Nat.zero_add, hb2.cell j]; exact hu)⟩
theorem dep_cons {D E : Nat → Prop} {w : World} {t : Nat} {b : List Nat} {k r : Tr} {xr : List Value} {a a' : Option Addr} {c c' n m : Nat} (hn : b.length = n) (hm : k.len = m) (h : Dep D w (fun x => ItIn x t a c a' c' b k)) (hr : Dep E w (fun x => Its x r xr)) :
    Dep (fun j => D j ∨ E j) w (fun x => Its x (.node t b k r) (.int .u8 (t : Nat) :: .slice a n c :: .slice a' m c' :: xr)) := by
  subst hn hm
  exact (h.and hr).map (fun x hx => ⟨a, c, a', c', xr, rfl, hx.1, hx.2⟩)
theorem dep_itnil {w : World} {D : Nat → Prop} {t : Nat} {b : List Nat} {a : Option Addr} {c : Nat} (ht : t < 256) (hn : b.length ≤ 140737488355328) (h : Dep D w (fun x => BIn x a b.length c b)) : Dep D w (fun x => ItIn x t a c none 0 b .nil) := h.map (fun x hx => ⟨ht, hx, KIn.nil x⟩)
end Go.Proofs.Ytbabpmncdphnjaa
