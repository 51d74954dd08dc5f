/- Parts of proofs of statements, each text behind those that it stands on. No condition of its own. -/
import Derived.Test.YtbabpmncdphnjaaGreatQ03
import Derived.Test.YtbabpmncdphnjaaGreatQ06
namespace Go.Proofs.YtbabpmncdphnjaaGreat
open Go.RowKit
set_option linter.unusedVariables false
set_option maxRecDepth 100000
set_option linter.unusedSimpArgs false
def Frs (w w' : World) (F : Nat → Prop) : Prop := w'.os = w.os ∧ w'.tape = w.tape ∧ w'.output = w.output ∧ w.heap.size ≤ w'.heap.size ∧ ∀ j, j < w.heap.size → ¬ F j → w'.heap[j]? = w.heap[j]?
theorem Frs.refl (w : World) (F : Nat → Prop) : Frs w w F := ⟨rfl, rfl, rfl, Nat.le_refl _, fun _ _ _ => rfl⟩
theorem Frs.of_below {w w' : World} (h : Below w.heap.size w w') (F : Nat → Prop) : Frs w w' F := ⟨h.os, h.tape, h.output, h.size, fun j hj _ => h.block j hj⟩
theorem Frs.step {a b c : World} {F G : Nat → Prop} (h : Frs a b F) (k : Frs b c G) (hG : ∀ j, G j → F j ∨ a.heap.size ≤ j) : Frs a c F :=
  ⟨k.1.trans h.1, k.2.1.trans h.2.1, k.2.2.1.trans h.2.2.1, Nat.le_trans h.2.2.2.1 k.2.2.2.1, fun j hj hn => by
    have h4 := h.2.2.2.1
    exact (k.2.2.2.2 j (by omega) (fun hg => (hG j hg).elim hn (fun h5 => by omega))).trans (h.2.2.2.2 j hj hn)⟩
theorem Frs.mono {w w' : World} {F G : Nat → Prop} (h : Frs w w' F) (hG : ∀ j, F j → G j) : Frs w w' G := ⟨h.1, h.2.1, h.2.2.1, h.2.2.2.1, fun j hj hn => h.2.2.2.2 j hj (fun hf => hn (hG j hf))⟩
theorem Frs.own {w w' : World} {F : Nat → Prop} {base e size n : Nat} {v : Value} {xs : List Value} (h : Frs w w' F) (ho : w.ownsRow base e size v n xs) (hF : ∀ g ∈ ob v, ¬ F g) : w'.ownsRow base e size v n xs :=
  own_keep ho fun g hg => h.2.2.2.2 g (own_ob_lt ho g hg).2 (hF g hg)
theorem Frs.below {w w' : World} {F : Nat → Prop} {B : Nat} (h : Frs w w' F) (hF : ∀ j, F j → B ≤ j) (hB : B ≤ w.heap.size) : Below B w w' :=
  ⟨h.1, h.2.1, h.2.2.1, h.2.2.2.1, fun j hj => h.2.2.2.2 j (by omega) (fun hf => by have := hF j hf; omega)⟩
theorem own_cur {w : World} {base e size n g cap : Nat} {xs : List Value} (h : w.ownsRow base e size (.slice (some ⟨g, 0, none⟩) n cap) n xs) :
    ∃ cur : List Value, Blk w g e cur ∧ cur.length = cap * size ∧ cur.take (n * size) = xs ∧ n ≤ cap ∧ cap ≤ maxLen ∧ base ≤ g := by
  rcases h.2 with ⟨h', _⟩ | ⟨g', cap', cur, h', hb, hg, hnc, hcm, hcs, htake⟩
  · simp at h'
  · simp only [Value.slice.injEq, Option.some.injEq, Addr.mk.injEq, and_true, true_and] at h'
    obtain ⟨rfl, rfl⟩ := h'
    exact ⟨cur.toList, by simpa [Blk] using hg, by simpa using hcs, htake, hnc, hcm, hb⟩
def Fin (W0 : World) (g g5 : Nat) (cs : List Value) (m : Nat) (W : World) : Prop := (∃ cur : List Value, Blk W g5 45 cur ∧ m ≤ cur.length) ∧ Blk W g 45 cs ∧ g ≠ g5 ∧ Frs W0 W (fun x => x = g ∨ x = g5)
theorem Fin.gr {W0 W W' : World} {g g5 m : Nat} {cs : List Value} (h : Fin W0 g g5 cs m W) (hg : Gr W W') : Fin W0 g g5 cs m W' := by
  obtain ⟨⟨cur, h1, h2⟩, h3, h4, h5⟩ := h
  exact ⟨⟨cur, h1.gr hg, h2⟩, h3.gr hg, h4, h5.step (Frs.of_below hg (fun _ => False)) (fun _ h => h.elim)⟩
section
variable {ops : Array Oper} {Q : Exit → Act → World → Prop} {md : Region.Mode} {S : World → Prop} {D F : List Nat}
theorem wpAnyL_oneF {P : Program} {i fuel : Nat} {listed : Array Bool} {a : Act} {w : World} (hr : Region.ready md ops listed = [i]) (hD : D.contains i = true) (hB : restB F ops.size (listed.setIfInBounds i true) = true) (hsz : (listed.setIfInBounds i true).size ≤ ops.size)
    (h : ∀ W, Gr w W → wpOp P ops Q i (fun a' w' => wpAnyL P md ops Q S D F fuel (listed.setIfInBounds i true) a' w') a W) : wpAnyL P md ops Q S D F (fuel + 1) listed a w := by
  intro w1 hg hcl
  refine ⟨fun h0 => (by rw [h0] at hr; cases hr), fun hS j hj => ?_⟩
  rw [hr] at hj
  obtain rfl : j = i := by simpa using hj
  exact wpOp_mono (fun a' w' h' => ⟨⟨fun _ h0 => (by rw [hD] at h0; cases h0), .inr (restB_spec hB hsz)⟩, h'⟩) (h w1 hg)
end
end Go.Proofs.YtbabpmncdphnjaaGreat
namespace Go.Proofs.YtbabpmncdphnjaaGreat
open Go.RowKit
set_option linter.unusedVariables false
set_option maxRecDepth 100000
set_option linter.unusedSimpArgs false
def Dep (D : Nat → Prop) (w : World) (X : World → Prop) : Prop := ∀ w'' : World, (∀ j, D j → j < w.heap.size → w''.heap[j]? = w.heap[j]?) → X w''
theorem Dep.now {D : Nat → Prop} {w : World} {X : World → Prop} (h : Dep D w X) : X w := h w (fun _ _ _ => rfl)
theorem Dep.mono {D E : Nat → Prop} {w : World} {X : World → Prop} (h : Dep D w X) (hD : ∀ j, D j → j < w.heap.size → E j) : Dep E w X := fun w'' hw => h w'' (fun j hj hl => hw j (hD j hj hl) hl)
theorem Dep.keep {D E : Nat → Prop} {w w' : World} {X : World → Prop} (h : Dep D w X) (hs : w.heap.size ≤ w'.heap.size) (hk : ∀ j, D j → j < w.heap.size → w'.heap[j]? = w.heap[j]?) (hE : ∀ j, D j → j < w.heap.size → E j) : Dep E w' X :=
  fun w'' hw => h w'' (fun j hj hl => (hw j (hE j hj hl) (by omega)).trans (hk j hj hl))
theorem Dep.below {D : Nat → Prop} {w w' : World} {X : World → Prop} (h : Dep D w X) (hb : Below w.heap.size w w') : Dep D w' X := h.keep hb.size (fun j _ hl => hb.block j hl) (fun _ h _ => h)
theorem Dep.cut {D : Nat → Prop} {w w' : World} {X : World → Prop} (h : Dep D w X) (hb : Below w.heap.size w w') : Dep (fun j => D j ∧ j < w.heap.size) w' X := h.keep hb.size (fun j _ hl => hb.block j hl) (fun _ h hl => ⟨h, hl⟩)
theorem Dep.row {D : Nat → Prop} {w : World} {X : World → Prop} (h : Dep D w X) (g : Nat) (cs : Array Value) (hg : ¬ D g) : Dep D (w.setRow g cs) X :=
  h.keep (by simp) (fun j hj _ => setRow_other w g j cs (fun e => hg (e ▸ hj))) (fun _ h _ => h)
theorem Dep.cell {D : Nat → Prop} {w : World} {X : World → Prop} (h : Dep D w X) (a : Addr) (v : Value) (hg : ¬ D a.block) : Dep D (w.setCell a v) X :=
  h.keep (by simp) (fun j hj _ => heap_setCell_other w a j v (fun e => hg (e ▸ hj))) (fun _ h _ => h)
theorem Dep.map {D : Nat → Prop} {w : World} {X Y : World → Prop} (h : Dep D w X) (hY : ∀ w'', X w'' → Y w'') : Dep D w Y := fun w'' hw => hY w'' (h w'' hw)
theorem Dep.and {D E : Nat → Prop} {w : World} {X Y : World → Prop} (h : Dep D w X) (k : Dep E w Y) : Dep (fun j => D j ∨ E j) w (fun x => X x ∧ Y x) := fun w'' hw => ⟨h w'' (fun j hj hl => hw j (.inl hj) hl), k w'' (fun j hj hl => hw j (.inr hj) hl)⟩
theorem dep_own {w : World} {base n : Nat} {a : Option Addr} {c : Nat} {l : List Nat} (h : w.ownsRow base 5 1 (.slice a n c) n (bytesV l)) (h8 : ∀ x ∈ l, x < 256) (hn : n ≤ 140737488355328) : Dep (fun j => base ≤ j) w (fun x => BIn x a n c l) := by
  intro w'' hw
  have h2 := own_keep h (w' := w'') (fun g hg => hw g (own_ob_lt h g hg).1 (own_ob_lt h g hg).2)
  obtain ⟨a2, c2, e, hin, _⟩ := own_in h2 h8 hn
  injection e with e1 _ e3
  subst e1 e3
  exact hin
theorem dep_item {w : World} {base t : Nat} {b : List Nat} {k : Tr} {a a' : Option Addr} {c c' : Nat} {L : List Nat} (h : OwnV w base (.node t b k .nil) [.int .u8 (t : Nat), .slice a b.length c, .slice a' k.len c'] L) : Dep (fun j => base ≤ j) w (fun x => ItIn x t a c a' c' b k) := by
  intro w'' hw
  have h' := h.keep (w' := w'') (fun g hg => hw g (h.lt g hg).1 (h.lt g hg).2)
  obtain ⟨a1, c1, a2, c2, _, e1, e2, hit⟩ := h'.item
  injection e1 with e1 _ e1'
  injection e2 with e2 _ e2'
  subst e1 e1' e2 e2'
  exact hit
def ItR (D : Nat → Prop) (t : Nat) (b : List Nat) (k : Tr) (w : World) (e : Ending) (w' : World) : Prop :=
  ∃ a n c a' m c', b.length = n ∧ k.len = m ∧ e = .returned (itV t a n c a' m c') ∧ Dep (fun j => D j ∨ w.heap.size ≤ j) w' (fun x => ItIn x t a c a' c' b k) ∧ Below w.heap.size w w'
abbrev NoD : Nat → Prop := fun _ => False
def Its (w : World) : Tr → List Value → Prop
  | .nil, xs => xs = []
  | .node t b k r, xs => ∃ a c a' c' xr, xs = .int .u8 (t : Nat) :: .slice a b.length c :: .slice a' k.len c' :: xr ∧ ItIn w t a c a' c' b k ∧ Its w r xr
theorem Its.row {w : World} : ∀ {T : Tr} {xs : List Value} {g o : Nat}, Its w T xs → (∀ j u, xs[j]? = some u → w.cell? ⟨g, o + j, none⟩ = some u) → Row w T g o
  | .nil, _, _, _, _, _ => trivial
  | .node t b k r, xs, g, o, ⟨a, c, a', c', xr, e, hit, hr⟩, hc => by
    subst e
    refine Row.node (fun j v hv => ?_) hit (Its.row hr (fun j u hu => by rw [Nat.add_assoc, Nat.add_comm 3 j]; exact hc (j + 3) u (by simpa using hu)))
    match j, hv with
    | 0, hv => exact hc 0 v (by simpa using hv)
    | 1, hv => exact hc 1 v (by simpa using hv)
    | 2, hv => exact hc 2 v (by simpa using hv)
    | j + 3, hv => simp at hv
theorem Its.length {w : World} : ∀ {T : Tr} {xs : List Value}, Its w T xs → xs.length = 3 * T.len
  | .nil, _, h => by subst h; rfl
  | .node t b k r, xs, ⟨a, c, a', c', xr, e, hit, hr⟩ => by subst e; have := Its.length hr; simp [Tr.len, this]; omega
theorem dep_lit {D : Nat → Prop} {w : World} {T : Tr} {xs : List Value} {n : Nat} (h : Dep D w (fun x => Its x T xs)) (hn : T.len = n) (hl : n ≤ 1000) {w' : World} {g : Nat} (hg : w.heap.size ≤ g) (hs : w.heap.size ≤ w'.heap.size) (hk : ∀ j, D j → j < w.heap.size → w'.heap[j]? = w.heap[j]?) (hb : Blk w' g 45 xs) :
    Dep (fun j => (D j ∧ j < w.heap.size) ∨ j = g) w' (fun x => KIn x (some ⟨g, 0, none⟩) n T) := by
  intro w'' hw
  have hi := h w'' (fun j hj hl => (hw j (.inl ⟨hj, hl⟩) (by omega)).trans (hk j hj hl))
  have hb2 : Blk w'' g 45 xs := hb.of (hw g (.inr rfl) hb.lt)
  refine ⟨⟨by omega, by omega, fun h => by cases h⟩, ?_⟩
  exact .inr ⟨g, 0, rfl, hi.row (fun j u hu => by rw [Nat.zero_add, hb2.cell j]; exact hu)⟩
theorem dep_cons {D E : Nat → Prop} {w : World} {t : Nat} {b : List Nat} {k r : Tr} {xr : List Value} {a a' : Option Addr} {c c' n m : Nat} (hn : b.length = n) (hm : k.len = m) (h : Dep D w (fun x => ItIn x t a c a' c' b k)) (hr : Dep E w (fun x => Its x r xr)) :
    Dep (fun j => D j ∨ E j) w (fun x => Its x (.node t b k r) (.int .u8 (t : Nat) :: .slice a n c :: .slice a' m c' :: xr)) := by
  subst hn hm
  exact (h.and hr).map (fun x hx => ⟨a, c, a', c', xr, rfl, hx.1, hx.2⟩)
theorem dep_itnil {w : World} {D : Nat → Prop} {t : Nat} {b : List Nat} {a : Option Addr} {c : Nat} (ht : t < 256) (hn : b.length ≤ 140737488355328) (h : Dep D w (fun x => BIn x a b.length c b)) : Dep D w (fun x => ItIn x t a c none 0 b .nil) := h.map (fun x hx => ⟨ht, hx, KIn.nil x⟩)
end Go.Proofs.YtbabpmncdphnjaaGreat
