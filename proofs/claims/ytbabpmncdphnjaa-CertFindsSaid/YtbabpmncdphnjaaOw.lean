/- Items in memory of the call's own: each list in a block of its own. No condition. -/
import Derived.Test.YtbabpmncdphnjaaMt
import Derived.Deep.AppendLies
namespace Go.Proofs.Ytbabpmncdphnjaa
open Go.RowKit
set_option linter.unusedVariables false
set_option maxRecDepth 100000

theorem ownsMono {w : World} {base base' : Nat} {e : TypeId} {size : Nat} {v : Value} {n : Nat} {xs : List Value} (h : w.ownsRow base e size v n xs) (hb : base' ≤ base) : w.ownsRow base' e size v n xs := by
  refine ⟨h.1, ?_⟩
  rcases h.2 with h2 | ⟨g, cap, cur, rfl, hbg, rest⟩
  · exact .inl h2
  · exact .inr ⟨g, cap, cur, rfl, by omega, rest⟩
theorem all_item (t : Int) (a : Option Addr) (n c : Nat) (a' : Option Addr) (n' c' : Nat) : (#[Value.int .u8 t, .slice a n c, .slice a' n' c'] : Array Value).all (·.oneCell') = true := by
  simp [Value.oneCell']
def ob (v : Value) : List Nat := v.ownBlock.toList
/-- The cells xs hold the items T; their lists lie in the blocks L. -/
def OwnV (w : World) (base : Nat) : Tr → List Value → List Nat → Prop
  | .nil, xs, L => xs = [] ∧ L = []
  | .node t b k r, xs, L => ∃ v1 v2 xr ys L1 L2, xs = .int .u8 (t : Nat) :: v1 :: v2 :: xr ∧ t < 256 ∧ (∀ x ∈ b, x < 256) ∧ b.length ≤ 1048576 ∧ k.len ≤ 1048576 ∧
      w.ownsRow base 5 1 v1 b.length (bytesV b) ∧ w.ownsRow base 25 3 v2 k.len ys ∧ OwnV w base k ys L1 ∧ OwnV w base r xr L2 ∧ L = ob v1 ++ (ob v2 ++ (L1 ++ L2))

theorem own_keep {w w' : World} {base e size n : Nat} {v : Value} {xs : List Value} (h : w.ownsRow base e size v n xs) (hk : ∀ g ∈ ob v, w'.heap[g]? = w.heap[g]?) : w'.ownsRow base e size v n xs := by
  refine ⟨h.1, ?_⟩
  rcases h.2 with h2 | ⟨g, cap, cur, rfl, hbg, hg, rest⟩
  · exact .inl h2
  · exact .inr ⟨g, cap, cur, rfl, hbg, (hk g (by simp [ob, Value.ownBlock])).trans hg, rest⟩
theorem own_ob_lt {w : World} {base e size n : Nat} {v : Value} {xs : List Value} (h : w.ownsRow base e size v n xs) : ∀ g ∈ ob v, base ≤ g ∧ g < w.heap.size := by
  intro g hg
  exact h.lt g (by simpa [ob, Option.mem_toList] using hg)
theorem OwnV.keep {w w' : World} {base : Nat} : ∀ {T : Tr} {xs : List Value} {L : List Nat}, OwnV w base T xs L → (∀ g ∈ L, w'.heap[g]? = w.heap[g]?) → OwnV w' base T xs L
  | .nil, _, _, h, _ => h
  | .node t b k r, xs, L, ⟨v1, v2, xr, ys, L1, L2, e, h1, h2, h3, h4, h5, h6, h7, h8, eL⟩, hk => by
    subst eL
    refine ⟨v1, v2, xr, ys, L1, L2, e, h1, h2, h3, h4, own_keep h5 fun g hg => hk g (by simp [hg]), own_keep h6 fun g hg => hk g (by simp [hg]), OwnV.keep h7 fun g hg => hk g (by simp [hg]), OwnV.keep h8 fun g hg => hk g (by simp [hg]), rfl⟩
theorem OwnV.mono {w : World} {base base' : Nat} (hb : base' ≤ base) : ∀ {T : Tr} {xs : List Value} {L : List Nat}, OwnV w base T xs L → OwnV w base' T xs L
  | .nil, _, _, h => h
  | .node t b k r, xs, L, ⟨v1, v2, xr, ys, L1, L2, e, h1, h2, h3, h4, h5, h6, h7, h8, eL⟩ =>
    ⟨v1, v2, xr, ys, L1, L2, e, h1, h2, h3, h4, ownsMono h5 hb, ownsMono h6 hb, OwnV.mono hb h7, OwnV.mono hb h8, eL⟩
theorem OwnV.lt {w : World} {base : Nat} : ∀ {T : Tr} {xs : List Value} {L : List Nat}, OwnV w base T xs L → ∀ g ∈ L, base ≤ g ∧ g < w.heap.size
  | .nil, _, _, ⟨_, rfl⟩ => by simp
  | .node t b k r, xs, L, ⟨v1, v2, xr, ys, L1, L2, e, h1, h2, h3, h4, h5, h6, h7, h8, eL⟩ => by
    subst eL
    intro g hg
    simp only [List.mem_append] at hg
    rcases hg with hg | hg | hg | hg
    · exact own_ob_lt h5 g hg
    · exact own_ob_lt h6 g hg
    · exact OwnV.lt h7 g hg
    · exact OwnV.lt h8 g hg
theorem OwnV.below {w w' : World} {base : Nat} {T : Tr} {xs : List Value} {L : List Nat} (h : OwnV w base T xs L) (hb : Below w.heap.size w w') : OwnV w' base T xs L :=
  h.keep fun g hg => hb.block g (h.lt g hg).2
theorem OwnV.len {w : World} {base : Nat} : ∀ {T : Tr} {xs : List Value} {L : List Nat}, OwnV w base T xs L → xs.length = 3 * T.len
  | .nil, _, _, ⟨rfl, _⟩ => rfl
  | .node t b k r, xs, L, ⟨v1, v2, xr, ys, L1, L2, e, h1, h2, h3, h4, h5, h6, h7, h8, eL⟩ => by
    subst e
    have := OwnV.len h8
    simp [Tr.len, this]; omega
theorem OwnV.app {w : World} {base : Nat} : ∀ {A B : Tr} {xs ys : List Value} {L M : List Nat}, OwnV w base A xs L → OwnV w base B ys M → OwnV w base (A.app B) (xs ++ ys) (L ++ M)
  | .nil, B, _, _, _, _, ⟨rfl, rfl⟩, h => h
  | .node t b k r, B, _, zs, _, M, ⟨v1, v2, xr, ys, L1, L2, e, h1, h2, h3, h4, h5, h6, h7, h8, eL⟩, h => by
    subst e eL
    exact ⟨v1, v2, xr ++ zs, ys, L1, L2 ++ M, rfl, h1, h2, h3, h4, h5, h6, h7, OwnV.app h8 h, by simp⟩
theorem own_slice {w : World} {base e size n : Nat} {v : Value} {xs : List Value} (h : w.ownsRow base e size v n xs) : ∃ a c, v = .slice a n c := by
  rcases h.2 with ⟨rfl, rfl⟩ | ⟨g, cap, cur, rfl, _⟩
  · exact ⟨_, _, rfl⟩
  · exact ⟨_, _, rfl⟩
theorem OwnV.cell1 {w : World} {base : Nat} : ∀ {T : Tr} {xs : List Value} {L : List Nat}, OwnV w base T xs L → ∀ u ∈ xs, u.oneCell' = true
  | .nil, _, _, ⟨rfl, _⟩ => by simp
  | .node t b k r, xs, L, ⟨v1, v2, xr, ys, L1, L2, e, h1, h2, h3, h4, h5, h6, h7, h8, eL⟩ => by
    subst e
    obtain ⟨a, c, rfl⟩ := own_slice h5
    obtain ⟨a', c', rfl⟩ := own_slice h6
    intro u hu
    simp only [List.mem_cons] at hu
    rcases hu with rfl | rfl | rfl | hu
    · rfl
    · rfl
    · rfl
    · exact OwnV.cell1 h8 u hu
theorem own_row3 {w : World} {base g n cap : Nat} {ys : List Value} (h : w.ownsRow base 25 3 (.slice (some ⟨g, 0, none⟩) n cap) n ys) : ∀ j u, ys[j]? = some u → w.cell? ⟨g, 0 + j, none⟩ = some u := by
  intro j u hu
  have hj : j < ys.length := (List.getElem?_eq_some_iff.1 hu).1
  rw [Nat.zero_add, h.cellAt j (by rw [← h.1]; exact hj)]; exact hu
theorem OwnV.row {w : World} {base : Nat} : ∀ {T : Tr} {xs : List Value} {L : List Nat}, OwnV w base T xs L → ∀ g o, (∀ j u, xs[j]? = some u → w.cell? ⟨g, o + j, none⟩ = some u) → Row w T g o
  | .nil, _, _, _, _, _, _ => trivial
  | .node t b k r, xs, L, ⟨v1, v2, xr, ys, L1, L2, e, h1, h2, h3, h4, h5, h6, h7, h8, eL⟩, g, o, hc => by
    subst e
    have hr := OwnV.row h8 g (o + 3) (fun j u hu => by rw [Nat.add_assoc, Nat.add_comm 3 j]; exact hc (j + 3) u (by simpa using hu))
    obtain ⟨a, c, rfl, hb, _⟩ := own_in h5 h2 (by omega)
    refine ⟨h1, hc 0 _ rfl, ⟨a, c, hc 1 _ rfl, hb⟩, ?_, hr⟩
    have c2 := hc 2 _ rfl
    rcases h6.2 with ⟨rfl, h0⟩ | ⟨g', cap, cur, rfl, _, hg, hle, hm, _, _⟩
    · refine ⟨none, 0, by rw [h0]; exact c2, ⟨by omega, by omega, fun _ => rfl⟩, .inl h0⟩
    · by_cases h0 : k.len = 0
      · exact ⟨_, _, c2, ⟨hle, by omega, fun h => by cases h⟩, .inl h0⟩
      · exact ⟨_, _, c2, ⟨hle, by omega, fun h => by cases h⟩, .inr ⟨g', 0, rfl, OwnV.row h7 g' 0 (own_row3 h6)⟩⟩
theorem OwnV.kin {w : World} {base : Nat} {k : Tr} {v : Value} {ys : List Value} {L : List Nat} (h6 : w.ownsRow base 25 3 v k.len ys) (h7 : OwnV w base k ys L) (h4 : k.len ≤ 1048576) : ∃ a c, v = .slice a k.len c ∧ KIn w a c k := by
  rcases h6.2 with ⟨rfl, h0⟩ | ⟨g', cap, cur, rfl, _, hg, hle, hm, _, _⟩
  · exact ⟨none, 0, by rw [h0], ⟨by omega, by omega, fun _ => rfl⟩, .inl h0⟩
  · refine ⟨_, _, rfl, ⟨hle, by omega, fun h => by cases h⟩, ?_⟩
    by_cases h0 : k.len = 0
    · exact .inl h0
    · exact .inr ⟨g', 0, rfl, OwnV.row h7 g' 0 (own_row3 h6)⟩
/-- one item of the call's own, as its value -/
theorem OwnV.item {w : World} {base : Nat} {t : Nat} {b : List Nat} {k : Tr} {v0 v1 v2 : Value} {L : List Nat} (h : OwnV w base (.node t b k .nil) [v0, v1, v2] L) :
    ∃ a c a' c', v0 = .int .u8 (t : Nat) ∧ v1 = .slice a b.length c ∧ v2 = .slice a' k.len c' ∧ ItIn w t a c a' c' b k := by
  obtain ⟨w1, w2, xr, ys, L1, L2, e, h1, h2, h3, h4, h5, h6, h7, h8, eL⟩ := h
  injection e with e0 e; injection e with e1 e; injection e with e2 e
  subst e0 e1 e2
  obtain ⟨a, c, rfl, hb, _⟩ := own_in h5 h2 (by omega)
  obtain ⟨a', c', rfl, hk⟩ := OwnV.kin h6 h7 h4
  exact ⟨a, c, a', c', rfl, rfl, rfl, h1, hb, hk⟩
theorem OwnV.mk {w : World} {base : Nat} {t : Nat} {b : List Nat} {k : Tr} {v1 v2 : Value} {ys : List Value} {L1 : List Nat} (h1 : t < 256) (h2 : ∀ x ∈ b, x < 256) (h3 : b.length ≤ 1048576) (h4 : k.len ≤ 1048576)
    (h5 : w.ownsRow base 5 1 v1 b.length (bytesV b)) (h6 : w.ownsRow base 25 3 v2 k.len ys) (h7 : OwnV w base k ys L1) : OwnV w base (.node t b k .nil) [.int .u8 (t : Nat), v1, v2] (ob v1 ++ (ob v2 ++ L1)) :=
  ⟨v1, v2, [], ys, L1, [], rfl, h1, h2, h3, h4, h5, h6, h7, ⟨rfl, rfl⟩, by simp⟩
theorem own_other {w : World} {base e size n g : Nat} {v : Value} {xs cs : List Value} {t : TypeId} (h : w.ownsRow base e size v n xs) (hb : Blk w g t cs) (hne : e ≠ t) : ∀ x ∈ ob v, x ≠ g := by
  rintro x hx rfl
  rcases h.2 with ⟨rfl, _⟩ | ⟨g', cap, cur, rfl, _, hg, _⟩
  · simp [ob, Value.ownBlock] at hx
  · simp [ob, Value.ownBlock] at hx
    subst hx
    unfold Blk at hb
    rw [hb] at hg
    injection hg with hg
    injection hg with _ h2
    exact hne h2.symm
theorem own_set {w : World} {base e size n g : Nat} {v : Value} {xs cs : List Value} {t : TypeId} (h : w.ownsRow base e size v n xs) (hb : Blk w g t cs) (hne : e ≠ t) (ds : Array Value) : (w.setRow g ds).ownsRow base e size v n xs :=
  own_keep h fun x hx => setRow_other w g x ds (own_other h hb hne x hx)
theorem results_one {P : Program} {fn : Func} {p : Tmp} {ty : TypeId} (h : fn.results = #[.cell p ty]) (tmps : Array Value) (w : World) (g : Nat) (t : TypeId) (cs : Array Value) (fr : Nat × Nat) (d : TypeDesc)
    (hp : tmps.getD p undef = .pointer (some ⟨g, 0, none⟩)) (hg : w.heap[g]? = some (.cells cs t fr))
    (hu : P.underlying ty = some d) (hd : (match d with | .struct _ | .array _ _ => true | _ => false) = true) (hi : (P.info? ty).map (·.size) = some cs.size) :
    (results fn tmps).run P w = .ok (.agg cs) w := by
  have hp' : tmps[p]?.getD undef = .pointer (some ⟨g, 0, none⟩) := by simpa using hp
  simp [results, h, hp', asAddr, run_loadVar_row w g t ty cs fr d hg hu hd hi]
end Go.Proofs.Ytbabpmncdphnjaa
