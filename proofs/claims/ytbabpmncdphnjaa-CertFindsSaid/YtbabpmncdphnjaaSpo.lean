/- What an item's owner may write over, and what stays: plain facts of worlds. No condition. -/
import Derived.Test.YtbabpmncdphnjaaGq
import Derived.Test.YtbabpmncdphnjaaCn
import Derived.Test.YtbabpmncdphnjaaRa
import Derived.Deep.MidRow
namespace Go.Proofs.Ytbabpmncdphnjaa
open Go.RowKit
set_option linter.unusedVariables false
set_option maxRecDepth 100000
set_option linter.unusedSimpArgs false

/-- all blocks that were there are as they were, but those of F -/
def Frs (w w' : World) (F : Nat → Prop) : Prop := w'.os = w.os ∧ w'.tape = w.tape ∧ w'.output = w.output ∧ w.heap.size ≤ w'.heap.size ∧ ∀ j, j < w.heap.size → ¬ F j → w'.heap[j]? = w.heap[j]?
theorem Frs.refl (w : World) (F : Nat → Prop) : Frs w w F := ⟨rfl, rfl, rfl, Nat.le_refl _, fun _ _ _ => rfl⟩
theorem Frs.of_grown {w w' : World} {row : Option Nat} {F : Nat → Prop} (h : w.grownBy w' row) (hF : ∀ k, row = some k → F k) : Frs w w' F :=
  ⟨h.os, h.tape, h.output, h.size, fun j hj hn => h.block j hj (fun e => hn (hF j e.symm))⟩
theorem Frs.of_below {w w' : World} (h : Below w.heap.size w w') (F : Nat → Prop) : Frs w w' F := ⟨h.os, h.tape, h.output, h.size, fun j hj _ => h.block j hj⟩
theorem Frs.step {a b c : World} {F G : Nat → Prop} (h : Frs a b F) (k : Frs b c G) (hG : ∀ j, G j → F j ∨ a.heap.size ≤ j) : Frs a c F :=
  ⟨k.1.trans h.1, k.2.1.trans h.2.1, k.2.2.1.trans h.2.2.1, Nat.le_trans h.2.2.2.1 k.2.2.2.1, fun j hj hn => by
    have h4 := h.2.2.2.1
    exact (k.2.2.2.2 j (by omega) (fun hg => (hG j hg).elim hn (fun h5 => by omega))).trans (h.2.2.2.2 j hj hn)⟩
theorem Frs.mono {w w' : World} {F G : Nat → Prop} (h : Frs w w' F) (hG : ∀ j, F j → G j) : Frs w w' G := ⟨h.1, h.2.1, h.2.2.1, h.2.2.2.1, fun j hj hn => h.2.2.2.2 j hj (fun hf => hn (hG j hf))⟩
theorem Frs.blk {w w' : World} {F : Nat → Prop} {g : Nat} {t : TypeId} {cs : List Value} (h : Frs w w' F) (hb : Blk w g t cs) (hF : ¬ F g) : Blk w' g t cs := hb.of (h.2.2.2.2 g hb.lt hF)
theorem Frs.own {w w' : World} {F : Nat → Prop} {base e size n : Nat} {v : Value} {xs : List Value} (h : Frs w w' F) (ho : w.ownsRow base e size v n xs) (hF : ∀ g ∈ ob v, ¬ F g) : w'.ownsRow base e size v n xs :=
  own_keep ho fun g hg => h.2.2.2.2 g (own_ob_lt ho g hg).2 (hF g hg)
theorem Frs.ownV {w w' : World} {F : Nat → Prop} {base : Nat} {T : Tr} {xs : List Value} {L : List Nat} (h : Frs w w' F) (ho : OwnV w base T xs L) (hF : ∀ g ∈ L, ¬ F g) : OwnV w' base T xs L :=
  ho.keep fun g hg => h.2.2.2.2 g (ho.lt g hg).2 (hF g hg)
theorem Frs.below {w w' : World} {F : Nat → Prop} {B : Nat} (h : Frs w w' F) (hF : ∀ j, F j → B ≤ j) (hB : B ≤ w.heap.size) : Below B w w' :=
  ⟨h.1, h.2.1, h.2.2.1, h.2.2.2.1, fun j hj => h.2.2.2.2 j (by omega) (fun hf => by have := hF j hf; omega)⟩
theorem own_cur {w : World} {base e size n g cap : Nat} {xs : List Value} (h : w.ownsRow base e size (.slice (some ⟨g, 0, none⟩) n cap) n xs) :
    ∃ cur : List Value, Blk w g e cur ∧ cur.length = cap * size ∧ cur.take (n * size) = xs ∧ n ≤ cap ∧ cap ≤ maxLen ∧ base ≤ g := by
  rcases h.2 with ⟨h', _⟩ | ⟨g', cap', cur, h', hb, hg, hnc, hcm, hcs, htake⟩
  · simp at h'
  · simp only [Value.slice.injEq, Option.some.injEq, Addr.mk.injEq, and_true, true_and] at h'
    obtain ⟨rfl, rfl⟩ := h'
    exact ⟨cur.toList, by simpa [Blk] using hg, by simpa using hcs, htake, hnc, hcm, hb⟩
theorem own_of_cur {w : World} {base e size n g cap : Nat} {cur : List Value} (hb : base ≤ g) (h : Blk w g e cur) (hl : cur.length = cap * size) (hn : n ≤ cap) (hm : cap ≤ maxLen) :
    w.ownsRow base e size (.slice (some ⟨g, 0, none⟩) n cap) n (cur.take (n * size)) := by
  refine ⟨by rw [List.length_take, hl, Nat.min_eq_left (Nat.mul_le_mul_right _ hn)], .inr ⟨g, cap, cur.toArray, rfl, hb, h, hn, hm, by simpa using hl, by simp⟩⟩
/-- the items from the j-th on are as they were made -/
def KidsAt (w : World) (base : Nat) (v2 : Value) (n j : Nat) (r : Tr) (Lr : List Nat) : Prop :=
  ∃ zs, w.ownsRow base 25 3 v2 n zs ∧ OwnV w base r (zs.drop (3 * j)) Lr ∧ Lr.Nodup ∧ ∀ g ∈ ob v2, g ∉ Lr
theorem KidsAt.kept {w w' : World} {F : Nat → Prop} {base n j : Nat} {v2 : Value} {r : Tr} {Lr : List Nat} (h : KidsAt w base v2 n j r Lr) (hf : Frs w w' F) (h1 : ∀ g ∈ ob v2, ¬ F g) (h2 : ∀ g ∈ Lr, ¬ F g) : KidsAt w' base v2 n j r Lr := by
  obtain ⟨zs, a, b, c, d⟩ := h
  exact ⟨zs, hf.own a h1, hf.ownV b h2, c, d⟩
theorem take_drop_eq {cur cur' : List Value} {m j : Nat} (hl : cur'.length = cur.length) (h : ∀ i, i < 3 * j ∨ 3 * j + 3 ≤ i → cur'[i]? = cur[i]?) : (cur'.take m).drop (3 * (j + 1)) = (cur.take m).drop (3 * (j + 1)) := by
  apply List.ext_getElem?
  intro i
  simp only [List.getElem?_drop, List.getElem?_take]
  split
  · exact h _ (.inr (by omega))
  · rfl
theorem drop3 {zs xr : List Value} {a b c : Value} {m : Nat} (h : zs.drop m = a :: b :: c :: xr) : zs[m]? = some a ∧ zs[m + 1]? = some b ∧ zs[m + 2]? = some c ∧ zs.drop (m + 3) = xr ∧ m + 3 ≤ zs.length := by
  have h0 : (zs.drop m)[0]? = some a := by rw [h]; rfl
  have h1 : (zs.drop m)[1]? = some b := by rw [h]; rfl
  have h2 : (zs.drop m)[2]? = some c := by rw [h]; rfl
  rw [List.getElem?_drop] at h0 h1 h2
  refine ⟨h0, h1, h2, ?_, ?_⟩
  · rw [← List.drop_drop, h]; rfl
  · have := (List.getElem?_eq_some_iff.1 h2).1; omega
theorem KidsAt.next {w : World} {base n cap gK j t : Nat} {b : List Nat} {k r : Tr} {Lr : List Nat} (h : KidsAt w base (.slice (some ⟨gK, 0, none⟩) n cap) n j (.node t b k r) Lr) :
    ∃ (cur : List Value) (x1 x2 : Value) (Lk Lr' : List Nat), Blk w gK 25 cur ∧ j * 3 + 3 ≤ cur.length ∧ cur[j * 3]? = some (.int .u8 (t : Nat)) ∧ cur[j * 3 + 1]? = some x1 ∧ cur[j * 3 + 2]? = some x2 ∧
      OwnV w base (.node t b k .nil) [.int .u8 (t : Nat), x1, x2] Lk ∧ Lk.Nodup ∧ gK ∉ Lk ∧ (∀ x ∈ Lk, x ∈ Lr) ∧ (∀ x ∈ Lr', x ∈ Lr) ∧
      ∀ (w' : World) (cur' : List Value), Blk w' gK 25 cur' → cur'.length = cur.length → (∀ i, i < j * 3 ∨ j * 3 + 3 ≤ i → cur'[i]? = cur[i]?) → Frs w w' (fun x => x = gK ∨ x ∈ Lk) →
        KidsAt w' base (.slice (some ⟨gK, 0, none⟩) n cap) n (j + 1) r Lr' := by
  obtain ⟨zs, hown, hV, hN, hd⟩ := h
  obtain ⟨cur, hb, hl, htk, hnc, hcm, hbg⟩ := own_cur hown
  obtain ⟨v1, v2, xr, ys, L1, L2, e, h1, h2, h3, h4, h5, h6, h7, h8, eL⟩ := hV
  obtain ⟨d0, d1, d2, d3, d4⟩ := drop3 e
  have hgK : gK ∉ Lr := hd gK (by simp [ob, Value.ownBlock])
  have hz : ∀ (i : Nat) (u : Value), zs[i]? = some u → cur[i]? = some u := by
    intro i u hu
    rw [← htk, List.getElem?_take] at hu
    split at hu
    · exact hu
    · cases hu
  have e3 : j * 3 = 3 * j := Nat.mul_comm _ _
  have hzl : zs.length ≤ cur.length := by rw [← htk]; simp; omega
  have hN2 := hN
  rw [eL] at hN2
  have hsub : ∀ x ∈ ob v1 ++ (ob v2 ++ L1), x ∈ Lr := by
    intro x hx; rw [eL]
    simp only [List.mem_append] at hx ⊢
    rcases hx with hx | hx | hx
    · exact .inl hx
    · exact .inr (.inl hx)
    · exact .inr (.inr (.inl hx))
  have hdis : ∀ x ∈ L2, x ∉ ob v1 ++ (ob v2 ++ L1) := by
    intro x hx hy
    have e4 : ob v1 ++ (ob v2 ++ (L1 ++ L2)) = (ob v1 ++ (ob v2 ++ L1)) ++ L2 := by simp
    rw [e4] at hN2
    exact (List.nodup_append.1 hN2).2.2 x hy x hx rfl
  have hN3 : (ob v1 ++ (ob v2 ++ L1)).Nodup ∧ L2.Nodup := by
    have e4 : ob v1 ++ (ob v2 ++ (L1 ++ L2)) = (ob v1 ++ (ob v2 ++ L1)) ++ L2 := by simp
    rw [e4] at hN2
    exact ⟨(List.nodup_append.1 hN2).1, (List.nodup_append.1 hN2).2.1⟩
  refine ⟨cur, v1, v2, _, L2, hb, by omega, by rw [e3]; exact hz _ _ d0, by rw [e3]; exact hz _ _ d1, by rw [e3]; exact hz _ _ d2, OwnV.mk h1 h2 h3 h4 h5 h6 h7, hN3.1, fun hx => hgK (hsub _ hx), hsub, fun x hx => by rw [eL]; simp [hx], ?_⟩
  intro w' cur' hb' hl' hsame hf
  refine ⟨cur'.take (n * 3), own_of_cur hbg hb' (by rw [hl', hl]) hnc hcm, ?_, hN3.2, ?_⟩
  · rw [take_drop_eq hl' (by rw [← e3]; exact hsame), htk, show 3 * (j + 1) = 3 * j + 3 by omega, d3]
    refine hf.ownV h8 fun x hx hx2 => ?_
    rcases hx2 with rfl | hx2
    · exact hgK (by rw [eL]; simp [hx])
    · exact hdis x hx hx2
  · intro x hx hx2
    have : x = gK := by simpa [ob, Value.ownBlock] using hx
    subst this
    exact hgK (by rw [eL]; simp [hx2])
/-- what is known while the last stores come up in any order -/
def Fin (W0 : World) (g g5 : Nat) (cs : List Value) (m : Nat) (W : World) : Prop := (∃ cur : List Value, Blk W g5 25 cur ∧ m ≤ cur.length) ∧ Blk W g 25 cs ∧ g ≠ g5 ∧ Frs W0 W (fun x => x = g ∨ x = g5)
theorem Fin.gr {W0 W W' : World} {g g5 m : Nat} {cs : List Value} (h : Fin W0 g g5 cs m W) (hg : Gr W W') : Fin W0 g g5 cs m W' := by
  obtain ⟨⟨cur, h1, h2⟩, h3, h4, h5⟩ := h
  exact ⟨⟨cur, h1.gr hg, h2⟩, h3.gr hg, h4, h5.step (Frs.of_below hg (fun _ => False)) (fun _ h => h.elim)⟩
theorem setL_length : ∀ (vs cs : List Value) (o : Nat), (setL cs o vs).length = cs.length
  | [], _, _ => rfl
  | v :: r, cs, o => by rw [setL, setL_length r]; simp
theorem Fin.rowed {W0 W : World} {g g5 m : Nat} {cs : List Value} (h : Fin W0 g g5 cs m W) (off : Nat) (vs : List Value) : Fin W0 g g5 cs m (W.setCells g5 off vs) := by
  obtain ⟨⟨cur, h1, h2⟩, h3, h4, h5⟩ := h
  exact ⟨⟨_, setCells_blk g5 25 vs off W cur h1, by rw [setL_length]; exact h2⟩, h3.grown (grown_setCells g5 vs off W) (fun e => h4 (by injection e)), h4, h5.step (Frs.of_grown (F := fun x => x = g5) (grown_setCells g5 vs off W) (fun k hk => by injection hk with hk; exact hk.symm)) (fun j hj => .inl (.inr hj))⟩
theorem Fin.celled {W0 W : World} {g g5 m : Nat} {cs : List Value} (h : Fin W0 g g5 cs m W) (x : Nat) (u : Value) : Fin W0 g g5 (cs.set x u) m (W.setCell ⟨g, x, none⟩ u) := by
  obtain ⟨⟨cur, h1, h2⟩, h3, h4, h5⟩ := h
  exact ⟨⟨cur, h1.other _ _ (fun e => h4 e.symm), h2⟩, h3.set x u, h4, h5.step (Frs.of_grown (F := fun x => x = g) (grown_setCell W ⟨g, x, none⟩ u) (fun k hk => by injection hk with hk; exact hk.symm)) (fun j hj => .inl (.inl hj))⟩
section
variable {ops : Array Oper} {Q : Exit → Act → World → Prop} {md : Region.Mode} {S : World → Prop} {D F : List Nat}
/-- one operation may come up; it and what is left need nothing of S -/
theorem wpAnyL_oneF {P : Program} {i fuel : Nat} {listed : Array Bool} {a : Act} {w : World} (hr : Region.ready md ops listed = [i]) (hD : D.contains i = true) (hB : restB F ops.size (listed.setIfInBounds i true) = true) (hsz : (listed.setIfInBounds i true).size ≤ ops.size)
    (h : ∀ W, Gr w W → wpOp P ops Q i (fun a' w' => wpAnyL P md ops Q S D F fuel (listed.setIfInBounds i true) a' w') a W) : wpAnyL P md ops Q S D F (fuel + 1) listed a w := by
  intro w1 hg hcl
  refine ⟨fun h0 => (by rw [h0] at hr; cases hr), fun hS j hj => ?_⟩
  rw [hr] at hj
  obtain rfl : j = i := by simpa using hj
  exact wpOp_mono (fun a' w' h' => ⟨⟨fun _ h0 => (by rw [hD] at h0; cases h0), .inr (restB_spec hB hsz)⟩, h'⟩) (h w1 hg)
theorem wpAnyL_twoF {P : Program} {i j fuel : Nat} {listed : Array Bool} {a : Act} {w : World} (hr : Region.ready md ops listed = [i, j]) (hDi : D.contains i = true) (hDj : D.contains j = true)
    (hBi : restB F ops.size (listed.setIfInBounds i true) = true) (hBj : restB F ops.size (listed.setIfInBounds j true) = true) (hsz : listed.size ≤ ops.size)
    (h1 : ∀ W, Gr w W → wpOp P ops Q i (fun a' w' => wpAnyL P md ops Q S D F fuel (listed.setIfInBounds i true) a' w') a W)
    (h2 : ∀ W, Gr w W → wpOp P ops Q j (fun a' w' => wpAnyL P md ops Q S D F fuel (listed.setIfInBounds j true) a' w') a W) : wpAnyL P md ops Q S D F (fuel + 1) listed a w := by
  intro w1 hg hcl
  refine ⟨fun h0 => (by rw [h0] at hr; cases hr), fun hS k hk => ?_⟩
  rw [hr] at hk
  have hk2 : k = i ∨ k = j := by simpa using hk
  rcases hk2 with rfl | rfl
  · exact wpOp_mono (fun a' w' h' => ⟨⟨fun _ h0 => (by rw [hDi] at h0; cases h0), .inr (restB_spec hBi (by simpa using hsz))⟩, h'⟩) (h1 w1 hg)
  · exact wpOp_mono (fun a' w' h' => ⟨⟨fun _ h0 => (by rw [hDj] at h0; cases h0), .inr (restB_spec hBj (by simpa using hsz))⟩, h'⟩) (h2 w1 hg)
theorem Fin.wpRow {i : Nat} {o : Oper} {a : Act} {W0 W : World} {g g5 m off : Nat} {cs : List Value} {x y : Operand} {K : Act → World → Prop} (hF : Fin W0 g g5 cs m W) (hi : ops[i]? = some o) (hw : Region.wanted o (yielded ops a.tmps) = true)
    (ho : o.op = .store 25 x y) (hx : a.eval x = .pointer (some ⟨g5, off, none⟩)) (t : Int) (hy : a.eval y = .agg #[.int .u8 t, .slice none 0 0, .slice none 0 0]) (hm : off + 3 ≤ m)
    (h : ∀ W', Fin W0 g g5 cs m W' → K (a.put o.dst undef) W') : wpOp Try.prog ops Q i K a W := by
  obtain ⟨cur, h1, h2⟩ := hF.1
  refine wpOp_skip (W2 := W.setCells g5 off [.int .u8 t, .slice none 0 0, .slice none 0 0]) hi hw ?_ (h _ (hF.rowed _ _))
  have := run_storeVar_mid (P := Try.prog) W g5 off 25 #[.int .u8 t, .slice none 0 0, .slice none 0 0] (fun j hj => ⟨by
    rw [h1.cell (off + j)]; simp at hj; rw [List.getElem?_eq_getElem (by omega)]; rfl, h1.free _⟩) info25 (all_item _ _ _ _ _ _ _)
  unfold execOp
  simp only [ho, hx, hy, Instr.storeAt, Instr.sureAddr, Sem.run_bind, Sem.run_pure, Result.andThen_ok, this]
theorem Fin.wpCell {i : Nat} {o : Oper} {a : Act} {W0 W : World} {g g5 m x : Nat} {cs : List Value} {p q : Operand} {A : Option Addr} {n c : Nat} {K : Act → World → Prop} (hF : Fin W0 g g5 cs m W) (hi : ops[i]? = some o) (hw : Region.wanted o (yielded ops a.tmps) = true)
    (ho : o.op = .store 23 p q) (hp : a.eval p = .pointer (some ⟨g, x, none⟩)) (hq : a.eval q = .slice A n c) (hx : x < cs.length)
    (h : ∀ W', Fin W0 g g5 (cs.set x (.slice A n c)) m W' → K (a.put o.dst undef) W') : wpOp Try.prog ops Q i K a W := by
  refine wpOp_skip (W2 := W.setCell ⟨g, x, none⟩ (.slice A n c)) hi hw ?_ (h _ (hF.celled _ _))
  have hc := hF.2.1.cell x
  have hf := hF.2.1.free x
  rw [List.getElem?_eq_getElem hx] at hc
  unfold execOp
  simp only [ho, hp, hq]
  go_simp
end
end Go.Proofs.Ytbabpmncdphnjaa
