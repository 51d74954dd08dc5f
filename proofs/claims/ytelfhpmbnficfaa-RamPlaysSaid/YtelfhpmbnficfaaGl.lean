/- Regions that draw, with stores that come late: loads and calls wait for none of them, what needs no memory may come behind them. No condition. -/
import Derived.Test.YtelfhpmbnficfaaGs
import Derived.Deep.AppendLies
namespace Go.Proofs.Ytelfhpmbnficfaa
open Go.RowKit
set_option linter.unusedVariables false
set_option maxRecDepth 100000
set_option linter.unusedSimpArgs false
section
variable {P : Program} {ops : Array Oper} {Q : Exit → Act → World → Prop} {md : Region.Mode} {S : World → Prop} {D F : List Nat}
/-- all that has not come up yet needs no memory -/
def restF (F : List Nat) (listed : Array Bool) : Prop := ∀ j, listed.getD j true = false → F.contains j = true
theorem restF.mono {listed : Array Bool} (h : restF F listed) (i : Nat) : restF F (listed.setIfInBounds i true) := by
  intro j hj
  refine h j ?_
  by_cases e : i = j
  · subst e
    rcases Nat.lt_or_ge i listed.size with h' | h'
    · simp [h'] at hj
    · simp [Array.getElem?_eq_none h'] at hj
  · rw [getD_set_ne true e] at hj; exact hj
/-- what an operation waits for has come up, if it has -/
def closedL (md : Region.Mode) (ops : Array Oper) (listed : Array Bool) : Prop := ∀ j oj, ops[j]? = some oj → listed.getD j false = true → ∀ e ∈ oj.after, Region.binds md e = true → listed.getD e.on false = true
theorem closedL_set {listed : Array Bool} {i : Nat} (hc : closedL md ops listed) (hi : i ∈ Region.ready md ops listed) : closedL md ops (listed.setIfInBounds i true) := by
  have mono : ∀ k, listed.getD k false = true → (listed.setIfInBounds i true).getD k false = true := by
    intro k hk
    by_cases e : i = k
    · subst e
      rcases Nat.lt_or_ge i listed.size with h | h
      · simp [h]
      · simp [Array.getElem?_eq_none h] at hk
    · rw [getD_set_ne false e]; exact hk
  intro j oj hoj hj e he hb
  by_cases hij : i = j
  · subst hij
    obtain ⟨_, oj', hoj', hall⟩ := mem_ready.1 hi
    rw [hoj] at hoj'; injection hoj' with hoj'; subst hoj'
    exact mono _ (hall e he hb)
  · rw [getD_set_ne false hij] at hj
    exact mono _ (hc j oj hoj hj e he hb)
/-- operation j waits for operation i, by way of others too -/
def waitsT (md : Region.Mode) (ops : Array Oper) : Nat → Nat → Nat → Bool
  | 0, _, _ => false
  | n + 1, j, i => ((ops[j]?).map fun o => o.after.any fun e => Region.binds md e && (e.on == i || waitsT md ops n e.on i)).getD false
theorem waitsT_listed {listed : Array Bool} (hc : closedL md ops listed) (i : Nat) : ∀ (n j : Nat) (oj : Oper), ops[j]? = some oj → (∀ e ∈ oj.after, Region.binds md e = true → listed.getD e.on false = true) → waitsT md ops n j i = true → listed.getD i false = true
  | 0, _, _, _, _, h => by simp [waitsT] at h
  | n + 1, j, oj, hoj, hall, h => by
    simp only [waitsT, hoj, Option.map_some, Option.getD_some, Array.any_eq_true, Bool.and_eq_true, Bool.or_eq_true] at h
    obtain ⟨k, hk, hb, he⟩ := h
    have hl := hall _ (Array.getElem_mem hk) hb
    rcases he with he | he
    · have : oj.after[k].on = i := by simpa using he
      rw [← this]; exact hl
    · cases ho : ops[oj.after[k].on]? with
      | none =>
        cases n with
        | zero => simp [waitsT] at he
        | succ n => simp [waitsT, ho] at he
      | some oe => exact waitsT_listed hc i n _ oe ho (hc _ oe ho hl) he
/-- whatever order is picked from here on; operations of D may break S, those not of F need it -/
def wpAnyL (P : Program) (md : Region.Mode) (ops : Array Oper) (Q : Exit → Act → World → Prop) (S : World → Prop) (D F : List Nat) : Nat → Array Bool → Act → World → Prop
  | 0, listed, a, w => ∀ w1, Gr w w1 → Region.ready md ops listed = [] ∧ Q .normal a w1
  | fuel + 1, listed, a, w => ∀ w1, Gr w w1 → closedL md ops listed →
    (Region.ready md ops listed = [] → Q .normal a w1) ∧
    ((S w1 ∨ restF F listed) → ∀ i ∈ Region.ready md ops listed, wpOp P ops Q i (fun a' w' => ((S w1 → D.contains i = false → S w') ∧ (S w' ∨ restF F (listed.setIfInBounds i true))) ∧ wpAnyL P md ops Q S D F fuel (listed.setIfInBounds i true) a' w') a w1)
theorem wpAnyL.grow : ∀ {fuel : Nat} {listed : Array Bool} {a : Act} {w w1 : World}, wpAnyL P md ops Q S D F fuel listed a w → Gr w w1 → wpAnyL P md ops Q S D F fuel listed a w1
  | 0, _, _, _, _, h, hg => fun w2 h2 => h w2 (hg.trans h2)
  | _ + 1, _, _, _, _, h, hg => fun w2 h2 => h w2 (hg.trans h2)
theorem wpAny_of_L : ∀ (fuel : Nat) (listed : Array Bool) (a : Act) (w : World), closedL md ops listed → (S w ∨ restF F listed) → wpAnyL P md ops Q S D F fuel listed a w → wpAny P md ops Q fuel listed a w
  | 0, _, _, w, _, _, h => h w (Gr.refl w)
  | fuel + 1, listed, a, w, hc, hS, h => ⟨(h w (Gr.refl w) hc).1, fun i hi => wpOp_mono (fun a' w' h' => wpAny_of_L fuel _ a' w' (closedL_set hc hi) h'.1.2 h'.2)
      ((h w (Gr.refl w) hc).2 hS i hi)⟩
/-- the late operations wait for operation i -/
def lateB (md : Region.Mode) (ops : Array Oper) (D : List Nat) (i : Nat) : Bool := D.all fun L => i != L && waitsT md ops ops.size L i
theorem wpAnyL_first {i : Nat} {oi : Oper} {v : Value} (hi : ops[i]? = some oi) (hsel : ∀ (j : Nat) (o : Oper) cs b, ops[j]? = some o → o.op ≠ .select cs b)
    (hQ : ∀ c a w, Q (.panic c) (a.put oi.dst v) w → Q (.panic c) a w) (hSg : ∀ w w', S w → Gr w w' → S w') (S' : World → Prop) (hm : (F.contains i = true ∧ S' = fun _ => True) ∨ (F.contains i = false ∧ lateB md ops D i = true ∧ S' = S)) :
    ∀ (fuel : Nat) (listed : Array Bool) (a : Act) (w : World),
      (∀ j oj, ops[j]? = some oj → j ≠ i → listed.getD j true = false → (∀ e ∈ oj.after, Region.binds md e = true → e.on ≠ i) → oi.apart ops oj = true) →
      i ∈ Region.ready md ops listed → YieldsG P ops S' oi v a →
      wpAnyL P md ops Q S D F fuel (listed.setIfInBounds i true) (a.put oi.dst v) w → wpAnyL P md ops Q S D F (fuel + 1) listed a w := by
  have hS' : ∀ {listed : Array Bool} {w1 : World}, i ∈ Region.ready md ops listed → (S w1 ∨ restF F listed) → S' w1 := by
    intro listed w1 hr h
    rcases hm with ⟨_, rfl⟩ | ⟨hF, _, rfl⟩
    · trivial
    · rcases h with h | h
      · exact h
      · have := h i (mem_ready.1 hr).1
        rw [hF] at this; cases this
  have now : ∀ {listed : Array Bool} {w1 w' : World}, (S w1 ∨ restF F listed) → Gr w1 w' → ((S w1 → D.contains i = false → S w') ∧ (S w' ∨ restF F (listed.setIfInBounds i true))) := by
    intro listed w1 w' h hg
    exact ⟨fun h1 _ => hSg _ _ h1 hg, h.imp (fun h1 => hSg _ _ h1 hg) (fun h1 => h1.mono i)⟩
  intro fuel
  induction fuel with
  | zero =>
    intro listed a w _ hr hy H w1 hg hcl
    refine ⟨fun h => (by rw [h] at hr; cases hr), fun hS j hj => ?_⟩
    by_cases hji : j = i
    · subst hji; exact hy.wpOp hi (hS' hr hS) (fun w' hw' => ⟨now hS hw', (H.grow hg).grow hw'⟩)
    · have := ready_mono hj hji
      rw [(H w1 hg).1] at this
      cases this
  | succ fuel ih =>
    intro listed a w hfree hr hy H w1 hg hcl
    refine ⟨fun h => (by rw [h] at hr; cases hr), fun hS j hj => ?_⟩
    by_cases hji : j = i
    · subst hji; exact hy.wpOp hi (hS' hr hS) (fun w' hw' => ⟨now hS hw', (H.grow hg).grow hw'⟩)
    · have h1 := (H w1 hg (closedL_set hcl hr)).2 (hS.imp id (fun h => h.mono i)) j (ready_mono hj hji)
      obtain ⟨hjun, oj, hoj, hall⟩ := mem_ready.1 hj
      have hnot : ∀ e ∈ oj.after, Region.binds md e = true → e.on ≠ i := fun e he hb heq => by
        have h1 := hall e he hb
        have h0 := (mem_ready.1 hr).1
        rw [heq] at h1
        rcases Nat.lt_or_ge i listed.size with h' | h'
        · simp [h'] at h0 h1; rw [h0] at h1; cases h1
        · simp [Array.getElem?_eq_none h'] at h1
      have h2 := wpOp_putG hoj (hfree j oj hoj hji hjun hnot) (fun cs b => hsel i oi cs b hi) (fun cs b => hsel j oj cs b hoj) hQ hy h1
      have hfree' : ∀ k ok, ops[k]? = some ok → k ≠ i → (listed.setIfInBounds j true).getD k true = false →
          (∀ e ∈ ok.after, Region.binds md e = true → e.on ≠ i) → oi.apart ops ok = true := fun k ok hk hki hun hno => by
        refine hfree k ok hk hki ?_ hno
        by_cases hjk : j = k
        · subst hjk; exact hjun
        · rw [getD_set_ne true hjk] at hun; exact hun
      have hC : ∀ w', ((S w1 → D.contains j = false → S w') ∧ (S w' ∨ restF F ((listed.setIfInBounds i true).setIfInBounds j true))) → ((S w1 → D.contains j = false → S w') ∧ (S w' ∨ restF F (listed.setIfInBounds j true))) := by
        intro w' ⟨g1, g2⟩
        refine ⟨g1, ?_⟩
        rcases hm with ⟨hF, _⟩ | ⟨hF, hL, rfl⟩
        · refine g2.imp id (fun h k hk => ?_)
          by_cases hki : k = i
          · rw [hki]; exact hF
          · refine h k ?_
            rw [Array.setIfInBounds_comm _ _ (Ne.symm hji), getD_set_ne true (Ne.symm hki)]
            exact hk
        · refine .inl (g1 (hS' hr hS) ?_)
          cases hD : D.contains j with
          | false => rfl
          | true =>
            exfalso
            have hb := List.all_eq_true.1 hL j (List.contains_iff_mem.1 hD)
            simp only [Bool.and_eq_true] at hb
            have h0 := (mem_ready.1 hr).1
            have h1 := waitsT_listed hcl i _ j oj hoj hall hb.2
            rcases Nat.lt_or_ge i listed.size with h' | h'
            · simp [h'] at h0 h1; rw [h0] at h1; cases h1
            · simp [Array.getElem?_eq_none h'] at h1
      refine wpOp_mono (fun a' w' h3 => ⟨hC w' h3.2.1, ih (listed.setIfInBounds j true) a' w' hfree' (ready_mono hr (Ne.symm hji)) h3.1 ?_⟩) h2
      rw [Array.setIfInBounds_comm _ _ hji]
      exact h3.2.2
/-- what needs no memory is taken -/
theorem wpAnyL_pure {i : Nat} {oi : Oper} {v : Value} {fuel : Nat} {listed : Array Bool} {a : Act} {w : World} (hSg : ∀ w w', S w → Gr w w' → S w') (hi : ops[i]? = some oi)
    (hs : (Region.noSelect ops && Region.free md ops listed i && (Region.ready md ops listed).contains i && F.contains i) = true)
    (hQ : ∀ c a w, Q (.panic c) (a.put oi.dst v) w → Q (.panic c) a w) (hy : YieldsG P ops (fun _ => True) oi v a)
    (h : wpAnyL P md ops Q S D F fuel (listed.setIfInBounds i true) (a.put oi.dst v) w) : wpAnyL P md ops Q S D F (fuel + 1) listed a w := by
  simp only [Bool.and_eq_true] at hs
  exact wpAnyL_first hi (Region.noSelect_spec hs.1.1.1) hQ hSg _ (.inl ⟨hs.2, rfl⟩) fuel listed a w (Region.free_spec hi hs.1.1.2) (by simpa using hs.1.2) hy h
/-- what needs the memory as it is at first is taken -/
theorem wpAnyL_take {i : Nat} {oi : Oper} {v : Value} {fuel : Nat} {listed : Array Bool} {a : Act} {w : World} (hSg : ∀ w w', S w → Gr w w' → S w') (hi : ops[i]? = some oi)
    (hs : (Region.noSelect ops && Region.free md ops listed i && (Region.ready md ops listed).contains i && (!F.contains i && lateB md ops D i)) = true)
    (hQ : ∀ c a w, Q (.panic c) (a.put oi.dst v) w → Q (.panic c) a w) (hy : YieldsG P ops S oi v a)
    (h : wpAnyL P md ops Q S D F fuel (listed.setIfInBounds i true) (a.put oi.dst v) w) : wpAnyL P md ops Q S D F (fuel + 1) listed a w := by
  simp only [Bool.and_eq_true, Bool.not_eq_true'] at hs
  exact wpAnyL_first hi (Region.noSelect_spec hs.1.1.1) hQ hSg _ (.inr ⟨hs.2.1, hs.2.2, rfl⟩) fuel listed a w (Region.free_spec hi hs.1.1.2) (by simpa using hs.1.2) hy h
theorem wpAnyL_done {listed : Array Bool} {a : Act} {w : World} (hr : Region.ready md ops listed = []) (h : ∀ W, Gr w W → Q .normal a W) :
    ∀ fuel, wpAnyL P md ops Q S D F fuel listed a w
  | 0 => fun W hW => ⟨hr, h W hW⟩
  | _ + 1 => fun W hW _ => ⟨fun _ => h W hW, fun _ => by rw [hr]; simp⟩
/-- a cell is stored -/
def StoresC (P : Program) (ops : Array Oper) (o : Oper) (g x : Nat) (t : TypeId) (u : Value) (a : Act) : Prop :=
  Region.wanted o (yielded ops a.tmps) = true ∧ ∀ w old, Blk w g t old → x < old.length → (execOp a.eval o).run P w = .ok .skip (w.setCell ⟨g, x, none⟩ u)
theorem StoresC.mk {o : Oper} {g x : Nat} {t : TypeId} {u : Value} {a : Act} (hw : Region.wanted o (yielded ops a.tmps) = true)
    (hrun : ∀ w old, Blk w g t old → x < old.length → (execOp a.eval o).run P w = .ok .skip (w.setCell ⟨g, x, none⟩ u)) : StoresC P ops o g x t u a := ⟨hw, hrun⟩
theorem StoresC.wpOp {i : Nat} {o : Oper} {g x : Nat} {t : TypeId} {u : Value} {old : List Value} {a : Act} {w : World} (hi : ops[i]? = some o) (hy : StoresC P ops o g x t u a) (hb : Blk w g t old) (hl : x < old.length)
    {K : Act → World → Prop} (h : K (a.put o.dst undef) (w.setCell ⟨g, x, none⟩ u)) : wpOp P ops Q i K a w := by
  unfold Go.wpOp
  simp only [hi, hy.1, if_true]
  refine .inl ?_
  unfold Oper.wp
  rw [hy.2 w old hb hl]
  exact h
def restB (F : List Nat) (n : Nat) (listed : Array Bool) : Bool := (List.range n).all fun j => listed.getD j true || F.contains j
theorem restB_spec {n : Nat} {listed : Array Bool} (h : restB F n listed = true) (hn : listed.size ≤ n) : restF F listed := by
  intro j hj
  rcases Nat.lt_or_ge j n with h1 | h1
  · have := List.all_eq_true.1 h j (List.mem_range.2 h1)
    rw [hj] at this
    simpa using this
  · simp [Array.getElem?_eq_none (Nat.le_trans hn h1)] at hj
/-- one store is left -/
theorem wpAnyL_cell {i : Nat} {oi : Oper} {g x : Nat} {t : TypeId} {u : Value} {old : List Value} {fuel : Nat} {listed : Array Bool} {a : Act} {w : World}
    (hr : Region.ready md ops listed = [i]) (hr2 : Region.ready md ops (listed.setIfInBounds i true) = []) (hi : ops[i]? = some oi) (hD : D.contains i = true) (hF : restB F ops.size (listed.setIfInBounds i true) = true) (hsz : (listed.setIfInBounds i true).size ≤ ops.size)
    (hb : Blk w g t old) (hx : x < old.length) (hy : StoresC P ops oi g x t u a)
    (h : ∀ W, w.grownBy W (some g) → Blk W g t (old.set x u) → Q .normal (a.put oi.dst undef) W) : wpAnyL P md ops Q S D F (fuel + 1) listed a w := by
  intro w1 hg hcl
  refine ⟨fun h0 => (by rw [h0] at hr; cases hr), fun hS k hk => ?_⟩
  rw [hr] at hk
  obtain rfl : k = i := by simpa using hk
  refine hy.wpOp hi (hb.gr hg) hx ⟨⟨fun _ h0 => (by rw [hD] at h0; cases h0), .inr (restB_spec hF hsz)⟩, wpAnyL_done hr2 (fun W hW => ?_) fuel⟩
  have hb2 := (hb.gr hg).set x u
  exact h W (grown_trans (grown_trans (grown_below hg _) (grown_setCell w1 ⟨g, x, none⟩ u)) (grown_below hW _)) (hb2.gr hW)
/-- a store comes up alone -/
theorem wpAnyL_cellK {i : Nat} {oi : Oper} {g x : Nat} {t : TypeId} {u : Value} {old : List Value} {fuel : Nat} {listed : Array Bool} {a : Act} {w : World}
    (hr : Region.ready md ops listed = [i]) (hi : ops[i]? = some oi) (hD : D.contains i = true) (hF : restB F ops.size (listed.setIfInBounds i true) = true) (hsz : (listed.setIfInBounds i true).size ≤ ops.size)
    (hb : Blk w g t old) (hx : x < old.length) (hy : StoresC P ops oi g x t u a)
    (h : ∀ W, w.grownBy W (some g) → Blk W g t (old.set x u) → wpAnyL P md ops Q S D F fuel (listed.setIfInBounds i true) (a.put oi.dst undef) W) : wpAnyL P md ops Q S D F (fuel + 1) listed a w := by
  intro w1 hg hcl
  refine ⟨fun h0 => (by rw [h0] at hr; cases hr), fun hS k hk => ?_⟩
  rw [hr] at hk
  obtain rfl : k = i := by simpa using hk
  refine hy.wpOp hi (hb.gr hg) hx ⟨⟨fun _ h0 => (by rw [hD] at h0; cases h0), .inr (restB_spec hF hsz)⟩, ?_⟩
  exact h _ (grown_trans (grown_below hg _) (grown_setCell w1 ⟨g, x, none⟩ u)) ((hb.gr hg).set x u)
/-- two stores are left -/
theorem wpAnyL_cells {i j : Nat} {oi oj : Oper} {g x y : Nat} {t : TypeId} {u v : Value} {old : List Value} {fuel : Nat} {listed : Array Bool} {a : Act} {w : World}
    (hr : Region.ready md ops listed = [i, j]) (hr1 : Region.ready md ops (listed.setIfInBounds i true) = [j]) (hr2 : Region.ready md ops (listed.setIfInBounds j true) = [i]) (hr3 : Region.ready md ops ((listed.setIfInBounds i true).setIfInBounds j true) = []) (hr4 : Region.ready md ops ((listed.setIfInBounds j true).setIfInBounds i true) = [])
    (hi : ops[i]? = some oi) (hj : ops[j]? = some oj) (hDi : D.contains i = true) (hDj : D.contains j = true)
    (hF1 : restB F ops.size (listed.setIfInBounds i true) = true) (hF2 : restB F ops.size (listed.setIfInBounds j true) = true) (hF3 : restB F ops.size ((listed.setIfInBounds i true).setIfInBounds j true) = true) (hF4 : restB F ops.size ((listed.setIfInBounds j true).setIfInBounds i true) = true) (hsz : listed.size ≤ ops.size)
    (hb : Blk w g t old) (hx : x < old.length) (hy : y < old.length) (hne : x ≠ y) (sx : StoresC P ops oi g x t u a) (sy : StoresC P ops oj g y t v a) (sx2 : StoresC P ops oi g x t u (a.put oj.dst undef)) (sy2 : StoresC P ops oj g y t v (a.put oi.dst undef))
    (hcm : (a.put oi.dst undef).put oj.dst undef = (a.put oj.dst undef).put oi.dst undef)
    (h : ∀ W, w.grownBy W (some g) → Blk W g t ((old.set x u).set y v) → Q .normal ((a.put oi.dst undef).put oj.dst undef) W) : wpAnyL P md ops Q S D F (fuel + 1 + 1) listed a w := by
  intro w1 hg hcl
  refine ⟨fun h0 => (by rw [h0] at hr; cases hr), fun hS k hk => ?_⟩
  rw [hr] at hk
  have hk' : k = i ∨ k = j := by simpa using hk
  rcases hk' with rfl | rfl
  · refine sx.wpOp hi (hb.gr hg) hx ⟨⟨fun _ h0 => (by rw [hDi] at h0; cases h0), .inr (restB_spec hF1 (by simpa using hsz))⟩, ?_⟩
    refine wpAnyL_cell hr1 hr3 hj hDj hF3 (by simpa using hsz) ((hb.gr hg).set x u) (by simpa using hy) sy2 fun W hW hbW => ?_
    exact h W (grown_trans (grown_trans (grown_below hg _) (grown_setCell w1 ⟨g, x, none⟩ u)) hW) hbW
  · refine sy.wpOp hj (hb.gr hg) hy ⟨⟨fun _ h0 => (by rw [hDj] at h0; cases h0), .inr (restB_spec hF2 (by simpa using hsz))⟩, ?_⟩
    refine wpAnyL_cell hr2 hr4 hi hDi hF4 (by simpa using hsz) ((hb.gr hg).set y v) (by simpa using hx) sx2 fun W hW hbW => ?_
    rw [hcm] at h
    refine h W (grown_trans (grown_trans (grown_below hg _) (grown_setCell w1 ⟨g, y, none⟩ v)) hW) ?_
    rw [List.set_comm _ _ hne]
    exact hbW
/-- the beginning -/
theorem wp_region_L {id : Nat} {a : Act} {w : World} (S : World → Prop) (D F : List Nat) (hm : P.follows .mixedOrders = true) (hS : S w.drew)
    (h : wpAnyL P .any ops Q S D F ops.size (Array.replicate ops.size false) a w.drew) : (Code.region id ops true).wp P Q a w :=
  wp_region_any hm (wpAny_of_L _ _ _ _ (fun j oj hoj hj => by exfalso; have hlt := (Array.getElem?_eq_some_iff.1 hoj).1; simp [hlt] at hj) (.inl hS) h)
theorem rest_S {listed : Array Bool} {i : Nat} {w1 : World} (hi : i ∈ Region.ready md ops listed) (hF : F.contains i = false) (hS : S w1 ∨ restF F listed) : S w1 :=
  hS.elim id (fun h0 => by have := h0 i (mem_ready.1 hi).1; rw [hF] at this; cases this)
/-- one operation may come up, and keeps S -/
theorem wpAnyL_one {i fuel : Nat} {listed : Array Bool} {a : Act} {w : World} (hr : Region.ready md ops listed = [i]) (hF : F.contains i = false)
    (h : ∀ W, Gr w W → S W → wpOp P ops Q i (fun a' w' => S w' ∧ wpAnyL P md ops Q S D F fuel (listed.setIfInBounds i true) a' w') a W) : wpAnyL P md ops Q S D F (fuel + 1) listed a w := by
  intro w1 hg hcl
  refine ⟨fun h0 => (by rw [h0] at hr; cases hr), fun hS j hj => ?_⟩
  have hj' := hj
  rw [hr] at hj'
  obtain rfl : j = i := by simpa using hj'
  exact wpOp_mono (fun a' w' h' => ⟨⟨fun _ _ => h'.1, .inl h'.1⟩, h'.2⟩) (h w1 hg (rest_S hj hF hS))
/-- one operation may come up; what is left behind it needs no memory -/
theorem wpAnyL_oneD {i fuel : Nat} {listed : Array Bool} {a : Act} {w : World} (hr : Region.ready md ops listed = [i]) (hF : F.contains i = false) (hD : D.contains i = true) (hB : restB F ops.size (listed.setIfInBounds i true) = true) (hsz : (listed.setIfInBounds i true).size ≤ ops.size)
    (h : ∀ W, Gr w W → S W → wpOp P ops Q i (fun a' w' => wpAnyL P md ops Q S D F fuel (listed.setIfInBounds i true) a' w') a W) : wpAnyL P md ops Q S D F (fuel + 1) listed a w := by
  intro w1 hg hcl
  refine ⟨fun h0 => (by rw [h0] at hr; cases hr), fun hS j hj => ?_⟩
  have hj' := hj
  rw [hr] at hj'
  obtain rfl : j = i := by simpa using hj'
  exact wpOp_mono (fun a' w' h' => ⟨⟨fun _ h0 => (by rw [hD] at h0; cases h0), .inr (restB_spec hB hsz)⟩, h'⟩) (h w1 hg (rest_S hj hF hS))
/-- two operations may come up, and keep S -/
theorem wpAnyL_two {i j fuel : Nat} {listed : Array Bool} {a : Act} {w : World} (hr : Region.ready md ops listed = [i, j]) (hFi : F.contains i = false) (hFj : F.contains j = false)
    (h1 : ∀ W, Gr w W → S W → wpOp P ops Q i (fun a' w' => S w' ∧ wpAnyL P md ops Q S D F fuel (listed.setIfInBounds i true) a' w') a W)
    (h2 : ∀ W, Gr w W → S W → wpOp P ops Q j (fun a' w' => S w' ∧ wpAnyL P md ops Q S D F fuel (listed.setIfInBounds j true) a' w') a W) : wpAnyL P md ops Q S D F (fuel + 1) listed a w := by
  intro w1 hg hcl
  refine ⟨fun h0 => (by rw [h0] at hr; cases hr), fun hS k hk => ?_⟩
  have hk' := hk
  rw [hr] at hk'
  have hk2 : k = i ∨ k = j := by simpa using hk'
  rcases hk2 with rfl | rfl
  · exact wpOp_mono (fun a' w' h' => ⟨⟨fun _ _ => h'.1, .inl h'.1⟩, h'.2⟩) (h1 w1 hg (rest_S hk hFi hS))
  · exact wpOp_mono (fun a' w' h' => ⟨⟨fun _ _ => h'.1, .inl h'.1⟩, h'.2⟩) (h2 w1 hg (rest_S hk hFj hS))
/-- a call, whatever it answers -/
theorem wpOp_callE {i : Nat} {o : Oper} {a : Act} {W : World} {K : Act → World → Prop} (hi : ops[i]? = some o) (hw : Region.wanted o (yielded ops a.tmps) = true) {f : FuncId} {fn : Func} {xs : Array Operand} {ats : Array TypeId} (ho : o.op = .call { callee := .value (.func f), args := xs, argTypes := ats })
    (hf : P.funcs[f]? = some fn) (hname : (fn.name == "runtime.NumGoroutine") = false) (hb : fn.body.isSome = true) (args : Array Value) (ha : #[] ++ xs.map a.eval ++ #[] = args)
    (hc : Calls P f args W (fun e w' => ∃ v, e = .returned v ∧ K (a.put o.dst v) w')) : wpOp P ops Q i K a W := by
  unfold Go.wpOp
  simp only [hi, hw, if_true]
  refine .inl ?_
  unfold Oper.wp
  have hrun : (execOp a.eval o).run P W = .ok (.enter f args) W := by
    obtain ⟨dst, op, type, pos, after, guard⟩ := o
    subst ho
    rw [execOp_call_go, ha]
    exact run_call_in hf hname hb args W
  rw [hrun]
  refine Calls.mono hc fun e w' he => ?_
  obtain ⟨v, rfl, hk⟩ := he
  exact hk
/-- a block is made -/
theorem wpOp_alloc {i : Nat} {o : Oper} {t : TypeId} {a : Act} {W : World} {K : Act → World → Prop} (hi : ops[i]? = some o) (hw : Region.wanted o (yielded ops a.tmps) = true) (ho : o.op = .alloc t) (zs : List Value)
    (hz : ∀ w, (Instr.alloc t true (.tuple #[])).run P w = .ok (.pointer (some ⟨w.heap.size, 0, none⟩)) (w.alloc (.cells zs.toArray t)))
    (h : K (a.put o.dst (.pointer (some ⟨W.heap.size, 0, none⟩))) (W.alloc (.cells zs.toArray t))) : wpOp P ops Q i K a W :=
  wpOp_run hi hw (by unfold execOp; simp only [ho]; simp [hz W]) h
/-- one more element onto a list of the call's own -/
theorem wpOp_append_lies {i : Nat} {o : Oper} {a : Act} {w : World} {K : Act → World → Prop} (hi0 : ops[i]? = some o) (hw : Region.wanted o (yielded ops a.tmps) = true) (s x : Operand) (t : TypeId)
    (ho : o.op = .call { callee := .builtin .append, args := #[s, x], argTypes := #[t, t] })
    (base : Nat) (e : TypeId) (ti : TypeInfo) (z : Value) (size bytes : Nat) (ht : P.underlying t = some (.slice e)) (hi : P.info? e = some ti) (hz : ti.zero = some z)
    (hsize : ti.size = size) (hby : ti.bytes = bytes) (hzs : z.cells.size = size) (hsz : 0 < size)
    (v : Value) (n : Nat) (xs : List Value) (hs : a.eval s = v) (hown : w.ownsRow base e size v n xs)
    (ad : Addr) (m c : Nat) (news : List Value) (hx : a.eval x = .slice (some ad) m c) (hl : news.length = m * size) (hnews : ∀ j u, news[j]? = some u → w.cell? (ad.add j) = some u) (h1 : ∀ u ∈ news, u.oneCell' = true)
    (hm : 0 < m) (h63 : n + m ≤ maxLen) (hbytes : (n + m) * bytes ≤ 140737488355328) (hbase : base ≤ w.heap.size)
    (h : ∀ g cap w', w'.ownsRow base e size (.slice (some ⟨g, 0, none⟩) (n + m) cap) (n + m) (xs ++ news) → w.grownBy w' v.ownBlock → (v.ownBlock = some g ∨ g = w.heap.size) → g < w'.heap.size → K (a.put o.dst (.slice (some ⟨g, 0, none⟩) (n + m) cap)) w') : wpOp P ops Q i K a w := by
  unfold Go.wpOp
  simp only [hi0, hw, if_true]
  exact .inl (wp_append_lies w s x t ho base e ti z size bytes ht hi hz hsize hby hzs hsz v n xs hs hown ad m c news hx hl hnews h1 hm h63 hbytes hbase w.heap.size rfl h)
end
section
variable {P : Program} {ops : Array Oper} {S : World → Prop}
/-- a call of a function's value -/
theorem callGv {o : Oper} {v : Value} {a : Act} (hw : Region.wanted o (yielded ops a.tmps) = true) {f : FuncId} {fn : Func} {k : Operand} {xs : Array Operand} {ats : Array TypeId} (ho : o.op = .call { callee := .value k, args := xs, argTypes := ats })
    (hk : a.eval k = .func (.func f) #[] #[]) (hf : P.funcs[f]? = some fn) (hname : (fn.name == "runtime.NumGoroutine") = false) (hb : fn.body.isSome = true) (args : Array Value) (ha : xs.map a.eval = args)
    (hc : ∀ w, S w → Calls P f args w (fun e w' => e = .returned v ∧ Below w.heap.size w w')) : YieldsG P ops S o v a :=
  .inl ⟨hw, fun w hS => .inr ⟨f, args, by
    obtain ⟨dst, op, type, pos, after, guard⟩ := o
    subst ho
    unfold execOp
    simp [resolve, hk, Deferred.ofValue, invoke, ha, run_call_in hf hname hb args w], hc w hS⟩⟩
end
section
variable {ops : Array Oper} {Q : Exit → Act → World → Prop}
/-- bytes onto a row of the call's own -/
theorem wpOp_append_bytes {i : Nat} {oi : Oper} {a : Act} {W : World} {K : Act → World → Prop} (hi : ops[i]? = some oi) (hw : Region.wanted oi (yielded ops a.tmps) = true) (hgd : oi.guard = none) (s x : Operand)
    (ho : oi.op = .call { callee := .builtin .append, args := #[s, x], argTypes := #[36, 36] })
    (base : Nat) (v : Value) (n : Nat) (xs : List Nat) (hs : a.eval s = v) (hown : W.ownsRow base 5 1 v n (bytesV xs))
    (A : Option Addr) (m c : Nat) (l : List Nat) (hx : a.eval x = .slice A m c) (hr : BIn W A m c l) (hb : n + m ≤ 140737488355328) (hbase : base ≤ W.heap.size)
    (h : ∀ v' w', w'.ownsRow base 5 1 v' (n + m) (bytesV (xs ++ l)) → W.grownBy w' v.ownBlock → K (a.put oi.dst v') w') : wpOp Try.prog ops Q i K a W := by
  obtain ⟨i0, hi0, hz0, hz1, hz2⟩ := info_parts info5
  obtain ⟨⟨hl, hm, hlt, hrow⟩, hc1, hc2, _, hnil⟩ := hr
  have hone : ∀ u ∈ bytesV l, u.oneCell' = true := by
    intro u hu; obtain ⟨y, _, rfl⟩ := List.mem_map.1 hu; rfl
  rcases A with _ | ad
  · have := hnil rfl
    obtain rfl : m = 0 := by omega
    subst this
    obtain rfl : l = [] := List.eq_nil_of_length_eq_zero hl
    have hrun := run_append_owned_none (P := Try.prog) W base 36 oi.type 5 i0 1 Try.underlying36 hi0 v n (bytesV xs) hown
    refine wpOp_run hi hw (v := v) (W2 := W) ?_ (h v W (by simpa using hown) ⟨rfl, rfl, rfl, Nat.le_refl _, fun _ _ _ => rfl⟩)
    unfold execOp
    simp [ho, resolve, invoke, builtin, hs, hx, hrun, Result.andThen]
  · have hcs : ∀ j u, (bytesV l)[j]? = some u → W.cell? (ad.add j) = some u := by
      intro j u hu
      have hj : j < l.length := by
        rcases Nat.lt_or_ge j l.length with h | h
        · exact h
        · rw [List.getElem?_eq_none (by simpa [bytesV] using h)] at hu; cases hu
      obtain ⟨b', off, hA, hc⟩ := hrow.resolve_left (by omega)
      injection hA with hA; subst hA
      rw [Addr.add_mid, hc j (by omega), ← hu]
      simp [bytesV, List.getD_eq_getElem?_getD, List.getElem?_eq_getElem hj]
    obtain ⟨v', w', hrun, h2, h3, h4, h5⟩ := run_append_own_at (P := Try.prog) W base 36 oi.type 5 i0 (.int .u8 0) 1 1 Try.underlying36 hi0 hz0 hz1 hz2 rfl (by decide) v n (bytesV xs) hown ad m c (bytesV l) (by simpa [bytesV] using hl) hcs hone (by simp only [maxLen]; omega) (by omega) hbase
    refine wpOp_run hi hw (v := v') (W2 := w') ?_ (h v' w' (by simpa [bytesV] using h2) h3)
    unfold execOp
    simp only [ho, resolve, invoke, builtin, Sem.run_bind, Sem.run_pure, Result.andThen_ok, List.map_toArray, List.map_cons, List.map_nil, hs, hx, hrun]
end
end Go.Proofs.Ytelfhpmbnficfaa
