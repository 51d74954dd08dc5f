/- Parts of proofs of statements, each text behind those that it stands on. No condition of its own. -/
import Derived.BigCall
import Derived.Deep.AppendLies
import Derived.Great.Walk
import Derived.Test.YtbabpmncdphnjaaGreatQ02
namespace Go.Proofs.YtbabpmncdphnjaaGreat
open Go.RowKit
set_option linter.unusedVariables false
set_option maxRecDepth 100000
set_option linter.unusedSimpArgs false
section
variable {P : Program} {ops : Array Oper} {S : World → Prop}
theorem run_call_in {f : FuncId} {fn : Func} (hf : P.funcs[f]? = some fn) (hname : (fn.name == "runtime.NumGoroutine") = false) (hb : fn.body.isSome = true) (args : Array Value) (w : World) :
    (callFunc f args).run P w = .ok (.enter f args) w := by
  obtain ⟨c, hc⟩ := Option.isSome_iff_exists.1 hb
  unfold callFunc
  simp [hf, hc]
  intro h
  simp [h] at hname
theorem loadG {op : Oper} {a : Act} (hw : Region.wanted op (yielded ops a.tmps) = true) (ty : TypeId) (x : Operand) (ho : op.op = .load ty x)
    (b o : Nat) (hx : a.eval x = .pointer (some ⟨b, o, none⟩)) (cs : List Value) (d : TypeDesc) (hS : ∀ w, S w → w.rangeAt b o cs)
    (hu : P.underlying ty = some d) (hd : d.isRow = true) (hi : (P.info? ty).map (·.size) = some cs.length) : YieldsG P ops S op (.agg cs.toArray) a :=
  YieldsIf.toG (yieldsIf_load_mid hw ty x ho b o hx cs d hS hu hd hi)
theorem pureG {o : Oper} {v : Value} {a : Act} (hw : Region.wanted o (yielded ops a.tmps) = true) (hrun : ∀ w, (execOp a.eval o).run P w = .ok (.value v) w) : YieldsG P ops S o v a :=
  .inl ⟨hw, fun w _ => .inl (hrun w)⟩
theorem buildG {o : Oper} {a : Act} (hw : Region.wanted o (yielded ops a.tmps) = true) (t : TypeId) (parts : Array (Nat × Operand)) (ho : o.op = .build t parts)
    (cells : Array Value) {L : List (Nat × Value)} (hc : P.built t L = some cells) (hL : (parts.map fun (i, x) => (i, a.eval x)).toList = L) : YieldsG P ops S o (.agg cells) a :=
  pureG hw (fun w => by
    unfold execOp
    simp only [ho]
    have := run_build (P := P) w t (parts.map fun (i, x) => (i, a.eval x)) cells (by rw [hL]; exact hc)
    simp [this])
end
section
variable {w : World} {ops : Array Oper} {rest : List Oper} {o : Oper} {a : Act} {Q : Exit → Act → World → Prop}
end
section
variable {w : World} {ops : Array Oper} {rest : List Oper} {o : Oper} {a : Act} {Q : Exit → Act → World → Prop}
end
section
variable {w : World} {ops : Array Oper} {rest : List Oper} {o : Oper} {a : Act} {Q : Exit → Act → World → Prop}
end
section
variable {P : Program} {ops : Array Oper} {Q : Exit → Act → World → Prop} {md : Region.Mode} {S : World → Prop}
end
set_option linter.unusedVariables false
set_option maxRecDepth 100000
section
variable {P : Program} {ops : Array Oper} {Q : Exit → Act → World → Prop} {md : Region.Mode} {S : World → Prop}
theorem worldG {o : Oper} {v : Value} {a : Act} (hw : Region.wanted o (yielded ops a.tmps) = true) (hrun : ∀ w, S w → (execOp a.eval o).run P w = .ok (.value v) w) : YieldsG P ops S o v a :=
  .inl ⟨hw, fun w h => .inl (hrun w h)⟩
end
theorem gr_bel {w0 w w' : World} (h : Below w0.heap.size w0 w) (hb : Gr w w') : Below w0.heap.size w0 w' := h.trans (Below.mono hb h.size)
end Go.Proofs.YtbabpmncdphnjaaGreat
namespace Go.Proofs.YtbabpmncdphnjaaGreat
open Go.RowKit
set_option linter.unusedVariables false
set_option maxRecDepth 100000
set_option linter.unusedSimpArgs false
section
variable {P : Program} {ops : Array Oper} {Q : Exit → Act → World → Prop} {md : Region.Mode} {S : World → Prop} {D F : List Nat}
def restF (F : List Nat) (listed : Array Bool) : Prop := ∀ j, listed.getD j true = false → F.contains j = true
theorem restF.mono {listed : Array Bool} (h : restF F listed) (i : Nat) : restF F (listed.setIfInBounds i true) := by
  intro j hj
  refine h j ?_
  by_cases e : i = j
  · subst e
    rcases Nat.lt_or_ge i listed.size with h' | h'
    · simp [h'] at hj
    · simp [Array.getElem?_eq_none h'] at hj
  · rw [getD_set_ne true e] at hj; exact hj
def closedL (md : Region.Mode) (ops : Array Oper) (listed : Array Bool) : Prop := ∀ j oj, ops[j]? = some oj → listed.getD j false = true → ∀ e ∈ oj.after, Region.binds md e = true → listed.getD e.on false = true
theorem closedL_set {listed : Array Bool} {i : Nat} (hc : closedL md ops listed) (hi : i ∈ Region.ready md ops listed) : closedL md ops (listed.setIfInBounds i true) := by
  have mono : ∀ k, listed.getD k false = true → (listed.setIfInBounds i true).getD k false = true := by
    intro k hk
    by_cases e : i = k
    · subst e
      rcases Nat.lt_or_ge i listed.size with h | h
      · simp [h]
      · simp [Array.getElem?_eq_none h] at hk
    · rw [getD_set_ne false e]; exact hk
  intro j oj hoj hj e he hb
  by_cases hij : i = j
  · subst hij
    obtain ⟨_, oj', hoj', hall⟩ := mem_ready.1 hi
    rw [hoj] at hoj'; injection hoj' with hoj'; subst hoj'
    exact mono _ (hall e he hb)
  · rw [getD_set_ne false hij] at hj
    exact mono _ (hc j oj hoj hj e he hb)
def waitsT (md : Region.Mode) (ops : Array Oper) : Nat → Nat → Nat → Bool
  | 0, _, _ => false
  | n + 1, j, i => ((ops[j]?).map fun o => o.after.any fun e => Region.binds md e && (e.on == i || waitsT md ops n e.on i)).getD false
theorem waitsT_listed {listed : Array Bool} (hc : closedL md ops listed) (i : Nat) : ∀ (n j : Nat) (oj : Oper), ops[j]? = some oj → (∀ e ∈ oj.after, Region.binds md e = true → listed.getD e.on false = true) → waitsT md ops n j i = true → listed.getD i false = true
  | 0, _, _, _, _, h => by simp [waitsT] at h
  | n + 1, j, oj, hoj, hall, h => by
    simp only [waitsT, hoj, Option.map_some, Option.getD_some, Array.any_eq_true, Bool.and_eq_true, Bool.or_eq_true] at h
    obtain ⟨k, hk, hb, he⟩ := h
    have hl := hall _ (Array.getElem_mem hk) hb
    rcases he with he | he
    · have : oj.after[k].on = i := by simpa using he
      rw [← this]; exact hl
    · cases ho : ops[oj.after[k].on]? with
      | none =>
        cases n with
        | zero => simp [waitsT] at he
        | succ n => simp [waitsT, ho] at he
      | some oe => exact waitsT_listed hc i n _ oe ho (hc _ oe ho hl) he
def wpAnyL (P : Program) (md : Region.Mode) (ops : Array Oper) (Q : Exit → Act → World → Prop) (S : World → Prop) (D F : List Nat) : Nat → Array Bool → Act → World → Prop
  | 0, listed, a, w => ∀ w1, Gr w w1 → Region.ready md ops listed = [] ∧ Q .normal a w1
  | fuel + 1, listed, a, w => ∀ w1, Gr w w1 → closedL md ops listed →
    (Region.ready md ops listed = [] → Q .normal a w1) ∧
    ((S w1 ∨ restF F listed) → ∀ i ∈ Region.ready md ops listed, wpOp P ops Q i (fun a' w' => ((S w1 → D.contains i = false → S w') ∧ (S w' ∨ restF F (listed.setIfInBounds i true))) ∧ wpAnyL P md ops Q S D F fuel (listed.setIfInBounds i true) a' w') a w1)
theorem wpAnyL.grow : ∀ {fuel : Nat} {listed : Array Bool} {a : Act} {w w1 : World}, wpAnyL P md ops Q S D F fuel listed a w → Gr w w1 → wpAnyL P md ops Q S D F fuel listed a w1
  | 0, _, _, _, _, h, hg => fun w2 h2 => h w2 (hg.trans h2)
  | _ + 1, _, _, _, _, h, hg => fun w2 h2 => h w2 (hg.trans h2)
theorem wpAny_of_L : ∀ (fuel : Nat) (listed : Array Bool) (a : Act) (w : World), closedL md ops listed → (S w ∨ restF F listed) → wpAnyL P md ops Q S D F fuel listed a w → wpAny P md ops Q fuel listed a w
  | 0, _, _, w, _, _, h => h w (Gr.refl w)
  | fuel + 1, listed, a, w, hc, hS, h => ⟨(h w (Gr.refl w) hc).1, fun i hi => wpOp_mono (fun a' w' h' => wpAny_of_L fuel _ a' w' (closedL_set hc hi) h'.1.2 h'.2)
      ((h w (Gr.refl w) hc).2 hS i hi)⟩
def lateB (md : Region.Mode) (ops : Array Oper) (D : List Nat) (i : Nat) : Bool := D.all fun L => i != L && waitsT md ops ops.size L i
theorem wpAnyL_first {i : Nat} {oi : Oper} {v : Value} (hi : ops[i]? = some oi) (hsel : ∀ (j : Nat) (o : Oper) cs b, ops[j]? = some o → o.op ≠ .select cs b)
    (hQ : ∀ c a w, Q (.panic c) (a.put oi.dst v) w → Q (.panic c) a w) (hSg : ∀ w w', S w → Gr w w' → S w') (S' : World → Prop) (hm : (F.contains i = true ∧ S' = fun _ => True) ∨ (F.contains i = false ∧ lateB md ops D i = true ∧ S' = S)) :
    ∀ (fuel : Nat) (listed : Array Bool) (a : Act) (w : World),
      (∀ j oj, ops[j]? = some oj → j ≠ i → listed.getD j true = false → (∀ e ∈ oj.after, Region.binds md e = true → e.on ≠ i) → oi.apart ops oj = true) →
      i ∈ Region.ready md ops listed → YieldsG P ops S' oi v a →
      wpAnyL P md ops Q S D F fuel (listed.setIfInBounds i true) (a.put oi.dst v) w → wpAnyL P md ops Q S D F (fuel + 1) listed a w := by
  have hS' : ∀ {listed : Array Bool} {w1 : World}, i ∈ Region.ready md ops listed → (S w1 ∨ restF F listed) → S' w1 := by
    intro listed w1 hr h
    rcases hm with ⟨_, rfl⟩ | ⟨hF, _, rfl⟩
    · trivial
    · rcases h with h | h
      · exact h
      · have := h i (mem_ready.1 hr).1
        rw [hF] at this; cases this
  have now : ∀ {listed : Array Bool} {w1 w' : World}, (S w1 ∨ restF F listed) → Gr w1 w' → ((S w1 → D.contains i = false → S w') ∧ (S w' ∨ restF F (listed.setIfInBounds i true))) := by
    intro listed w1 w' h hg
    exact ⟨fun h1 _ => hSg _ _ h1 hg, h.imp (fun h1 => hSg _ _ h1 hg) (fun h1 => h1.mono i)⟩
  intro fuel
  induction fuel with
  | zero =>
    intro listed a w _ hr hy H w1 hg hcl
    refine ⟨fun h => (by rw [h] at hr; cases hr), fun hS j hj => ?_⟩
    by_cases hji : j = i
    · subst hji; exact hy.wpOp hi (hS' hr hS) (fun w' hw' => ⟨now hS hw', (H.grow hg).grow hw'⟩)
    · have := ready_mono hj hji
      rw [(H w1 hg).1] at this
      cases this
  | succ fuel ih =>
    intro listed a w hfree hr hy H w1 hg hcl
    refine ⟨fun h => (by rw [h] at hr; cases hr), fun hS j hj => ?_⟩
    by_cases hji : j = i
    · subst hji; exact hy.wpOp hi (hS' hr hS) (fun w' hw' => ⟨now hS hw', (H.grow hg).grow hw'⟩)
    · have h1 := (H w1 hg (closedL_set hcl hr)).2 (hS.imp id (fun h => h.mono i)) j (ready_mono hj hji)
      obtain ⟨hjun, oj, hoj, hall⟩ := mem_ready.1 hj
      have hnot : ∀ e ∈ oj.after, Region.binds md e = true → e.on ≠ i := fun e he hb heq => by
        have h1 := hall e he hb
        have h0 := (mem_ready.1 hr).1
        rw [heq] at h1
        rcases Nat.lt_or_ge i listed.size with h' | h'
        · simp [h'] at h0 h1; rw [h0] at h1; cases h1
        · simp [Array.getElem?_eq_none h'] at h1
      have h2 := wpOp_putG hoj (hfree j oj hoj hji hjun hnot) (fun cs b => hsel i oi cs b hi) (fun cs b => hsel j oj cs b hoj) hQ hy h1
      have hfree' : ∀ k ok, ops[k]? = some ok → k ≠ i → (listed.setIfInBounds j true).getD k true = false →
          (∀ e ∈ ok.after, Region.binds md e = true → e.on ≠ i) → oi.apart ops ok = true := fun k ok hk hki hun hno => by
        refine hfree k ok hk hki ?_ hno
        by_cases hjk : j = k
        · subst hjk; exact hjun
        · rw [getD_set_ne true hjk] at hun; exact hun
      have hC : ∀ w', ((S w1 → D.contains j = false → S w') ∧ (S w' ∨ restF F ((listed.setIfInBounds i true).setIfInBounds j true))) → ((S w1 → D.contains j = false → S w') ∧ (S w' ∨ restF F (listed.setIfInBounds j true))) := by
        intro w' ⟨g1, g2⟩
        refine ⟨g1, ?_⟩
        rcases hm with ⟨hF, _⟩ | ⟨hF, hL, rfl⟩
        · refine g2.imp id (fun h k hk => ?_)
          by_cases hki : k = i
          · rw [hki]; exact hF
          · refine h k ?_
            rw [Array.setIfInBounds_comm _ _ (Ne.symm hji), getD_set_ne true (Ne.symm hki)]
            exact hk
        · refine .inl (g1 (hS' hr hS) ?_)
          cases hD : D.contains j with
          | false => rfl
          | true =>
            exfalso
            have hb := List.all_eq_true.1 hL j (List.contains_iff_mem.1 hD)
            simp only [Bool.and_eq_true] at hb
            have h0 := (mem_ready.1 hr).1
            have h1 := waitsT_listed hcl i _ j oj hoj hall hb.2
            rcases Nat.lt_or_ge i listed.size with h' | h'
            · simp [h'] at h0 h1; rw [h0] at h1; cases h1
            · simp [Array.getElem?_eq_none h'] at h1
      refine wpOp_mono (fun a' w' h3 => ⟨hC w' h3.2.1, ih (listed.setIfInBounds j true) a' w' hfree' (ready_mono hr (Ne.symm hji)) h3.1 ?_⟩) h2
      rw [Array.setIfInBounds_comm _ _ hji]
      exact h3.2.2
theorem wpAnyL_pure {i : Nat} {oi : Oper} {v : Value} {fuel : Nat} {listed : Array Bool} {a : Act} {w : World} (hSg : ∀ w w', S w → Gr w w' → S w') (hi : ops[i]? = some oi)
    (hs : (Region.noSelect ops && Region.free md ops listed i && (Region.ready md ops listed).contains i && F.contains i) = true)
    (hQ : ∀ c a w, Q (.panic c) (a.put oi.dst v) w → Q (.panic c) a w) (hy : YieldsG P ops (fun _ => True) oi v a)
    (h : wpAnyL P md ops Q S D F fuel (listed.setIfInBounds i true) (a.put oi.dst v) w) : wpAnyL P md ops Q S D F (fuel + 1) listed a w := by
  simp only [Bool.and_eq_true] at hs
  exact wpAnyL_first hi (Region.noSelect_spec hs.1.1.1) hQ hSg _ (.inl ⟨hs.2, rfl⟩) fuel listed a w (Region.free_spec hi hs.1.1.2) (by simpa using hs.1.2) hy h
theorem wpAnyL_take {i : Nat} {oi : Oper} {v : Value} {fuel : Nat} {listed : Array Bool} {a : Act} {w : World} (hSg : ∀ w w', S w → Gr w w' → S w') (hi : ops[i]? = some oi)
    (hs : (Region.noSelect ops && Region.free md ops listed i && (Region.ready md ops listed).contains i && (!F.contains i && lateB md ops D i)) = true)
    (hQ : ∀ c a w, Q (.panic c) (a.put oi.dst v) w → Q (.panic c) a w) (hy : YieldsG P ops S oi v a)
    (h : wpAnyL P md ops Q S D F fuel (listed.setIfInBounds i true) (a.put oi.dst v) w) : wpAnyL P md ops Q S D F (fuel + 1) listed a w := by
  simp only [Bool.and_eq_true, Bool.not_eq_true'] at hs
  exact wpAnyL_first hi (Region.noSelect_spec hs.1.1.1) hQ hSg _ (.inr ⟨hs.2.1, hs.2.2, rfl⟩) fuel listed a w (Region.free_spec hi hs.1.1.2) (by simpa using hs.1.2) hy h
theorem wpAnyL_done {listed : Array Bool} {a : Act} {w : World} (hr : Region.ready md ops listed = []) (h : ∀ W, Gr w W → Q .normal a W) :
    ∀ fuel, wpAnyL P md ops Q S D F fuel listed a w
  | 0 => fun W hW => ⟨hr, h W hW⟩
  | _ + 1 => fun W hW _ => ⟨fun _ => h W hW, fun _ => by rw [hr]; simp⟩
def StoresC (P : Program) (ops : Array Oper) (o : Oper) (g x : Nat) (t : TypeId) (u : Value) (a : Act) : Prop :=
  Region.wanted o (yielded ops a.tmps) = true ∧ ∀ w old, Blk w g t old → x < old.length → (execOp a.eval o).run P w = .ok .skip (w.setCell ⟨g, x, none⟩ u)
theorem StoresC.mk {o : Oper} {g x : Nat} {t : TypeId} {u : Value} {a : Act} (hw : Region.wanted o (yielded ops a.tmps) = true)
    (hrun : ∀ w old, Blk w g t old → x < old.length → (execOp a.eval o).run P w = .ok .skip (w.setCell ⟨g, x, none⟩ u)) : StoresC P ops o g x t u a := ⟨hw, hrun⟩
theorem StoresC.wpOp {i : Nat} {o : Oper} {g x : Nat} {t : TypeId} {u : Value} {old : List Value} {a : Act} {w : World} (hi : ops[i]? = some o) (hy : StoresC P ops o g x t u a) (hb : Blk w g t old) (hl : x < old.length)
    {K : Act → World → Prop} (h : K (a.put o.dst undef) (w.setCell ⟨g, x, none⟩ u)) : wpOp P ops Q i K a w := by
  unfold Go.wpOp
  simp only [hi, hy.1, if_true]
  refine .inl ?_
  unfold Oper.wp
  rw [hy.2 w old hb hl]
  exact h
def restB (F : List Nat) (n : Nat) (listed : Array Bool) : Bool := (List.range n).all fun j => listed.getD j true || F.contains j
theorem restB_spec {n : Nat} {listed : Array Bool} (h : restB F n listed = true) (hn : listed.size ≤ n) : restF F listed := by
  intro j hj
  rcases Nat.lt_or_ge j n with h1 | h1
  · have := List.all_eq_true.1 h j (List.mem_range.2 h1)
    rw [hj] at this
    simpa using this
  · simp [Array.getElem?_eq_none (Nat.le_trans hn h1)] at hj
theorem wpAnyL_cell {i : Nat} {oi : Oper} {g x : Nat} {t : TypeId} {u : Value} {old : List Value} {fuel : Nat} {listed : Array Bool} {a : Act} {w : World}
    (hr : Region.ready md ops listed = [i]) (hr2 : Region.ready md ops (listed.setIfInBounds i true) = []) (hi : ops[i]? = some oi) (hD : D.contains i = true) (hF : restB F ops.size (listed.setIfInBounds i true) = true) (hsz : (listed.setIfInBounds i true).size ≤ ops.size)
    (hb : Blk w g t old) (hx : x < old.length) (hy : StoresC P ops oi g x t u a)
    (h : ∀ W, w.grownBy W (some g) → Blk W g t (old.set x u) → Q .normal (a.put oi.dst undef) W) : wpAnyL P md ops Q S D F (fuel + 1) listed a w := by
  intro w1 hg hcl
  refine ⟨fun h0 => (by rw [h0] at hr; cases hr), fun hS k hk => ?_⟩
  rw [hr] at hk
  obtain rfl : k = i := by simpa using hk
  refine hy.wpOp hi (hb.gr hg) hx ⟨⟨fun _ h0 => (by rw [hD] at h0; cases h0), .inr (restB_spec hF hsz)⟩, wpAnyL_done hr2 (fun W hW => ?_) fuel⟩
  have hb2 := (hb.gr hg).set x u
  exact h W (grown_trans (grown_trans (grown_below hg _) (grown_setCell w1 ⟨g, x, none⟩ u)) (grown_below hW _)) (hb2.gr hW)
theorem wpAnyL_cellK {i : Nat} {oi : Oper} {g x : Nat} {t : TypeId} {u : Value} {old : List Value} {fuel : Nat} {listed : Array Bool} {a : Act} {w : World}
    (hr : Region.ready md ops listed = [i]) (hi : ops[i]? = some oi) (hD : D.contains i = true) (hF : restB F ops.size (listed.setIfInBounds i true) = true) (hsz : (listed.setIfInBounds i true).size ≤ ops.size)
    (hb : Blk w g t old) (hx : x < old.length) (hy : StoresC P ops oi g x t u a)
    (h : ∀ W, w.grownBy W (some g) → Blk W g t (old.set x u) → wpAnyL P md ops Q S D F fuel (listed.setIfInBounds i true) (a.put oi.dst undef) W) : wpAnyL P md ops Q S D F (fuel + 1) listed a w := by
  intro w1 hg hcl
  refine ⟨fun h0 => (by rw [h0] at hr; cases hr), fun hS k hk => ?_⟩
  rw [hr] at hk
  obtain rfl : k = i := by simpa using hk
  refine hy.wpOp hi (hb.gr hg) hx ⟨⟨fun _ h0 => (by rw [hD] at h0; cases h0), .inr (restB_spec hF hsz)⟩, ?_⟩
  exact h _ (grown_trans (grown_below hg _) (grown_setCell w1 ⟨g, x, none⟩ u)) ((hb.gr hg).set x u)
theorem wp_region_L {id : Nat} {a : Act} {w : World} (S : World → Prop) (D F : List Nat) (hm : P.follows .mixedOrders = true) (hS : S w.drew)
    (h : wpAnyL P .any ops Q S D F ops.size (Array.replicate ops.size false) a w.drew) : (Code.region id ops true).wp P Q a w :=
  wp_region_any hm (wpAny_of_L _ _ _ _ (fun j oj hoj hj => by exfalso; have hlt := (Array.getElem?_eq_some_iff.1 hoj).1; simp [hlt] at hj) (.inl hS) h)
theorem rest_S {listed : Array Bool} {i : Nat} {w1 : World} (hi : i ∈ Region.ready md ops listed) (hF : F.contains i = false) (hS : S w1 ∨ restF F listed) : S w1 :=
  hS.elim id (fun h0 => by have := h0 i (mem_ready.1 hi).1; rw [hF] at this; cases this)
theorem wpAnyL_one {i fuel : Nat} {listed : Array Bool} {a : Act} {w : World} (hr : Region.ready md ops listed = [i]) (hF : F.contains i = false)
    (h : ∀ W, Gr w W → S W → wpOp P ops Q i (fun a' w' => S w' ∧ wpAnyL P md ops Q S D F fuel (listed.setIfInBounds i true) a' w') a W) : wpAnyL P md ops Q S D F (fuel + 1) listed a w := by
  intro w1 hg hcl
  refine ⟨fun h0 => (by rw [h0] at hr; cases hr), fun hS j hj => ?_⟩
  have hj' := hj
  rw [hr] at hj'
  obtain rfl : j = i := by simpa using hj'
  exact wpOp_mono (fun a' w' h' => ⟨⟨fun _ _ => h'.1, .inl h'.1⟩, h'.2⟩) (h w1 hg (rest_S hj hF hS))
theorem wpAnyL_oneD {i fuel : Nat} {listed : Array Bool} {a : Act} {w : World} (hr : Region.ready md ops listed = [i]) (hF : F.contains i = false) (hD : D.contains i = true) (hB : restB F ops.size (listed.setIfInBounds i true) = true) (hsz : (listed.setIfInBounds i true).size ≤ ops.size)
    (h : ∀ W, Gr w W → S W → wpOp P ops Q i (fun a' w' => wpAnyL P md ops Q S D F fuel (listed.setIfInBounds i true) a' w') a W) : wpAnyL P md ops Q S D F (fuel + 1) listed a w := by
  intro w1 hg hcl
  refine ⟨fun h0 => (by rw [h0] at hr; cases hr), fun hS j hj => ?_⟩
  have hj' := hj
  rw [hr] at hj'
  obtain rfl : j = i := by simpa using hj'
  exact wpOp_mono (fun a' w' h' => ⟨⟨fun _ h0 => (by rw [hD] at h0; cases h0), .inr (restB_spec hB hsz)⟩, h'⟩) (h w1 hg (rest_S hj hF hS))
theorem wpAnyL_two {i j fuel : Nat} {listed : Array Bool} {a : Act} {w : World} (hr : Region.ready md ops listed = [i, j]) (hFi : F.contains i = false) (hFj : F.contains j = false)
    (h1 : ∀ W, Gr w W → S W → wpOp P ops Q i (fun a' w' => S w' ∧ wpAnyL P md ops Q S D F fuel (listed.setIfInBounds i true) a' w') a W)
    (h2 : ∀ W, Gr w W → S W → wpOp P ops Q j (fun a' w' => S w' ∧ wpAnyL P md ops Q S D F fuel (listed.setIfInBounds j true) a' w') a W) : wpAnyL P md ops Q S D F (fuel + 1) listed a w := by
  intro w1 hg hcl
  refine ⟨fun h0 => (by rw [h0] at hr; cases hr), fun hS k hk => ?_⟩
  have hk' := hk
  rw [hr] at hk'
  have hk2 : k = i ∨ k = j := by simpa using hk'
  rcases hk2 with rfl | rfl
  · exact wpOp_mono (fun a' w' h' => ⟨⟨fun _ _ => h'.1, .inl h'.1⟩, h'.2⟩) (h1 w1 hg (rest_S hk hFi hS))
  · exact wpOp_mono (fun a' w' h' => ⟨⟨fun _ _ => h'.1, .inl h'.1⟩, h'.2⟩) (h2 w1 hg (rest_S hk hFj hS))
theorem wpOp_run {i : Nat} {oi : Oper} {v : Value} {a : Act} {W W2 : World} {K : Act → World → Prop} (hi : ops[i]? = some oi) (hw : Region.wanted oi (yielded ops a.tmps) = true) (hrun : (execOp a.eval oi).run P W = .ok (.value v) W2) (h : K (a.put oi.dst v) W2) : wpOp P ops Q i K a W := by
  unfold Go.wpOp
  simp only [hi, hw, if_true]
  refine .inl ?_
  unfold Oper.wp
  rw [hrun]
  exact h
theorem wpOp_callE {i : Nat} {o : Oper} {a : Act} {W : World} {K : Act → World → Prop} (hi : ops[i]? = some o) (hw : Region.wanted o (yielded ops a.tmps) = true) {f : FuncId} {fn : Func} {xs : Array Operand} {ats : Array TypeId} (ho : o.op = .call { callee := .value (.func f), args := xs, argTypes := ats })
    (hf : P.funcs[f]? = some fn) (hname : (fn.name == "runtime.NumGoroutine") = false) (hb : fn.body.isSome = true) (args : Array Value) (ha : #[] ++ xs.map a.eval ++ #[] = args)
    (hc : Calls P f args W (fun e w' => ∃ v, e = .returned v ∧ K (a.put o.dst v) w')) : wpOp P ops Q i K a W := by
  unfold Go.wpOp
  simp only [hi, hw, if_true]
  refine .inl ?_
  unfold Oper.wp
  have hrun : (execOp a.eval o).run P W = .ok (.enter f args) W := by
    obtain ⟨dst, op, type, pos, after, guard⟩ := o
    subst ho
    rw [execOp_call_go, ha]
    exact run_call_in hf hname hb args W
  rw [hrun]
  refine Calls.mono hc fun e w' he => ?_
  obtain ⟨v, rfl, hk⟩ := he
  exact hk
theorem wpOp_alloc {i : Nat} {o : Oper} {t : TypeId} {a : Act} {W : World} {K : Act → World → Prop} (hi : ops[i]? = some o) (hw : Region.wanted o (yielded ops a.tmps) = true) (ho : o.op = .alloc t) (zs : List Value)
    (hz : ∀ w, (Instr.alloc t true (.tuple #[])).run P w = .ok (.pointer (some ⟨w.heap.size, 0, none⟩)) (w.alloc (.cells zs.toArray t)))
    (h : K (a.put o.dst (.pointer (some ⟨W.heap.size, 0, none⟩))) (W.alloc (.cells zs.toArray t))) : wpOp P ops Q i K a W :=
  wpOp_run hi hw (by unfold execOp; simp only [ho]; simp [hz W]) h
theorem wpOp_append_lies {i : Nat} {o : Oper} {a : Act} {w : World} {K : Act → World → Prop} (hi0 : ops[i]? = some o) (hw : Region.wanted o (yielded ops a.tmps) = true) (s x : Operand) (t : TypeId)
    (ho : o.op = .call { callee := .builtin .append, args := #[s, x], argTypes := #[t, t] })
    (base : Nat) (e : TypeId) (ti : TypeInfo) (z : Value) (size bytes : Nat) (ht : P.underlying t = some (.slice e)) (hi : P.info? e = some ti) (hz : ti.zero = some z)
    (hsize : ti.size = size) (hby : ti.bytes = bytes) (hzs : z.cells.size = size) (hsz : 0 < size)
    (v : Value) (n : Nat) (xs : List Value) (hs : a.eval s = v) (hown : w.ownsRow base e size v n xs)
    (ad : Addr) (m c : Nat) (news : List Value) (hx : a.eval x = .slice (some ad) m c) (hl : news.length = m * size) (hnews : ∀ j u, news[j]? = some u → w.cell? (ad.add j) = some u) (h1 : ∀ u ∈ news, u.oneCell' = true)
    (hm : 0 < m) (h63 : n + m ≤ maxLen) (hbytes : (n + m) * bytes ≤ 140737488355328) (hbase : base ≤ w.heap.size)
    (h : ∀ g cap w', w'.ownsRow base e size (.slice (some ⟨g, 0, none⟩) (n + m) cap) (n + m) (xs ++ news) → w.grownBy w' v.ownBlock → (v.ownBlock = some g ∨ g = w.heap.size) → g < w'.heap.size → K (a.put o.dst (.slice (some ⟨g, 0, none⟩) (n + m) cap)) w') : wpOp P ops Q i K a w := by
  unfold Go.wpOp
  simp only [hi0, hw, if_true]
  exact .inl (wp_append_lies w s x t ho base e ti z size bytes ht hi hz hsize hby hzs hsz v n xs hs hown ad m c news hx hl hnews h1 hm h63 hbytes hbase w.heap.size rfl h)
end
section
variable {P : Program} {ops : Array Oper} {S : World → Prop}
end
section
variable {ops : Array Oper} {Q : Exit → Act → World → Prop}
end
end Go.Proofs.YtbabpmncdphnjaaGreat
