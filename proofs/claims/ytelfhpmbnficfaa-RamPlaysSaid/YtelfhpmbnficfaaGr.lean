/- Regions whose calls only make memory: loads and calls are taken in one order of our own, whatever order is drawn; the world behind is known up to growth. No condition. -/
import Derived.Test.YtelfhpmbnficfaaBb
import Derived.OrdersHeld
import Derived.Deep.RegionHeld3
namespace Go.Proofs.Ytelfhpmbnficfaa
open Go.RowKit
set_option linter.unusedVariables false
set_option maxRecDepth 100000
/-- w' is w and blocks behind -/
def Gr (w w' : World) : Prop := Below w.heap.size w w'
theorem Gr.refl (w : World) : Gr w w := Below.refl _ _
theorem Gr.trans {a b c : World} (h : Gr a b) (k : Gr b c) : Gr a c := Below.trans h (Below.mono k h.size)
theorem Gr.drew (w : World) : Gr w w.drew := Below.drew (Below.refl _ _)
theorem Gr.alloc (w : World) (o : Obj) : Gr w (w.alloc o) := (Below.refl _ _).alloc (Nat.le_refl _) _
theorem Gr.store {w W W2 : World} {g : Nat} (h : Gr w W) (k : W.grownBy W2 (some g)) (hg : w.heap.size ≤ g) : Gr w W2 :=
  ⟨k.os.trans h.os, k.tape.trans h.tape, k.output.trans h.output, Nat.le_trans h.size k.size, fun i hi => (k.block i (Nat.lt_of_lt_of_le hi h.size) (fun e => by injection e with e; omega)).trans (h.block i hi)⟩
theorem Blk.gr {w w' : World} {g : Nat} {t : TypeId} {cs : List Value} (h : Blk w g t cs) (hb : Gr w w') : Blk w' g t cs := h.below' hb
section
variable {P : Program} {ops : Array Oper} {Q : Exit → Act → World → Prop} {md : Region.Mode} {S : World → Prop}

/-- in state a, in every world that meets S, the operation leaves v, and at most makes memory -/
def YieldsG (P : Program) (ops : Array Oper) (S : World → Prop) (o : Oper) (v : Value) (a : Act) : Prop :=
  (Region.wanted o (yielded ops a.tmps) = true ∧ ∀ w, S w → ((execOp a.eval o).run P w = .ok (.value v) w ∨ ∃ f args, (execOp a.eval o).run P w = .ok (.enter f args) w ∧ Calls P f args w (fun e w' => e = .returned v ∧ Below w.heap.size w w'))) ∨
  (Region.wanted o (yielded ops a.tmps) = false ∧ v = undef)
theorem YieldsIf.toG {o : Oper} {v : Value} {a : Act} (h : YieldsIf P ops S o v a) : YieldsG P ops S o v a :=
  h.imp (fun ⟨hw, hv⟩ => ⟨hw, fun w hS => .inl (hv w hS)⟩) id
theorem YieldsG.of_same {o : Oper} {v : Value} {a a' : Act} (hy : YieldsG P ops S o v a) (he : execOp a'.eval o = execOp a.eval o)
    (hw : Region.wanted o (yielded ops a'.tmps) = Region.wanted o (yielded ops a.tmps)) : YieldsG P ops S o v a' := by
  unfold YieldsG at *
  rw [he, hw]
  exact hy
theorem YieldsG.wpOp {i : Nat} {o : Oper} {v : Value} {a : Act} (hi : ops[i]? = some o) (hy : YieldsG P ops S o v a)
    {K : Act → World → Prop} {w : World} (hS : S w) (h : ∀ w', Gr w w' → K (a.put o.dst v) w') : wpOp P ops Q i K a w := by
  unfold Go.wpOp
  simp only [hi]
  rcases hy with ⟨hw, hv⟩ | ⟨hw, rfl⟩
  · simp only [hw, if_true]
    refine .inl ?_
    unfold Oper.wp
    rcases hv w hS with hv | ⟨f, args, hv, hc⟩
    · rw [hv]; exact h w (Gr.refl w)
    · rw [hv]
      refine Calls.mono hc fun e w' he => ?_
      obtain ⟨rfl, hb⟩ := he
      exact h w' hb
  · simp only [hw, Bool.false_eq_true, if_false]; exact h w (Gr.refl w)
theorem wpOp_putG {j : Nat} {oi oj : Oper} {v : Value} (hj : ops[j]? = some oj) (hap : oi.apart ops oj = true)
    (hsi : ∀ cs b, oi.op ≠ .select cs b) (hsj : ∀ cs b, oj.op ≠ .select cs b)
    (hQ : ∀ c a w, Q (.panic c) (a.put oi.dst v) w → Q (.panic c) a w) {K : Act → World → Prop} {a : Act} {w : World}
    (hy : YieldsG P ops S oi v a) (h : wpOp P ops Q j K (a.put oi.dst v) w) :
    wpOp P ops Q j (fun a' w' => YieldsG P ops S oi v a' ∧ K (a'.put oi.dst v) w') a w := by
  obtain ⟨h1, h2, h3⟩ := Oper.apart_spec hap
  have keep : ∀ (a : Act), YieldsG P ops S oi v a → ∀ u, YieldsG P ops S oi v (a.put oj.dst u) := fun a hy u =>
    hy.of_same (execOp_put oi hsi a oj.dst u h3) (wanted_put oi a oj.dst u h3)
  have keepD : ∀ d, YieldsG P ops S oi v { a with defers := d :: a.defers } := fun d => hy.of_same rfl rfl
  unfold wpOp at *
  simp only [hj] at *
  rw [wanted_put oj a oi.dst v h1] at h
  split
  · rename_i hw
    simp only [hw, if_true] at h
    rcases h with h | ⟨hasks, hlets⟩
    case inr => exact .inr ⟨by unfold Oper.asks at *; rw [execOp_put oj hsj a oi.dst v h1] at hasks; exact hasks, hlets⟩
    refine .inl ?_
    unfold Oper.wp at *
    rw [execOp_put oj hsj a oi.dst v h1] at h
    generalize (execOp a.eval oj).run P w = r at *
    cases r with
    | ok n w' =>
      cases n <;> simp only [Oper.upon] at h ⊢
      case value u => exact ⟨keep a hy u, by rw [← Act.put_comm a v u h2]; exact h⟩
      case skip => exact ⟨keep a hy _, by rw [← Act.put_comm a v undef h2]; exact h⟩
      case defer d =>
        refine ⟨keep _ (keepD d) _, ?_⟩
        rw [← Act.put_comm _ v undef h2, ← Act.put_defers]
        exact h
      case enter f args =>
        refine Calls.mono h fun e w'' he => ?_
        cases e with
        | returned u => exact ⟨keep a hy u, by rw [← Act.put_comm a v u h2]; exact he⟩
        | panicked c => exact hQ _ _ _ he
        | outgrown => exact he
      case row row args => exact Rows.mono h fun u w'' he => ⟨keep a hy u, by rw [← Act.put_comm a v u h2]; exact he⟩
    | halt x w' =>
      cases x <;> simp only [Oper.upon] at h ⊢
      case panic u => exact hQ _ _ _ h
  · rename_i hw
    simp only [hw] at h
    exact ⟨keep a hy _, by rw [← Act.put_comm a v undef h2]; exact h⟩

/-- whatever order is picked from here on, and whatever blocks are made in between; behind operation L (the last one) S need not hold -/
def wpAnyG (P : Program) (md : Region.Mode) (ops : Array Oper) (Q : Exit → Act → World → Prop) (S : World → Prop) (L : Nat) : Nat → Array Bool → Act → World → Prop
  | 0, listed, a, w => ∀ w1, Gr w w1 → Region.ready md ops listed = [] ∧ Q .normal a w1
  | fuel + 1, listed, a, w => ∀ w1, Gr w w1 →
    (Region.ready md ops listed = [] → Q .normal a w1) ∧
    (S w1 → ∀ i ∈ Region.ready md ops listed, wpOp P ops Q i (fun a' w' => ((i = L ∧ Region.ready md ops (listed.setIfInBounds i true) = []) ∨ S w') ∧ wpAnyG P md ops Q S L fuel (listed.setIfInBounds i true) a' w') a w1)
variable {L : Nat}
theorem wpAnyG.grow : ∀ {fuel : Nat} {listed : Array Bool} {a : Act} {w w1 : World}, wpAnyG P md ops Q S L fuel listed a w → Gr w w1 → wpAnyG P md ops Q S L fuel listed a w1
  | 0, _, _, _, _, h, hg => fun w2 h2 => h w2 (hg.trans h2)
  | _ + 1, _, _, _, _, h, hg => fun w2 h2 => h w2 (hg.trans h2)
theorem wpAny_of_G : ∀ (fuel : Nat) (listed : Array Bool) (a : Act) (w : World), (Region.ready md ops listed = [] ∨ S w) → wpAnyG P md ops Q S L fuel listed a w → wpAny P md ops Q fuel listed a w
  | 0, _, _, w, _, h => h w (Gr.refl w)
  | fuel + 1, listed, a, w, hS, h => ⟨(h w (Gr.refl w)).1, fun i hi => wpOp_mono (fun a' w' h' => wpAny_of_G fuel _ a' w' (h'.1.imp And.right id) h'.2)
      ((h w (Gr.refl w)).2 (hS.elim (fun h0 => by rw [h0] at hi; cases hi) id) i hi)⟩
/-- operation L, if there is one, waits for operation i -/
def waitsB (md : Region.Mode) (ops : Array Oper) (L i : Nat) : Bool := i != L && ((ops[L]?).map fun o => o.after.any fun e => Region.binds md e && e.on == i).getD true

/-- an operation that yields, and that may come up now, is taken first -/
theorem wpAnyG_first {i : Nat} {oi : Oper} {v : Value} (hi : ops[i]? = some oi) (hsel : ∀ (j : Nat) (o : Oper) cs b, ops[j]? = some o → o.op ≠ .select cs b)
    (hQ : ∀ c a w, Q (.panic c) (a.put oi.dst v) w → Q (.panic c) a w) (hSg : ∀ w w', S w → Gr w w' → S w') (hL : waitsB md ops L i = true) :
    ∀ (fuel : Nat) (listed : Array Bool) (a : Act) (w : World),
      (∀ j oj, ops[j]? = some oj → j ≠ i → listed.getD j true = false → (∀ e ∈ oj.after, Region.binds md e = true → e.on ≠ i) → oi.apart ops oj = true) →
      i ∈ Region.ready md ops listed → YieldsG P ops S oi v a →
      wpAnyG P md ops Q S L fuel (listed.setIfInBounds i true) (a.put oi.dst v) w → wpAnyG P md ops Q S L (fuel + 1) listed a w := by
  intro fuel
  induction fuel with
  | zero =>
    intro listed a w _ hr hy H w1 hg
    refine ⟨fun h => (by rw [h] at hr; cases hr), fun hS j hj => ?_⟩
    by_cases hji : j = i
    · subst hji; exact hy.wpOp hi hS (fun w' hw' => ⟨.inr (hSg _ _ hS hw'), (H.grow hg).grow hw'⟩)
    · have := ready_mono hj hji
      rw [(H w1 hg).1] at this
      cases this
  | succ fuel ih =>
    intro listed a w hfree hr hy H w1 hg
    refine ⟨fun h => (by rw [h] at hr; cases hr), fun hS j hj => ?_⟩
    by_cases hji : j = i
    · subst hji; exact hy.wpOp hi hS (fun w' hw' => ⟨.inr (hSg _ _ hS hw'), (H.grow hg).grow hw'⟩)
    · have h1 := (H w1 hg).2 hS j (ready_mono hj hji)
      obtain ⟨hjun, oj, hoj, hall⟩ := mem_ready.1 hj
      have hnot : ∀ e ∈ oj.after, Region.binds md e = true → e.on ≠ i := fun e he hb heq => by
        have h1 := hall e he hb
        have h0 := (mem_ready.1 hr).1
        rw [heq] at h1
        rcases Nat.lt_or_ge i listed.size with h' | h'
        · simp [h'] at h0 h1; rw [h0] at h1; cases h1
        · simp [Array.getElem?_eq_none h'] at h1
      have hjL : j ≠ L := fun e => by
        subst e
        unfold waitsB at hL
        rw [hoj] at hL
        simp only [Option.map_some, Option.getD_some, Bool.and_eq_true, Array.any_eq_true] at hL
        obtain ⟨_, k, hk, hb, he⟩ := hL
        exact hnot _ (Array.getElem_mem hk) hb (by simpa using he)
      have h2 := wpOp_putG hoj (hfree j oj hoj hji hjun hnot) (fun cs b => hsel i oi cs b hi) (fun cs b => hsel j oj cs b hoj) hQ hy h1
      have hfree' : ∀ k ok, ops[k]? = some ok → k ≠ i → (listed.setIfInBounds j true).getD k true = false →
          (∀ e ∈ ok.after, Region.binds md e = true → e.on ≠ i) → oi.apart ops ok = true := fun k ok hk hki hun hno => by
        refine hfree k ok hk hki ?_ hno
        by_cases hjk : j = k
        · subst hjk; exact hjun
        · rw [getD_set_ne true hjk] at hun; exact hun
      refine wpOp_mono (fun a' w' h3 => ⟨.inr (h3.2.1.elim (fun h => absurd h.1 hjL) id), ih (listed.setIfInBounds j true) a' w' hfree' (ready_mono hr (Ne.symm hji)) h3.1 ?_⟩) h2
      rw [Array.setIfInBounds_comm _ _ hji]
      exact h3.2.2

/-! ### The moves of a walk -/
/-- what yields is taken first -/
theorem wpAnyG_take {i : Nat} {oi : Oper} {v : Value} {fuel : Nat} {listed : Array Bool} {a : Act} {w : World} (hSg : ∀ w w', S w → Gr w w' → S w') (hi : ops[i]? = some oi)
    (hs : (Region.noSelect ops && Region.free md ops listed i && (Region.ready md ops listed).contains i && waitsB md ops L i) = true)
    (hQ : ∀ c a w, Q (.panic c) (a.put oi.dst v) w → Q (.panic c) a w) (hy : YieldsG P ops S oi v a)
    (h : wpAnyG P md ops Q S L fuel (listed.setIfInBounds i true) (a.put oi.dst v) w) : wpAnyG P md ops Q S L (fuel + 1) listed a w := by
  simp only [Bool.and_eq_true] at hs
  exact wpAnyG_first hi (Region.noSelect_spec hs.1.1.1) hQ hSg hs.2 fuel listed a w (Region.free_spec hi hs.1.1.2) (by simpa using hs.1.2) hy h
/-- all have come up -/
theorem wpAnyG_done {listed : Array Bool} {a : Act} {w : World} (hr : Region.ready md ops listed = []) (h : ∀ W, Gr w W → Q .normal a W) :
    ∀ fuel, wpAnyG P md ops Q S L fuel listed a w
  | 0 => fun W hW => ⟨hr, h W hW⟩
  | _ + 1 => fun W hW => ⟨fun _ => h W hW, fun _ => by rw [hr]; simp⟩
/-- a variable of the call's own is made -/
def AllocsG (P : Program) (ops : Array Oper) (o : Oper) (t : TypeId) (zs : List Value) (a : Act) : Prop :=
  Region.wanted o (yielded ops a.tmps) = true ∧ ∀ w, (execOp a.eval o).run P w = .ok (.value (.pointer (some ⟨w.heap.size, 0, none⟩))) (w.alloc (.cells zs.toArray t))
theorem AllocsG.wpOp {i : Nat} {o : Oper} {t : TypeId} {zs : List Value} {a : Act} (hi : ops[i]? = some o) (hy : AllocsG P ops o t zs a)
    {K : Act → World → Prop} {w : World} (h : K (a.put o.dst (.pointer (some ⟨w.heap.size, 0, none⟩))) (w.alloc (.cells zs.toArray t))) : wpOp P ops Q i K a w := by
  unfold Go.wpOp
  simp only [hi, hy.1, if_true]
  refine .inl ?_
  unfold Oper.wp
  rw [hy.2 w]
  exact h
theorem AllocsG.of_put {o o' : Oper} {t : TypeId} {zs : List Value} {a : Act} (hy : AllocsG P ops o t zs a) (hp : ∀ u, execOp (a.put o'.dst u).eval o = execOp a.eval o ∧ Region.wanted o (yielded ops (a.put o'.dst u).tmps) = Region.wanted o (yielded ops a.tmps)) (u : Value) : AllocsG P ops o t zs (a.put o'.dst u) := by
  obtain ⟨h1, h2⟩ := hp u
  unfold AllocsG
  rw [h1, h2]
  exact hy
theorem wpAnyG_alloc {i : Nat} {oi : Oper} {t : TypeId} {zs : List Value} {fuel : Nat} {listed : Array Bool} {a : Act} {w : World} (hSg : ∀ w w', S w → Gr w w' → S w') (hr : Region.ready md ops listed = [i]) (hi : ops[i]? = some oi)
    (hy : AllocsG P ops oi t zs a)
    (h : ∀ W g, Gr w W → w.heap.size ≤ g → Blk W g t zs → wpAnyG P md ops Q S L fuel (listed.setIfInBounds i true) (a.put oi.dst (.pointer (some ⟨g, 0, none⟩))) W) : wpAnyG P md ops Q S L (fuel + 1) listed a w := by
  intro w1 hg
  refine ⟨fun h0 => (by rw [h0] at hr; cases hr), fun hS j hj => ?_⟩
  rw [hr] at hj
  obtain rfl : j = i := by simpa using hj
  exact hy.wpOp hi ⟨.inr (hSg _ _ hS (Gr.alloc _ _)), h _ _ (hg.trans (Gr.alloc _ _)) hg.size (Blk.new _ _ _)⟩
theorem wpAnyG_alloc2 {i j : Nat} {oi oj : Oper} {t t2 : TypeId} {zs zs2 : List Value} {fuel : Nat} {listed : Array Bool} {a : Act} {w : World} (hSg : ∀ w w', S w → Gr w w' → S w')
    (hr : Region.ready md ops listed = [i, j]) (hr1 : Region.ready md ops (listed.setIfInBounds i true) = [j]) (hr2 : Region.ready md ops (listed.setIfInBounds j true) = [i]) (hij : i ≠ j) (hi : ops[i]? = some oi) (hj : ops[j]? = some oj)
    (hy : AllocsG P ops oi t zs a) (hy2 : AllocsG P ops oj t2 zs2 a) (hyi : ∀ g, AllocsG P ops oi t zs (a.put oj.dst (.pointer (some ⟨g, 0, none⟩)))) (hyj : ∀ g, AllocsG P ops oj t2 zs2 (a.put oi.dst (.pointer (some ⟨g, 0, none⟩))))
    (hcm : ∀ u v, (a.put oi.dst u).put oj.dst v = (a.put oj.dst v).put oi.dst u)
    (h : ∀ W g g2, Gr w W → w.heap.size ≤ g → w.heap.size ≤ g2 → g ≠ g2 → Blk W g t zs → Blk W g2 t2 zs2 → wpAnyG P md ops Q S L fuel ((listed.setIfInBounds i true).setIfInBounds j true) ((a.put oi.dst (.pointer (some ⟨g, 0, none⟩))).put oj.dst (.pointer (some ⟨g2, 0, none⟩))) W) :
    wpAnyG P md ops Q S L (fuel + 1 + 1) listed a w := by
  intro w1 hg
  refine ⟨fun h0 => (by rw [h0] at hr; cases hr), fun hS k hk => ?_⟩
  rw [hr] at hk
  have hk' : k = i ∨ k = j := by simpa using hk
  rcases hk' with rfl | rfl
  · refine hy.wpOp hi ⟨.inr (hSg _ _ hS (Gr.alloc _ _)), ?_⟩
    refine wpAnyG_alloc hSg hr1 hj (hyj _) fun W g2 hW hg2 hb2 => ?_
    have hsz : (w1.alloc (.cells zs.toArray t)).heap.size = w1.heap.size + 1 := by simp
    have := hg.size
    exact h W w1.heap.size g2 ((hg.trans (Gr.alloc _ _)).trans hW) this (by omega) (by omega) ((Blk.new w1 t zs).gr hW) hb2
  · refine hy2.wpOp hj ⟨.inr (hSg _ _ hS (Gr.alloc _ _)), ?_⟩
    refine wpAnyG_alloc hSg hr2 hi (hyi _) fun W g hW hg1 hb1 => ?_
    have hsz : (w1.alloc (.cells zs2.toArray t2)).heap.size = w1.heap.size + 1 := by simp
    have := hg.size
    have hb2 := (Blk.new w1 t2 zs2).gr hW
    have := h W g w1.heap.size ((hg.trans (Gr.alloc _ _)).trans hW) (by omega) this (by omega) hb1 hb2
    rw [hcm, Array.setIfInBounds_comm _ _ hij] at this
    exact this
/-- a whole variable is stored -/
def StoresG (P : Program) (ops : Array Oper) (o : Oper) (g : Nat) (t : TypeId) (n : Nat) (cs : List Value) (a : Act) : Prop :=
  Region.wanted o (yielded ops a.tmps) = true ∧ ∀ w old, Blk w g t old → old.length = n → (execOp a.eval o).run P w = .ok .skip (w.setRow g cs.toArray)
theorem StoresG.mk {o : Oper} {g : Nat} {t : TypeId} {cs : List Value} {a : Act} (hw : Region.wanted o (yielded ops a.tmps) = true) (ty : TypeId) (x y : Operand) (ho : o.op = .store ty x y)
    (hx : a.eval x = .pointer (some ⟨g, 0, none⟩)) (hy : a.eval y = .agg cs.toArray) (hi : (P.info? ty).map (·.size) = some cs.length) (h1 : ∀ v ∈ cs, v.oneCell' = true) : StoresG P ops o g t cs.length cs a :=
  ⟨hw, fun w old hb ho4 => by
    unfold execOp
    simp only [ho, hx, hy, Instr.storeAt, Instr.sureAddr, Sem.run_bind, Sem.run_pure, Result.andThen_ok, run_storeVar_row w g t ty old.toArray cs.toArray hb (by simpa using hi) (by simpa using ho4) (Array.all_eq_true_iff_forall_mem.2 (fun v hv => h1 v (by simpa using hv)))]⟩
theorem StoresG.wpOp {i : Nat} {o : Oper} {g n : Nat} {t : TypeId} {cs old : List Value} {a : Act} {w : World} (hi : ops[i]? = some o) (hy : StoresG P ops o g t n cs a) (hb : Blk w g t old) (hl : old.length = n)
    {K : Act → World → Prop} (h : K (a.put o.dst undef) (w.setRow g cs.toArray)) : wpOp P ops Q i K a w := by
  unfold Go.wpOp
  simp only [hi, hy.1, if_true]
  refine .inl ?_
  unfold Oper.wp
  rw [hy.2 w old hb hl]
  exact h
theorem wpAnyG_store {i : Nat} {oi : Oper} {g n : Nat} {t : TypeId} {cs old : List Value} {fuel : Nat} {listed : Array Bool} {a : Act} {w : World} (hr : Region.ready md ops listed = [i]) (hi : ops[i]? = some oi)
    (hb : Blk w g t old) (hl : old.length = n) (hy : StoresG P ops oi g t n cs a) (hSs : (i = L ∧ Region.ready md ops (listed.setIfInBounds i true) = []) ∨ ∀ w, S w → S (w.setRow g cs.toArray))
    (h : ∀ W, w.grownBy W (some g) → Blk W g t cs → wpAnyG P md ops Q S L fuel (listed.setIfInBounds i true) (a.put oi.dst undef) W) : wpAnyG P md ops Q S L (fuel + 1) listed a w := by
  intro w1 hg
  refine ⟨fun h0 => (by rw [h0] at hr; cases hr), fun hS j hj => ?_⟩
  rw [hr] at hj
  obtain rfl : j = i := by simpa using hj
  refine hy.wpOp hi (hb.gr hg) hl ⟨hSs.imp id (fun h => h _ hS), h _ (grown_trans (grown_below hg _) (grown_setRow _ _ _)) ((hb.gr hg).setRow cs)⟩
/-- 'x := ..': the last two steps -/
theorem wpAnyG_def {i j : Nat} {oi oj : Oper} {t : TypeId} {zs cs : List Value} {n fuel : Nat} {listed : Array Bool} {a : Act} {w : World} (hSg : ∀ w w', S w → Gr w w' → S w')
    (hr : Region.ready md ops listed = [i]) (hr1 : Region.ready md ops (listed.setIfInBounds i true) = [j]) (hr2 : Region.ready md ops ((listed.setIfInBounds i true).setIfInBounds j true) = []) (hjL : j = L) (hi : ops[i]? = some oi) (hj : ops[j]? = some oj)
    (hy : AllocsG P ops oi t zs a) (hn : zs.length = n) (hs : ∀ g, StoresG P ops oj g t n cs (a.put oi.dst (.pointer (some ⟨g, 0, none⟩))))
    (h : ∀ W g, Gr w W → w.heap.size ≤ g → Blk W g t cs → Q .normal ((a.put oi.dst (.pointer (some ⟨g, 0, none⟩))).put oj.dst undef) W) : wpAnyG P md ops Q S L (fuel + 1 + 1) listed a w :=
  wpAnyG_alloc hSg hr hi hy fun W g hW hg hb => wpAnyG_store hr1 hj hb hn (hs g) (.inl ⟨hjL, hr2⟩) fun W2 h2 hb2 => wpAnyG_done hr2 (fun W3 h3 => h W3 g ((hW.store h2 hg).trans h3) hg (hb2.gr h3)) fuel
/-- 'x, y := ..': the last four steps -/
theorem wpAnyG_def2 {i j k l : Nat} {oi oj ok ol : Oper} {t t2 : TypeId} {zs zs2 cs cs2 : List Value} {n n2 fuel : Nat} {listed : Array Bool} {a : Act} {w : World} (hSg : ∀ w w', S w → Gr w w' → S w')
    (hr : Region.ready md ops listed = [i, j]) (hr1 : Region.ready md ops (listed.setIfInBounds i true) = [j]) (hr2 : Region.ready md ops (listed.setIfInBounds j true) = [i])
    (hr3 : Region.ready md ops ((listed.setIfInBounds i true).setIfInBounds j true) = [k]) (hr4 : Region.ready md ops (((listed.setIfInBounds i true).setIfInBounds j true).setIfInBounds k true) = [l])
    (hr5 : Region.ready md ops ((((listed.setIfInBounds i true).setIfInBounds j true).setIfInBounds k true).setIfInBounds l true) = []) (hij : i ≠ j) (hlL : l = L)
    (hi : ops[i]? = some oi) (hj : ops[j]? = some oj) (hk : ops[k]? = some ok) (hl : ops[l]? = some ol)
    (hy : AllocsG P ops oi t zs a) (hy2 : AllocsG P ops oj t2 zs2 a) (hyi : ∀ g, AllocsG P ops oi t zs (a.put oj.dst (.pointer (some ⟨g, 0, none⟩)))) (hyj : ∀ g, AllocsG P ops oj t2 zs2 (a.put oi.dst (.pointer (some ⟨g, 0, none⟩))))
    (hcm : ∀ u v, (a.put oi.dst u).put oj.dst v = (a.put oj.dst v).put oi.dst u) (hn : zs.length = n) (hn2 : zs2.length = n2)
    (hs : ∀ g g2, StoresG P ops ok g t n cs ((a.put oi.dst (.pointer (some ⟨g, 0, none⟩))).put oj.dst (.pointer (some ⟨g2, 0, none⟩))))
    (hs2 : ∀ g g2, StoresG P ops ol g2 t2 n2 cs2 (((a.put oi.dst (.pointer (some ⟨g, 0, none⟩))).put oj.dst (.pointer (some ⟨g2, 0, none⟩))).put ok.dst undef))
    (hSs : ∀ g w', S w → w.heap.size ≤ g → Gr w w' → S (w'.setRow g cs.toArray)) (hSw : S w)
    (h : ∀ W g g2, Gr w W → w.heap.size ≤ g → w.heap.size ≤ g2 → g ≠ g2 → Blk W g t cs → Blk W g2 t2 cs2 → Q .normal ((((a.put oi.dst (.pointer (some ⟨g, 0, none⟩))).put oj.dst (.pointer (some ⟨g2, 0, none⟩))).put ok.dst undef).put ol.dst undef) W) :
    wpAnyG P md ops Q S L (fuel + 1 + 1 + 1 + 1) listed a w :=
  wpAnyG_alloc2 hSg hr hr1 hr2 hij hi hj hy hy2 hyi hyj hcm fun W g g2 hW hg hg2 hne hb hb2 => by
    intro w1 h1
    refine ⟨fun h0 => (by rw [h0] at hr3; cases hr3), fun hS m hm => ?_⟩
    rw [hr3] at hm
    obtain rfl : m = k := by simpa using hm
    refine (hs g g2).wpOp hk (hb.gr h1) hn ⟨.inr (hSs g w1 hSw hg (hW.trans h1)), ?_⟩
    have h2 := grown_setRow w1 g cs.toArray
    have hb' := (hb.gr h1).setRow cs
    have hb2' := (hb2.gr h1).row cs.toArray (Ne.symm hne)
    refine wpAnyG_store hr4 hl hb2' hn2 (hs2 g g2) (.inl ⟨hlL, hr5⟩) fun W2 k2 kb2 => wpAnyG_done hr5 (fun W3 h3 => ?_) fuel
    have kb : Blk W2 g t cs := hb'.of (k2.block g hb'.lt (fun e => by injection e with e; exact hne e))
    exact h W3 g g2 ((((hW.trans h1).store h2 hg).store k2 hg2).trans h3) hg hg2 hne (kb.gr h3) (kb2.gr h3)
/-- 'x = ..' into a variable of the call's own: the last step -/
theorem wpAnyG_set {i : Nat} {oi : Oper} {g n : Nat} {t : TypeId} {cs old : List Value} {fuel : Nat} {listed : Array Bool} {a : Act} {w : World} (hr : Region.ready md ops listed = [i]) (hr1 : Region.ready md ops (listed.setIfInBounds i true) = []) (hiL : i = L) (hi : ops[i]? = some oi)
    (hb : Blk w g t old) (hl : old.length = n) (hy : StoresG P ops oi g t n cs a)
    (h : ∀ W, w.grownBy W (some g) → Blk W g t cs → Q .normal (a.put oi.dst undef) W) : wpAnyG P md ops Q S L (fuel + 1) listed a w :=
  wpAnyG_store hr hi hb hl hy (.inl ⟨hiL, hr1⟩) fun W h2 hb2 => wpAnyG_done hr1 (fun W3 h3 => h W3 (grown_trans h2 (grown_below h3 _)) (hb2.gr h3)) fuel

/-- the beginning: a region that draws its order -/
theorem wp_region_G {id : Nat} {a : Act} {w : World} (S : World → Prop) (L : Nat) (hm : P.follows .mixedOrders = true) (hS : S w.drew)
    (h : wpAnyG P .any ops Q S L ops.size (Array.replicate ops.size false) a w.drew) : (Code.region id ops true).wp P Q a w :=
  wp_region_any hm (wpAny_of_G _ _ _ _ (.inr hS) h)
end
end Go.Proofs.Ytelfhpmbnficfaa
