/- Blocks of the call's own that are known whole, numbers as cells. No condition. -/
import Derived.Test.YtlbfnmmankoddaaDoorMem
import Derived.WalkKit
import Derived.ProofKit
import Derived.Lib.Hide
import Derived.Handy
import Derived.Laws.BitsAllLaws
import Derived.WalkSmall
import Derived.WalkSpells
import Derived.Deep.RegionLaw
import Derived.Deep.QuietTactic
import Derived.BigQuiet
import Derived.Laws.Rows
import Derived.Laws.Tables
import Derived.OneCell
import Derived.Laws.CopyOwn
import Derived.Deep.MidRow
import Derived.Deep.WholeRow
import Derived.Deep.RegionWith
import Derived.Deep.Cut
import Derived.StillTailTactics
import Derived.ChangeKeysEq
import Derived.Laws.StructEq
import Derived.Deep.RegionHeld3
import Derived.Great.Walk
namespace Go.Proofs.YtlbfnmmankoddaaDoor
open Go.RowKit
set_option linter.unusedVariables false

theorem wpList_want {P : Program} {w : World} {ops : Array Oper} {rest : List Oper} {o : Oper} {a : Act} {Q : Exit → Act → World → Prop} (hw : Region.wanted o (yielded ops a.tmps) = true)
    (h : ∀ K : Act → World → Prop, (∀ a w, wpList P ops Q rest a w → K a w) → o.wp P a w K Q) : wpList P ops Q (o :: rest) a w :=
  wpList_step fun K hK => by rw [if_pos hw]; exact h K hK
theorem results_two {P : Program} {fn : Func} {p q : Tmp} {ty : TypeId} (h : fn.results = #[.cell p ty, .tmp q]) (tmps : Array Value) (w : World) (g : Nat) (t : TypeId) (cs : Array Value) (fr : Nat × Nat) (d : TypeDesc) (v : Value)
    (hp : tmps.getD p undef = .pointer (some ⟨g, 0, none⟩)) (hv : tmps.getD q undef = v) (hg : w.heap[g]? = some (.cells cs t fr))
    (hu : P.underlying ty = some d) (hd : (match d with | .struct _ | .array _ _ => true | _ => false) = true) (hi : (P.info? ty).map (·.size) = some cs.size) :
    (results fn tmps).run P w = .ok (.tuple #[.agg cs, v]) w := by
  have hp' : tmps[p]?.getD undef = .pointer (some ⟨g, 0, none⟩) := by simpa using hp
  have hv' : tmps[q]?.getD undef = v := by simpa using hv
  simp [results, h, hp', hv', asAddr, run_loadVar_row w g t ty cs fr d hg hu hd hi]
theorem Blk.row {w : World} {g g2 : Nat} {t : TypeId} {cs : List Value} (h : Blk w g t cs) (ds : Array Value) (hne : g ≠ g2) : Blk (w.setRow g2 ds) g t cs := h.of (setRow_other w g2 g ds hne)
theorem part_nats {P : Program} (w : World) (e : TypeId) (k : IntKind) (l : List Nat) (i : Nat) (he : P.underlying e = some (.int k)) (hz : (P.info? e).map (·.size) = some 1) (hi : i < l.length) :
    (part e (natsV k l).toArray (i * 1)).run P w = .ok (.int k (l.getD i 0 : Nat)) w := by
  have hg := natsV_get k l i hi
  cases hq : P.info? e with
  | none => simp [hq] at hz
  | some j =>
    have hs : j.size = 1 := by simpa [hq] using hz
    have h2 : (isAgg e).run P w = .ok false w := by unfold isAgg; rw [Sem.run_bind, run_underlying he w]; rfl
    simp [part, Sem.run_bind, h2, hg]
theorem eqItems_nats {P : Program} (w : World) (d : Nat) (e : TypeId) (k : IntKind) (he : P.underlying e = some (.int k)) (hz : (P.info? e).map (·.size) = some 1) (a b : List Nat) : ∀ is : List Nat, (∀ i ∈ is, i < a.length ∧ i < b.length) →
    (Op.eqItems (d + 1) e 1 (natsV k a).toArray (natsV k b).toArray is).run P w = .ok (decide (∀ i ∈ is, a.getD i 0 = b.getD i 0)) w
  | [], _ => by simp [Op.eqItems]
  | i :: is, h => by
    have hi := h i (by simp)
    have ih := eqItems_nats w d e k he hz a b is (fun j hj => h j (by simp [hj]))
    simp only [Op.eqItems, Sem.run_bind, part_nats w e k a i he hz hi.1, part_nats w e k b i he hz hi.2, Result.andThen_ok, run_equalIn_int w d e k k _ _ he]
    by_cases hab : a.getD i 0 = b.getD i 0
    · have hb : (((a.getD i 0 : Nat) : Int) == ((b.getD i 0 : Nat) : Int)) = true := by rw [hab]; simp
      simp only [hb, Bool.not_true, Bool.false_eq_true, if_false, ih]
      congr 1
      rw [decide_eq_decide]
      exact ⟨fun h j hj => (List.mem_cons.1 hj).elim (fun e => e ▸ hab) (h j), fun h j hj => h j (List.mem_cons_of_mem _ hj)⟩
    · have hb : (((a.getD i 0 : Nat) : Int) == ((b.getD i 0 : Nat) : Int)) = false := beq_eq_false_iff_ne.2 (by omega)
      simp only [hb, Bool.not_false, if_true]
      have : decide (∀ j ∈ i :: is, a.getD j 0 = b.getD j 0) = false := by
        rw [decide_eq_false_iff_not]; intro hh; exact hab (hh i (by simp))
      rw [this]; rfl
theorem items_eq (a b : List Nat) (n : Nat) (ha : a.length = n) (hb : b.length = n) : decide (∀ i ∈ List.range n, a.getD i 0 = b.getD i 0) = decide (a = b) := by
  rw [decide_eq_decide]
  constructor
  · intro h
    apply List.ext_getElem (by omega)
    intro i h1 h2
    have := h i (List.mem_range.2 (by omega))
    simpa [List.getD_eq_getElem?_getD, h1, h2] using this
  · intro h i _; rw [h]
theorem eql_nats {P : Program} (w : World) (t e : TypeId) (k : IntKind) (n : Nat) (ti : TypeInfo) (hu : P.underlying t = some (.array n e)) (he : P.underlying e = some (.int k)) (hi : P.info? e = some ti) (hs : ti.size = 1) (hc : P.cellsOf e = 1) (a b : List Nat) (ha : a.length = n) (hb : b.length = n) :
    (binOp .eql t (.agg (natsV k a).toArray) (.agg (natsV k b).toArray)).run P w = .ok (.bool (decide (a = b))) w := by
  rw [run_eql_struct, run_equalIn_array w 9999 _ _ hu hi, hc, eqItems_nats w 9998 e k he (by rw [hi]; simp [hs]) a b (List.range n) (fun i hi => by have := List.mem_range.1 hi; omega), items_eq a b n ha hb]
  rfl
theorem flipC {P : Program} {f : FuncId} {args : Array Value} {w : World} {v : Value} (h : Calls P f args w fun e w' => e = .returned v ∧ w = w') : Calls P f args w fun e w' => e = .returned v ∧ w' = w :=
  h.mono fun _ _ ⟨a, b⟩ => ⟨a, b.symm⟩
theorem quietC {P : Program} {f : FuncId} {args : Array Value} {w : World} {v : Value} (h : Calls P f args w fun e w' => e = .returned v ∧ w = w') : Calls P f args w fun e w' => e = .returned v ∧ Below w.heap.size w w' :=
  h.mono fun _ _ ⟨a, b⟩ => ⟨a, b ▸ Below.refl _ _⟩
/-! whole numbers as the cells of a polynomial -/
def iv (l : List Int) : List Value := l.map (Value.int .i32)
theorem iv_length (l : List Int) : (iv l).length = l.length := by simp [iv]
theorem iv_get (l : List Int) (i : Nat) (h : i < l.length) : (iv l)[i]? = some (.int .i32 (l.getD i 0)) := by
  simp [iv, List.getD_eq_getElem?_getD, List.getElem?_eq_getElem h]
theorem iv_set (l : List Int) (i : Nat) (x : Int) : (iv l).set i (.int .i32 x) = iv (l.set i x) := by simp [iv, List.map_set]
theorem iv_one (l : List Int) : ∀ v ∈ iv l, v.oneCell' = true := by
  intro u hu; obtain ⟨y, _, rfl⟩ := List.mem_map.1 hu; rfl
theorem iv_all (l : List Int) : (iv l).toArray.all (·.oneCell') = true := Array.all_eq_true_iff_forall_mem.2 (fun v hv => iv_one l v (by simpa using hv))
theorem iv_size (l : List Int) : (iv l).toArray.size = l.length := by simp [iv]
theorem Blk.iv {w : World} {g : Nat} {t : TypeId} {l : List Int} (h : Blk w g t (iv l)) (i : Nat) (hi : i < l.length) : w.cell? ⟨g, i, none⟩ = some (.int .i32 (l.getD i 0)) := by
  rw [h.cell, iv_get l i hi]
theorem Blk.ivSet {w : World} {g : Nat} {t : TypeId} {l : List Int} (h : Blk w g t (Go.Proofs.YtlbfnmmankoddaaDoor.iv l)) (i : Nat) (x : Int) : Blk (w.setCell ⟨g, i, none⟩ (.int .i32 x)) g t (Go.Proofs.YtlbfnmmankoddaaDoor.iv (l.set i x)) := by
  have := h.set i (.int .i32 x); rwa [iv_set] at this
def tellI (f : Nat → Int) (n : Nat) : List Int := (List.range n).map f
theorem tellI_length (f : Nat → Int) (n : Nat) : (tellI f n).length = n := by simp [tellI]
theorem tellI_get (f : Nat → Int) (n i : Nat) (h : i < n) : (tellI f n).getD i 0 = f i := by simp [tellI, List.getD_eq_getElem?_getD, h]
theorem tellI_congr {f g : Nat → Int} {n : Nat} (h : ∀ i, i < n → f i = g i) : tellI f n = tellI g n := List.map_congr_left fun i hi => h i (List.mem_range.1 hi)
theorem tellI_self (l : List Int) : tellI (fun i => l.getD i 0) l.length = l := by
  apply List.ext_getElem (tellI_length _ _)
  intro i h1 h2
  simp [tellI, List.getD_eq_getElem?_getD, h2]
theorem tellI_inj {f g : Nat → Int} {n : Nat} (h : tellI f n = tellI g n) (i : Nat) (hi : i < n) : f i = g i := by
  have h2 : (tellI f n).getD i 0 = (tellI g n).getD i 0 := by rw [h]
  rwa [tellI_get _ _ _ hi, tellI_get _ _ _ hi] at h2
theorem tellI_set (f : Nat → Int) (n p : Nat) (v : Int) : (tellI f n).set p v = tellI (fun i => if i = p then v else f i) n := by
  apply List.ext_getElem (by simp [tellI])
  intro i h1 h2
  simp only [tellI, List.getElem_set, List.getElem_map, List.getElem_range]
  by_cases h : p = i
  · rw [if_pos h, if_pos h.symm]
  · rw [if_neg h, if_neg (fun e => h e.symm)]
/-- a list that is filled place by place -/
theorem tellI_fill (f g : Nat → Int) (n t : Nat) : (tellI (fun i => if i < t then f i else g i) n).set t (f t) = tellI (fun i => if i < t + 1 then f i else g i) n := by
  rw [tellI_set]
  refine tellI_congr fun i _ => ?_
  by_cases h : i = t
  · subst h; rw [if_pos rfl, if_pos (by omega)]
  · rw [if_neg h]
    by_cases h2 : i < t
    · rw [if_pos h2, if_pos (by omega)]
    · rw [if_neg h2, if_neg (by omega)]
theorem tellI_none (f : Nat → Int) (l : List Int) (n : Nat) (h : l.length = n) : tellI (fun i => if i < 0 then f i else l.getD i 0) n = l := by
  subst h; conv => rhs; rw [← tellI_self l]
  exact tellI_congr fun i _ => if_neg (by omega)
theorem tellI_all (f g : Nat → Int) (n : Nat) : tellI (fun i => if i < n then f i else g i) n = tellI f n := tellI_congr fun i hi => if_pos hi
def zerI : List Int := List.replicate 256 0
theorem zerI_length : zerI.length = 256 := List.length_replicate
theorem zerI_get (i : Nat) : zerI.getD i 0 = 0 := by
  simp only [zerI, List.getD_eq_getElem?_getD, List.getElem?_replicate]; split <;> rfl
theorem info23 : (Tryd.prog.info? 25).map (·.size) = some 256 := by kernel_rfl
theorem info22 : (Tryd.prog.info? 24).map (·.size) = some 256 := by kernel_rfl
theorem info21 : (Tryd.prog.info? 21).map (·.size) = some 1 := by kernel_rfl
theorem cells21 : Tryd.prog.cellsOf 21 = 1 := by kernel_rfl
theorem i23 {l : List Int} (h : l.length = 256) : (Tryd.prog.info? 25).map (·.size) = some (iv l).length := by rw [info23, iv_length, h]
theorem i22 {l : List Int} (h : l.length = 256) : (Tryd.prog.info? 24).map (·.size) = some (iv l).length := by rw [info22, iv_length, h]
theorem j23 {l : List Int} (h : l.length = 256) : (Tryd.prog.info? 25).map (·.size) = some (iv l).toArray.size := by rw [info23, iv_size, h]
theorem j22 {l : List Int} (h : l.length = 256) : (Tryd.prog.info? 24).map (·.size) = some (iv l).toArray.size := by rw [info22, iv_size, h]
theorem part_iv {P : Program} (w : World) (e : TypeId) (l : List Int) (i : Nat) (he : P.underlying e = some (.int .i32)) (hz : (P.info? e).map (·.size) = some 1) (hi : i < l.length) :
    (part e (iv l).toArray (i * 1)).run P w = .ok (.int .i32 (l.getD i 0)) w := by
  have hg := iv_get l i hi
  cases hq : P.info? e with
  | none => simp [hq] at hz
  | some j =>
    have hs : j.size = 1 := by simpa [hq] using hz
    have h2 : (isAgg e).run P w = .ok false w := by unfold isAgg; rw [Sem.run_bind, run_underlying he w]; rfl
    simp [part, Sem.run_bind, h2, hg]
/-- an array by value, at a place -/
theorem index_iv {P : Program} (w : World) (t e : TypeId) (n : Nat) (l : List Int) (i : Nat) (hu : P.underlying t = some (.array n e)) (he : P.underlying e = some (.int .i32))
    (hz : (P.info? e).map (·.size) = some 1) (hi : i < n) (hl : l.length = n) : (Instr.index t (.agg (iv l).toArray) (.int .i64 (i : Nat))).run P w = .ok (.int .i32 (l.getD i 0)) w := by
  have hg := iv_get l i (by omega)
  cases hq : P.info? e with
  | none => simp [hq] at hz
  | some j =>
    have hs : j.size = 1 := by simpa [hq] using hz
    have h1 : (sizeOf e).run P w = .ok 1 w := by simp [sizeOf, typeInfo, hq, hs]
    have h2 : (isAgg e).run P w = .ok false w := by unfold isAgg; rw [Sem.run_bind, run_underlying he w]; rfl
    simp [Instr.index, run_underlying hu, asIntOf, hi, Sem.run_bind, part, h1, h2, hg]
theorem index23 (w : World) (l : List Int) (i : Nat) (hi : i < 256) (hl : l.length = 256) : (Instr.index 25 (.agg (iv l).toArray) (.int .i64 (i : Nat))).run Tryd.prog w = .ok (.int .i32 (l.getD i 0)) w :=
  index_iv w 25 21 256 l i Tryd.underlying25 Tryd.underlying21 info21 hi hl
theorem eqItems_iv {P : Program} (w : World) (d : Nat) (e : TypeId) (he : P.underlying e = some (.int .i32)) (hz : (P.info? e).map (·.size) = some 1) (a b : List Int) : ∀ is : List Nat, (∀ i ∈ is, i < a.length ∧ i < b.length) →
    (Op.eqItems (d + 1) e 1 (iv a).toArray (iv b).toArray is).run P w = .ok (decide (∀ i ∈ is, a.getD i 0 = b.getD i 0)) w
  | [], _ => by simp [Op.eqItems]
  | i :: is, h => by
    have hi := h i (by simp)
    have ih := eqItems_iv w d e he hz a b is (fun j hj => h j (by simp [hj]))
    simp only [Op.eqItems, Sem.run_bind, part_iv w e a i he hz hi.1, part_iv w e b i he hz hi.2, Result.andThen_ok, run_equalIn_int w d e .i32 .i32 _ _ he]
    by_cases hab : a.getD i 0 = b.getD i 0
    · have hb : (a.getD i 0 == b.getD i 0) = true := by rw [hab]; simp
      simp only [hb, Bool.not_true, Bool.false_eq_true, if_false, ih]
      congr 1
      rw [decide_eq_decide]
      exact ⟨fun h j hj => (List.mem_cons.1 hj).elim (fun e => e ▸ hab) (h j), fun h j hj => h j (List.mem_cons_of_mem _ hj)⟩
    · have hb : (a.getD i 0 == b.getD i 0) = false := beq_eq_false_iff_ne.2 hab
      simp only [hb, Bool.not_false, if_true]
      have : decide (∀ j ∈ i :: is, a.getD j 0 = b.getD j 0) = false := by
        rw [decide_eq_false_iff_not]; intro hh; exact hab (hh i (by simp))
      rw [this]; rfl
theorem eql23 (a b : List Int) (ha : a.length = 256) (hb : b.length = 256) (w : World) : (binOp .eql 25 (.agg (iv a).toArray) (.agg (iv b).toArray)).run Tryd.prog w = .ok (.bool (decide (a = b))) w := by
  cases hq : Tryd.prog.info? 21 with
  | none => have := info21; simp [hq] at this
  | some ti =>
    have hs : ti.size = 1 := by have := info21; simpa [hq] using this
    rw [run_eql_struct, run_equalIn_array w 9999 _ _ Tryd.underlying25 hq, cells21, eqItems_iv w 9998 21 Tryd.underlying21 info21 a b (List.range 256) (fun i hi => by have := List.mem_range.1 hi; omega)]
    have : decide (∀ i ∈ List.range 256, a.getD i 0 = b.getD i 0) = decide (a = b) := by
      rw [decide_eq_decide]
      constructor
      · intro h
        apply List.ext_getElem (by omega)
        intro i h1 h2
        have := h i (List.mem_range.2 (by omega))
        simpa [List.getD_eq_getElem?_getD, h1, h2] using this
      · intro h i _; rw [h]
    rw [this]; rfl
end Go.Proofs.YtlbfnmmankoddaaDoor
