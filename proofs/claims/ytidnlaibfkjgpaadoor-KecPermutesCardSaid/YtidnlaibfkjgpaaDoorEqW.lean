/- Two arrays of words are equal just if the words are; an array that came in leads to words. No condition. -/
import Derived.Test.YtidnlaibfkjgpaaDoorFrame
import Derived.Test.YtidnlaibfkjgpaaDoorKRefP
import Derived.ChangeKeysEq
import Derived.Laws.StructEq
namespace Go.Proofs.YtidnlaibfkjgpaaDoor
open Go.ChangeShapes Go.WideShapes Go.ChangeAt Go.RowKit
set_option linter.unusedVariables false
theorem part_nats {P : Program} (w : World) (e : TypeId) (k : IntKind) (l : List Nat) (i : Nat) (he : P.underlying e = some (.int k)) (hz : (P.info? e).map (·.size) = some 1) (hi : i < l.length) :
    (part e (natsV k l).toArray (i * 1)).run P w = .ok (.int k (l.getD i 0 : Nat)) w := by
  have hg := natsV_get k l i hi
  cases hq : P.info? e with
  | none => simp [hq] at hz
  | some j =>
    have hs : j.size = 1 := by simpa [hq] using hz
    have h2 : (isAgg e).run P w = .ok false w := by unfold isAgg; rw [Sem.run_bind, run_underlying he w]; rfl
    simp [part, Sem.run_bind, h2, hg]
theorem eqItems_nats {P : Program} (w : World) (d : Nat) (e : TypeId) (k : IntKind) (he : P.underlying e = some (.int k)) (hz : (P.info? e).map (·.size) = some 1) (a b : List Nat) : ∀ is : List Nat, (∀ i ∈ is, i < a.length ∧ i < b.length) →
    (Op.eqItems (d + 1) e 1 (natsV k a).toArray (natsV k b).toArray is).run P w = .ok (decide (∀ i ∈ is, a.getD i 0 = b.getD i 0)) w
  | [], _ => by simp [Op.eqItems]
  | i :: is, h => by
    have hi := h i (by simp)
    have ih := eqItems_nats w d e k he hz a b is (fun j hj => h j (by simp [hj]))
    simp only [Op.eqItems, Sem.run_bind, part_nats w e k a i he hz hi.1, part_nats w e k b i he hz hi.2, Result.andThen_ok, run_equalIn_int w d e k k _ _ he]
    by_cases hab : a.getD i 0 = b.getD i 0
    · have hb : (((a.getD i 0 : Nat) : Int) == ((b.getD i 0 : Nat) : Int)) = true := by rw [hab]; simp
      simp only [hb, Bool.not_true, Bool.false_eq_true, if_false, ih]
      congr 1
      rw [decide_eq_decide]
      exact ⟨fun h j hj => (List.mem_cons.1 hj).elim (fun e => e ▸ hab) (h j), fun h j hj => h j (List.mem_cons_of_mem _ hj)⟩
    · have hb : (((a.getD i 0 : Nat) : Int) == ((b.getD i 0 : Nat) : Int)) = false := beq_eq_false_iff_ne.2 (by omega)
      simp only [hb, Bool.not_false, if_true]
      have : decide (∀ j ∈ i :: is, a.getD j 0 = b.getD j 0) = false := by
        rw [decide_eq_false_iff_not]; intro hh; exact hab (hh i (by simp))
      rw [this]; rfl
theorem eql_nats {P : Program} (w : World) (t e : TypeId) (k : IntKind) (n : Nat) (ti : TypeInfo) (hu : P.underlying t = some (.array n e)) (he : P.underlying e = some (.int k)) (hi : P.info? e = some ti) (hs : ti.size = 1) (hc : P.cellsOf e = 1) (a b : List Nat) (ha : a.length = n) (hb : b.length = n) :
    (binOp .eql t (.agg (natsV k a).toArray) (.agg (natsV k b).toArray)).run P w = .ok (.bool (decide (a = b))) w := by
  rw [run_eql_struct, run_equalIn_array w 9999 _ _ hu hi, hc, eqItems_nats w 9998 e k he (by rw [hi]; simp [hs]) a b (List.range n) (fun i hi => by have := List.mem_range.1 hi; omega)]
  have : decide (∀ i ∈ List.range n, a.getD i 0 = b.getD i 0) = decide (a = b) := by
    rw [decide_eq_decide]
    constructor
    · intro h
      apply List.ext_getElem (by omega)
      intro i h1 h2
      have := h i (List.mem_range.2 (by omega))
      simpa [List.getD_eq_getElem?_getD, h1, h2] using this
    · intro h i _; rw [h]
  rw [this]; rfl
theorem cells22 : Tryd.prog.cellsOf 22 = 1 := by kernel_rfl
theorem info22 : (Tryd.prog.info? 22).map (·.size) = some 1 := by kernel_rfl
theorem eql23 (a b : List Nat) (ha : a.length = 25) (hb : b.length = 25) (w : World) : (binOp .eql 23 (.agg (natsV .u64 a).toArray) (.agg (natsV .u64 b).toArray)).run Tryd.prog w = .ok (.bool (decide (a = b))) w := by
  cases hq : Tryd.prog.info? 22 with
  | none => have := info22; simp [hq] at this
  | some ti =>
    have hs : ti.size = 1 := by have := info22; simpa [hq] using this
    exact eql_nats w 23 22 .u64 25 ti Tryd.underlying23 Tryd.underlying22 hq hs cells22 a b ha hb
/-- an array of words that came in -/
theorem words_in {H : Type} {enc : TypeId × Value → H} {W : World} {base : Nat} {v : Value} {d : DataW H} {p : List MemPlace} (hv : Value.okWide Tryd.prog W .any base 23 v)
    (h : DataW.Trod enc Tryd.prog W 0 (fun _ => true) true 23 v d p) : ∃ l, Good l ∧ v = .agg (natsV .u64 l).toArray := by
  have hv' : ∃ cs, v = .agg cs ∧ cs.size = Tryd.prog.cellsOf 23 ∧ Row.okWide Tryd.prog W .any base 23 cs := by
    have := hv
    simp only [Value.okWide, Tryd.underlying23] at this
    exact this
  obtain ⟨cs, rfl, hsz, _⟩ := hv'
  obtain ⟨fuel, hf⟩ := h
  obtain ⟨xs, m, rfl, hx, hl, hxl, hel⟩ := DataW.trod_array Tryd.underlying23 hf
  have c25 : Tryd.prog.cellsOf 23 = 25 := by kernel_rfl
  rw [c25] at hsz
  have each : ∀ i, i < 25 → ∃ z : Nat, z < 2 ^ 64 ∧ cs[i]? = some (.int .u64 (z : Int)) := by
    intro i hi
    have h1 := hel i hi
    rw [cells22, Nat.mul_one] at h1
    have hcl : cs.toList.length = 25 := by simpa using hsz
    have e1 : ((Value.agg cs).cells.toList.drop i).take 1 = [cs.toList[i]'(by omega)] := by
      show (cs.toList.drop i).take 1 = _
      rw [List.drop_eq_getElem_cons (by omega)]; rfl
    rw [e1] at h1
    have hxi : xs[i]? = some (xs[i]'(by omega)) := List.getElem?_eq_getElem (by omega)
    rw [hxi] at h1
    obtain ⟨z, hz1, _, hwf⟩ := DataW.trod_int Tryd.underlying22 h1
    have hb := bounds_u64 hwf
    obtain ⟨n, rfl⟩ := Int.eq_ofNat_of_zero_le hb.1
    refine ⟨n, by have := hb.2; omega, ?_⟩
    have : cs.toList[i]'(by omega) = .int .u64 (n : Int) := by simpa using hz1
    rw [← Array.getElem?_toList, List.getElem?_eq_getElem (by omega), this]
  have hnat : ∃ f : Nat → Nat, ∀ i, i < 25 → f i < 2 ^ 64 ∧ cs[i]? = some (.int .u64 (f i : Nat)) := by
    refine ⟨fun i => if h : i < 25 then (each i h).choose else 0, fun i hi => ?_⟩
    simp only [hi, dif_pos]
    exact (each i hi).choose_spec
  obtain ⟨f, hfn⟩ := hnat
  refine ⟨tell f 25, ⟨tell_length _ _, fun x hx => ?_⟩, ?_⟩
  · obtain ⟨i, hi, rfl⟩ := List.mem_map.1 hx
    exact (hfn i (List.mem_range.1 hi)).1
  · congr 1
    apply Array.ext
    · rw [hsz, size_nats, tell_length]
    · intro i h1 h2
      have h25 : i < 25 := by omega
      have := (hfn i h25).2
      rw [Array.getElem?_eq_getElem h1] at this
      have e2 := natsV_get .u64 (tell f 25) i (by rw [tell_length]; exact h25)
      rw [tell_get _ _ _ h25, ← Option.some.inj this, List.getElem?_eq_getElem (by simpa using h2)] at e2
      simpa using (Option.some.inj e2).symm
end Go.Proofs.YtidnlaibfkjgpaaDoor
