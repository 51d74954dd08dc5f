/- Two arrays of bytes are equal just if the bytes are; the document's digest is the plain one. No condition. -/
import Derived.Test.YtnikhnpigopihaaDoorRefT
import Derived.ChangeKeysEq
import Derived.Laws.StructEq
namespace Go.Proofs.YtnikhnpigopihaaDoor
open Go.RowKit
set_option linter.unusedVariables false
theorem part_nats {P : Program} (w : World) (e : TypeId) (k : IntKind) (l : List Nat) (i : Nat) (he : P.underlying e = some (.int k)) (hz : (P.info? e).map (·.size) = some 1) (hi : i < l.length) :
    (part e (natsV k l).toArray (i * 1)).run P w = .ok (.int k (l.getD i 0 : Nat)) w := by
  have hg := natsV_get k l i hi
  cases hq : P.info? e with
  | none => simp [hq] at hz
  | some j =>
    have hs : j.size = 1 := by simpa [hq] using hz
    have h2 : (isAgg e).run P w = .ok false w := by unfold isAgg; rw [Sem.run_bind, run_underlying he w]; rfl
    simp [part, Sem.run_bind, h2, hg]
theorem eqItems_nats {P : Program} (w : World) (d : Nat) (e : TypeId) (k : IntKind) (he : P.underlying e = some (.int k)) (hz : (P.info? e).map (·.size) = some 1) (a b : List Nat) : ∀ is : List Nat, (∀ i ∈ is, i < a.length ∧ i < b.length) →
    (Op.eqItems (d + 1) e 1 (natsV k a).toArray (natsV k b).toArray is).run P w = .ok (decide (∀ i ∈ is, a.getD i 0 = b.getD i 0)) w
  | [], _ => by simp [Op.eqItems]
  | i :: is, h => by
    have hi := h i (by simp)
    have ih := eqItems_nats w d e k he hz a b is (fun j hj => h j (by simp [hj]))
    simp only [Op.eqItems, Sem.run_bind, part_nats w e k a i he hz hi.1, part_nats w e k b i he hz hi.2, Result.andThen_ok, run_equalIn_int w d e k k _ _ he]
    by_cases hab : a.getD i 0 = b.getD i 0
    · have hb : (((a.getD i 0 : Nat) : Int) == ((b.getD i 0 : Nat) : Int)) = true := by rw [hab]; simp
      simp only [hb, Bool.not_true, Bool.false_eq_true, if_false, ih]
      congr 1
      rw [decide_eq_decide]
      exact ⟨fun h j hj => (List.mem_cons.1 hj).elim (fun e => e ▸ hab) (h j), fun h j hj => h j (List.mem_cons_of_mem _ hj)⟩
    · have hb : (((a.getD i 0 : Nat) : Int) == ((b.getD i 0 : Nat) : Int)) = false := beq_eq_false_iff_ne.2 (by omega)
      simp only [hb, Bool.not_false, if_true]
      have : decide (∀ j ∈ i :: is, a.getD j 0 = b.getD j 0) = false := by
        rw [decide_eq_false_iff_not]; intro hh; exact hab (hh i (by simp))
      rw [this]; rfl
theorem eql_nats {P : Program} (w : World) (t e : TypeId) (k : IntKind) (n : Nat) (ti : TypeInfo) (hu : P.underlying t = some (.array n e)) (he : P.underlying e = some (.int k)) (hi : P.info? e = some ti) (hs : ti.size = 1) (hc : P.cellsOf e = 1) (a b : List Nat) (ha : a.length = n) (hb : b.length = n) :
    (binOp .eql t (.agg (natsV k a).toArray) (.agg (natsV k b).toArray)).run P w = .ok (.bool (decide (a = b))) w := by
  rw [run_eql_struct, run_equalIn_array w 9999 _ _ hu hi, hc, eqItems_nats w 9998 e k he (by rw [hi]; simp [hs]) a b (List.range n) (fun i hi => by have := List.mem_range.1 hi; omega)]
  have : decide (∀ i ∈ List.range n, a.getD i 0 = b.getD i 0) = decide (a = b) := by
    rw [decide_eq_decide]
    constructor
    · intro h
      apply List.ext_getElem (by omega)
      intro i h1 h2
      have := h i (List.mem_range.2 (by omega))
      simpa [List.getD_eq_getElem?_getD, h1, h2] using this
    · intro h i _; rw [h]
  rw [this]; rfl
theorem cells5 : Tryd.prog.cellsOf 5 = 1 := by kernel_rfl
theorem info5z : (Tryd.prog.info? 5).map (·.size) = some 1 := by kernel_rfl
theorem eqlT (t n : Nat) (hu : Tryd.prog.underlying t = some (.array n 5)) (a b : List Nat) (ha : a.length = n) (hb : b.length = n) (w : World) : (binOp .eql t (.agg (natsV .u8 a).toArray) (.agg (natsV .u8 b).toArray)).run Tryd.prog w = .ok (.bool (decide (a = b))) w := by
  cases hq : Tryd.prog.info? 5 with
  | none => have := info5z; simp [hq] at this
  | some ti =>
    have hs : ti.size = 1 := by have := info5z; simpa [hq] using this
    exact eql_nats w t 5 .u8 n ti hu Tryd.underlying5 hq hs cells5 a b ha hb
theorem eqT (t n : Nat) (hu : Tryd.prog.underlying t = some (.array n 5)) (a : List Nat) (ha : a.length = n) (w : World) : (binOp .eql t (.agg (natsV .u8 a).toArray) (.agg (natsV .u8 a).toArray)).run Tryd.prog w = .ok (.bool true) w := by
  have := eqlT t n hu a a ha ha w
  simpa using this
theorem pad_mod (k z n m : Nat) (hm : m = n % 2 ^ 64) (hk : 2 * wW k ∣ 2 ^ 64) (hz : z = (2 * (2 * wW k) - n % (2 * wW k) - 1 - 2 * wB k) % (2 * wW k)) (h8 : 4 ≤ wB k) : ([128] ++ zeros (z + (2 * wB k - 8))) ++ beB 8 (n * 8 % 2 ^ 64) = padN k m := by
  subst hm hz
  unfold padN padZ
  rw [Nat.mod_mod_of_dvd _ hk, show n % 2 ^ 64 * 8 % 2 ^ 64 = n * 8 % 2 ^ 64 from by omega]
  rw [show (2 * (2 * wW k) - n % (2 * wW k) - 1 - 2 * wB k) % (2 * wW k) + (2 * wB k - 8) = (2 * (2 * wW k) - n % (2 * wW k) - 1 - 2 * wB k) % (2 * wW k) + 2 * wB k - 8 from by omega]
  rfl
theorem padR_1 (n : Nat) : padR1 n n = padN 1 (n % 2 ^ 64) := pad_mod 1 (padQ1 n) n _ rfl ⟨2 ^ 58, by decide⟩ rfl (by decide)
theorem padR_2 (n : Nat) : padR2 n n = padN 2 (n % 2 ^ 64) := pad_mod 2 (padQ2 n) n _ rfl ⟨2 ^ 57, by decide⟩ rfl (by decide)
theorem padR_3 (n : Nat) : padR3 n n = padN 3 (n % 2 ^ 64) := pad_mod 3 (padQ3 n) n _ rfl ⟨2 ^ 57, by decide⟩ rfl (by decide)
theorem docD_is (k : Nat) (hk : 0 < wW k) (l p : List Nat) (hp : p = padN k (l.length % 2 ^ 64)) : docD k l p = msgD k l := by
  unfold docD msgD digN
  rw [hp, goes_append hk l.length (firstN k) l _ rfl]
theorem doc_1 (l : List Nat) : docD 1 l (padR1 l.length l.length) = msgD 1 l := docD_is 1 (by decide) l _ (padR_1 _)
theorem doc_2 (l : List Nat) : docD 2 l (padR2 l.length l.length) = msgD 2 l := docD_is 2 (by decide) l _ (padR_2 _)
theorem doc_3 (l : List Nat) : docD 3 l (padR3 l.length l.length) = msgD 3 l := docD_is 3 (by decide) l _ (padR_3 _)
end Go.Proofs.YtnikhnpigopihaaDoor
