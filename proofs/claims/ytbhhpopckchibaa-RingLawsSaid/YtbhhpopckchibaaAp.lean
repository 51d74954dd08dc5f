/- Are all polynomials plain? Condition: the coefficients are 32-bit numbers. -/
import Derived.Test.YtbhhpopckchibaaRa
import Derived.Test.YtbhhpopckchibaaZe
namespace Go.Proofs.Ytbhhpopckchibaa
open Go.RowKit
set_option linter.unusedVariables false
set_option linter.unusedSimpArgs false
theorem eqin23 (a b : List Int) (ha : a.length = 256) (hb : b.length = 256) (w : World) : (Op.equalIn 10000 23 (.agg (iv a).toArray) (.agg (iv b).toArray)).run Try.prog w = .ok (decide (a = b)) w := by
  have h := eql23 a b ha hb w
  rw [run_eql_struct] at h
  cases hr : (Op.equalIn 10000 23 (.agg (iv a).toArray) (.agg (iv b).toArray)).run Try.prog w with
  | ok v w2 =>
    rw [hr] at h
    simp only [Result.andThen_ok, Result.ok.injEq, Value.bool.injEq] at h
    obtain ⟨h1, h2⟩ := h
    subst h2; rw [h1]
  | halt x w2 => rw [hr] at h; cases h
/-- a block that holds polynomials one behind the other -/
def Rw (w : World) (g : Nat) (L : List (List Int)) : Prop := ∀ i, i < L.length → w.rangeAt g (i * 256) (iv (L.getD i []))
theorem Rw.gr {w w' : World} {g : Nat} {L : List (List Int)} (h : Rw w g L) (hb : Below w.heap.size w w') : Rw w' g L := fun i hi => range_gr (h i hi) hb
def allP (L : List (List Int)) : Bool := L.all pln
theorem allP_no {L : List (List Int)} (i : Nat) (hi : i < L.length) (h : pln (L.getD i []) = false) : allP L = false := by
  cases ha : allP L with
  | false => rfl
  | true =>
    have := List.all_eq_true.1 ha (L.getD i []) (by rw [List.getD_eq_getElem?_getD, List.getElem?_eq_getElem hi]; exact List.getElem_mem _)
    rw [h] at this; cases this
theorem allP_yes {L : List (List Int)} (h : ∀ i, i < L.length → pln (L.getD i []) = true) : allP L = true := by
  unfold allP
  rw [List.all_eq_true]
  intro x hx
  obtain ⟨i, hi, rfl⟩ := List.mem_iff_getElem.1 hx
  have := h i hi
  rwa [List.getD_eq_getElem?_getD, List.getElem?_eq_getElem hi] at this
set_option maxRecDepth 100000 in
set_option maxHeartbeats 4000000 in
theorem allPlain_any (g : Nat) (L : List (List Int)) (hk : L.length ≤ 2) (hL : ∀ i, i < L.length → IsP (L.getD i [])) (w : World) (hw : Rw w g L) :
    Calls Try.prog 35 #[.slice (some ⟨g, 0, none⟩) L.length L.length] w fun e w' => e = .returned (.bool (allP L)) ∧ Below w.heap.size w w' := by
  have HL := Lib.hid hL
  have HW := Lib.hid hw
  have HN := Lib.hid (@allP_no L)
  have HY := Lib.hid (@allP_yes L)
  obtain ⟨k, hk2⟩ : ∃ k, L.length = k := ⟨_, rfl⟩
  have HK := Lib.hid hk2
  unfold Rw at HW
  rw [hk2] at hk HL HW HN HY ⊢
  clear hL hw hk2
  generalize allP L = b at *
  go_enter Try.func35, Try.ntmps35
  go_wp2_with fail
  go_loopw [7] (fun c wr => ∃ t : Nat, t ≤ k ∧ c = .int .i64 t ∧ (∀ i, i < t → pln (L.getD i []) = true) ∧ Below w.heap.size w wr) (fun c _ => k - (intOf c).toNat)
  case atStart => exact ⟨0, by omega, rfl, fun i hi => absurd hi (Nat.not_lt_zero i), Below.refl _ _⟩
  case round =>
    obtain ⟨t, ht, rfl, hall, hbel⟩ := hrel
    have HA := Lib.hid hall
    have HB := Lib.hid hbel
    clear hall hbel
    by_cases h5 : t < k
    · obtain ⟨LL, hbd⟩ := HL.out t h5
      have HP := Lib.hid (show IsP (L.getD t []) from ⟨LL, hbd⟩)
      have HLL := Lib.hid LL
      have HR := Lib.hid (range_gr (HW.out t h5) HB.out)
      have HNT := Lib.hid (HN.out t h5)
      have HSU := Lib.hid (fun (hx : pln (L.getD t []) = true) => show ∀ i, i < t + 1 → pln (L.getD i []) = true from fun i hi => by
        by_cases e : i = t
        · subst e; exact hx
        · exact HA.out i (by omega))
      clear LL hbd
      generalize L.getD t [] = l at *
      have HRD := Lib.hid (Reduce_any l HP.out)
      have HPI := Lib.hid (rd_pln (l := l) HLL.out)
      have HPL := Lib.hid (PL_length (rdF l))
      generalize PL (rdF l) = m at *
      have i1 : (t : Int) < (k : Int) := by omega
      have i2 : t * 256 + 256 ≤ 512 := by omega
      have z23 := zero23
      go_wp2_with (first | (refine wpList_load_mid rfl 23 (.tmp 9) rfl g (t * 256) rfl (iv l) _ HR.out Try.underlying23 rfl (i23 HLL.out) ?_) | (refine wpList_store_row rfl 23 (.tmp 4) (.tmp 10) rfl wr.heap.size (iv l).toArray rfl rfl 23 (iv zerI).toArray (Blk.new wr 23 (iv zerI)) (j23 HLL.out) (by rw [iv_size, iv_size, HLL.out, zerI_length]) (iv_all _) ?_))
      have D4 := (Blk.new wr 23 (iv zerI)).setRow (iv l)
      have hb4 := below_setRow' (HB.out.alloc HB.out.size (.cells (iv zerI).toArray 23)) HB.out.size (iv l).toArray
      obtain ⟨w4, hw4⟩ : ∃ w4, (wr.alloc (.cells (iv zerI).toArray 23)).setRow wr.heap.size (iv l).toArray = w4 := ⟨_, rfl⟩
      rw [hw4] at D4 hb4 ⊢
      obtain ⟨g4, hg4⟩ : ∃ g4, wr.heap.size = g4 := ⟨_, rfl⟩
      rw [hg4] at D4 ⊢
      have K4 := Lib.hid D4
      have HB4 := Lib.hid hb4
      clear hw4 hg4 D4 hb4 HB z23
      obtain ⟨bb, hbb⟩ : ∃ bb, decide (m = l) = bb := ⟨_, rfl⟩
      have heq := fun w => eqin23 m l HPL.out HLL.out w
      rw [hbb] at heq
      have HBB := Lib.hid hbb
      clear hbb
      go_wp2_with fail
      refine wp_region_G (fun w_ => Blk w_ g4 23 (iv l)) 4 (by kernel_rfl) K4.out.drew ?_
      refine wpAnyG_take (oi := _) (v := _) (fun _ _ hS_ hb_ => hS_.gr hb_) (i := 0) rfl (by kernel_rfl) (fun _ _ _ h => h) (loadG (by rfl) _ _ rfl _ _ rfl (iv l) _ (fun _ hS_ => blk_all hS_) Try.underlying23 rfl (i23 HLL.out)) ?_
      try simp only [Act.put, List.getElem_toArray, List.getElem_cons_succ, List.getElem_cons_zero, List.setIfInBounds_toArray, List.set_cons_zero, List.set_cons_succ]
      refine wpAnyG_take (oi := _) (v := _) (fun _ _ hS_ hb_ => hS_.gr hb_) (i := 1) rfl (by kernel_rfl) (fun _ _ _ h => h) (callG (by rfl) rfl Try.func14 (by kernel_rfl) (by kernel_rfl) (#[.agg (iv l).toArray]) (by simp [Act.eval]) (fun W_ _ => HRD.out W_)) ?_
      try simp only [Act.put, List.getElem_toArray, List.getElem_cons_succ, List.getElem_cons_zero, List.setIfInBounds_toArray, List.set_cons_zero, List.set_cons_succ]
      refine wpAnyG_take (oi := _) (v := _) (fun _ _ hS_ hb_ => hS_.gr hb_) (i := 2) rfl (by kernel_rfl) (fun _ _ _ h => h) (loadG (by rfl) _ _ rfl _ _ rfl (iv l) _ (fun _ hS_ => blk_all hS_) Try.underlying23 rfl (i23 HLL.out)) ?_
      try simp only [Act.put, List.getElem_toArray, List.getElem_cons_succ, List.getElem_cons_zero, List.setIfInBounds_toArray, List.set_cons_zero, List.set_cons_succ]
      refine wpAnyG_take (oi := _) (v := _) (fun _ _ hS_ hb_ => hS_.gr hb_) (i := 3) rfl (by kernel_rfl) (fun _ _ _ h => h) (pureG (by rfl) (by intro w_; go_simp; first | done | with_reducible rfl)) ?_
      try simp only [Act.put, List.getElem_toArray, List.getElem_cons_succ, List.getElem_cons_zero, List.setIfInBounds_toArray, List.set_cons_zero, List.set_cons_succ]
      refine wpAnyG_done (by kernel_rfl) ?_ _
      intro w5 hg5
      have hb5 := HB4.out.drew.trans (Below.mono hg5 HB4.out.drew.size)
      clear heq hg5 K4 HB4
      cases bb with
      | true =>
        go_wp2_with fail
        go_roundw
        case rel => exact ⟨t + 1, by omega, by go_num, HSU.out (HPI.out.2 (of_decide_eq_true HBB.out)), hb5⟩
        case measure => simp [intOf]; omega
      | false =>
        go_wp2_with fail
        go_ret
        exact ⟨by rw [HNT.out (by cases hq : pln l with | false => rfl | true => exact absurd (HPI.out.1 hq) (of_decide_eq_false HBB.out))]; rfl, hb5⟩
    · obtain rfl : t = k := by omega
      go_wp2_with fail
      go_ret
      exact ⟨by rw [HY.out HA.out]; rfl, HB.out⟩
end Go.Proofs.Ytbhhpopckchibaa
