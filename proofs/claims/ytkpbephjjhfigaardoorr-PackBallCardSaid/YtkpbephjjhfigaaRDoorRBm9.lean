/- What a ball and a small polynomial are: plain mathematics; a seed's beginning in a list of its own. No condition. -/
import Derived.Test.YtkpbephjjhfigaaRDoorRSm9
namespace Go.Proofs.YtkpbephjjhfigaaRDoorR
open Go.RowKit
set_option linter.unusedVariables false
set_option linter.unusedSimpArgs false
theorem dCentred_any (c : Int) (h1 : 0 ≤ c) (h2 : c < 8380417) (w : World) : Calls Tryd.prog 12 #[.int .i32 c] w fun e w' => e = .returned (.int .i32 (cen c)) ∧ w = w' := by
  by_cases h : 4190208 < c
  · have e : cen c = c - 8380417 := if_pos h
    rw [e]; clear e
    go_enter Tryd.func12, Tryd.ntmps12
    go_wp2_with fail
    go_ret
    exact ⟨rfl, rfl⟩
  · have e : cen c = c := if_neg h
    rw [e]; clear e
    go_enter Tryd.func12, Tryd.ntmps12
    go_wp2_with fail
    go_ret
    exact ⟨rfl, rfl⟩
/-- how many of the first n coefficients are not 0 -/
def nzc (p : List Int) : Nat → Nat
  | 0 => 0
  | n + 1 => nzc p n + if p.getD n 0 = 0 then 0 else 1
theorem getD_set (p : List Int) (j : Nat) (v : Int) (i : Nat) (hj : j < p.length) : (p.set j v).getD i 0 = if i = j then v else p.getD i 0 := by
  simp only [List.getD_eq_getElem?_getD, List.getElem?_set]
  by_cases h : i = j
  · subst h; simp [hj]
  · rw [if_neg (fun e => h e.symm), if_neg h]
theorem nzc_out (p : List Int) (j : Nat) (v : Int) (hj : j < p.length) : ∀ n, n ≤ j → nzc (p.set j v) n = nzc p n
  | 0, _ => rfl
  | n + 1, h => by
    show nzc (p.set j v) n + _ = nzc p n + _
    have e : (p.set j v).getD n 0 = p.getD n 0 := by rw [getD_set p j v n hj, if_neg (by omega)]
    rw [nzc_out p j v hj n (by omega), e]
theorem nzc_set (p : List Int) (j : Nat) (v : Int) (hj : j < p.length) : ∀ n, j < n → nzc (p.set j v) n + (if p.getD j 0 = 0 then 0 else 1) = nzc p n + (if v = 0 then 0 else 1)
  | 0, h => by omega
  | n + 1, h => by
    show nzc (p.set j v) n + _ + _ = nzc p n + _ + _
    rw [getD_set p j v n hj]
    by_cases e : n = j
    · subst e
      rw [if_pos rfl, nzc_out p n v hj n (Nat.le_refl _)]; omega
    · have ih := nzc_set p j v hj n (by omega)
      rw [if_neg e]; omega
theorem nzc_le (p : List Int) : ∀ n, nzc p n ≤ n
  | 0 => Nat.le_refl _
  | n + 1 => by
    have := nzc_le p n
    show nzc p n + (if p.getD n 0 = 0 then 0 else 1) ≤ n + 1
    split <;> omega
def isBall (x : Int) : Prop := x = 0 ∨ x = 1 ∨ x = 8380416
def BInv (st : Nat × List Int) : Prop := st.2.length = 256 ∧ 207 ≤ st.1 ∧ st.1 ≤ 256 ∧ (∀ i, i < 256 → isBall (st.2.getD i 0)) ∧ (∀ i, st.1 ≤ i → i < 256 → st.2.getD i 0 = 0) ∧ nzc st.2 256 + 207 = st.1
theorem nzc_zer : ∀ n, nzc zerI n = 0
  | 0 => rfl
  | n + 1 => by show nzc zerI n + _ = 0; rw [nzc_zer n, zerI_get]; rfl
theorem BInv_step {sg : Nat} {st : Nat × List Int} {b : Nat} (h : BInv st) : BInv (bStep sg st b) := by
  obtain ⟨h1, h2, h3, h4, h5, h6⟩ := h
  unfold bStep
  split
  · rename_i hh
    obtain ⟨hi, hb⟩ := hh
    have hv : ∀ c : Prop, [Decidable c] → isBall (if c then 8380416 else 1 : Int) ∧ (if c then 8380416 else 1 : Int) ≠ 0 := fun c _ => by
      by_cases h : c
      · rw [if_pos h]; exact ⟨.inr (.inr rfl), by decide⟩
      · rw [if_neg h]; exact ⟨.inr (.inl rfl), by decide⟩
    obtain ⟨v1, v2⟩ := hv (sg / 2 ^ (st.1 - 207) % 2 = 1)
    generalize (if sg / 2 ^ (st.1 - 207) % 2 = 1 then 8380416 else 1 : Int) = v at *
    obtain ⟨i, p⟩ := st
    simp only at *
    have l1 : (p.set i (p.getD b 0)).length = 256 := by simpa using h1
    have g1 := fun x => getD_set p i (p.getD b 0) x (by omega)
    have g2 := fun x => getD_set (p.set i (p.getD b 0)) b v x (by omega)
    have hp0 := h5 i (Nat.le_refl _) hi
    refine ⟨by simpa using h1, by omega, by omega, ?_, ?_, ?_⟩
    · intro x hx
      rw [g2, g1]
      split
      · exact v1
      · split
        · exact h4 b (by omega)
        · exact h4 x hx
    · intro x hx hx2
      rw [g2, g1, if_neg (by omega), if_neg (by omega)]
      exact h5 x (by omega) hx2
    · show nzc ((p.set i (p.getD b 0)).set b v) 256 + 207 = i + 1
      have n1 := nzc_set p i (p.getD b 0) (by omega) 256 hi
      have n2 := nzc_set (p.set i (p.getD b 0)) b v (by omega) 256 (by omega)
      rw [g1] at n2
      rw [hp0, if_pos rfl] at n1
      rw [if_neg v2] at n2
      by_cases e : b = i
      · subst e
        rw [if_pos rfl, hp0, if_pos rfl] at n2
        rw [hp0, if_pos rfl] at n1
        rw [hp0] at *
        omega
      · rw [if_neg e] at n2
        omega
  · exact ⟨h1, h2, h3, h4, h5, h6⟩
theorem BInv_all (k : Nat) (L : List Nat) : ∀ n, BInv (bS k L n)
  | 0 => ⟨zerI_length, Nat.le_refl _, by show 207 ≤ 256; omega, fun i _ => .inl (zerI_get i), fun i _ _ => zerI_get i, by show nzc zerI 256 + 207 = 207; rw [nzc_zer]⟩
  | n + 1 => BInv_step (BInv_all k L n)
theorem fin_ball {st : Nat × List Int} (h : BInv st) : (finE st = 0 ∨ finE st = 94) ∧ (∀ i, i < 256 → isBall ((finP st).getD i 0)) ∧ (finE st = 0 → nzc (finP st) 256 = 49) := by
  obtain ⟨h1, h2, h3, h4, h5, h6⟩ := h
  unfold finE finP
  by_cases e : st.1 = 256
  · rw [if_pos e, if_pos e]; exact ⟨.inl rfl, h4, fun _ => by omega⟩
  · rw [if_neg e, if_neg e]; exact ⟨.inr rfl, fun i _ => .inl (zerI_get i), fun h => by cases h⟩
theorem ball_facts (k : Nat) (L : List Nat) : (blE k L = 0 ∨ blE k L = 94) ∧ (∀ i, i < 256 → isBall ((blP k L).getD i 0)) ∧ (blE k L = 0 → nzc (blP k L) 256 = 49) := fin_ball (BInv_all k L 1000)
theorem cen_mod4 {c : Int} (h1 : -4 ≤ c) (h2 : c ≤ 4) : -4 ≤ cen (c % 8380417) ∧ cen (c % 8380417) ≤ 4 := by unfold cen; split <;> omega
theorem small_facts (k : Nat) (L : List Nat) (M : Nat) : (fiE (accL (smA k L) (smV k L) M) = 0 ∨ fiE (accL (smA k L) (smV k L) M) = 94) ∧ (∀ i, i < 256 → (0 ≤ (fiP (accL (smA k L) (smV k L) M)).getD i 0 ∧ (fiP (accL (smA k L) (smV k L) M)).getD i 0 < 8380417) ∧ -4 ≤ cen ((fiP (accL (smA k L) (smV k L) M)).getD i 0) ∧ cen ((fiP (accL (smA k L) (smV k L) M)).getD i 0) ≤ 4) := by
  refine ⟨by unfold fiE; split <;> simp, fun i hi => ?_⟩
  unfold fiP
  split
  · rw [show ∀ l, (rdL l).getD i 0 = rI l i from fun l => tellI_get _ _ _ hi]
    unfold rI
    rw [show ∀ l, (fpL l).getD i 0 = l.getD i 0 from fun l => tellI_get _ _ _ hi]
    have hb : ∀ l : List Int, (∀ x ∈ l, -4 ≤ x ∧ x ≤ 4) → -4 ≤ l.getD i 0 ∧ l.getD i 0 ≤ 4 := fun l hl => by
      by_cases h2 : i < l.length
      · rw [List.getD_eq_getElem?_getD, List.getElem?_eq_getElem h2]; exact hl _ (List.getElem_mem h2)
      · rw [List.getD_eq_getElem?_getD, List.getElem?_eq_none (by omega)]; simp
    have h4 := hb ((accL (smA k L) (smV k L) M).take 256) (fun x hx => by
      obtain ⟨y, _, h2, rfl⟩ := accL_mem (List.mem_of_mem_take hx)
      have : hvB k L y < 9 := of_decide_eq_true h2
      unfold smV; omega)
    generalize ((accL (smA k L) (smV k L) M).take 256).getD i 0 = c at *
    exact ⟨by omega, cen_mod4 h4.1 h4.2⟩
  · rw [zerI_get]; exact ⟨by omega, by decide, by decide⟩
theorem info5s : (Tryd.prog.info? 5).map (·.size) = some 1 := by kernel_rfl
/-- the beginning of a list, with noughts behind -/
def padL (d : Nat) (L : List Nat) : List Nat := L.take (Nat.min L.length d) ++ zeros (d - Nat.min L.length d)
theorem padL_len (d : Nat) (L : List Nat) : (padL d L).length = d := by
  have : Nat.min L.length d ≤ d := Nat.min_le_right _ _
  have h2 : Nat.min L.length d ≤ L.length := Nat.min_le_left _ _
  unfold padL
  generalize Nat.min L.length d = m at *
  simp [zeros]; omega
theorem padL_lt {d : Nat} {L : List Nat} (h : ∀ x ∈ L, x < 256) : ∀ x ∈ padL d L, x < 256 := by
  intro x hx
  rcases List.mem_append.1 hx with h1 | h1
  · exact h x (List.mem_of_mem_take h1)
  · rw [List.eq_of_mem_replicate h1]; decide
theorem splice_pad (d : Nat) (L : List Nat) : splice (natsV .u8 (zeros d)) 0 (natsV .u8 (L.take (Nat.min L.length d))) = natsV .u8 (padL d L) := by
  have h2 : Nat.min L.length d ≤ L.length := Nat.min_le_left _ _
  unfold splice padL
  rw [List.take_zero, List.nil_append, natsV_append, Nat.zero_add, natsV_length, List.length_take, natsV_drop]
  congr 2
  simp [zeros]
theorem copy_in {w : World} {A : Option Addr} {n c : Nat} {L : List Nat} (h : BIn w A n c L) (d : Nat) : (natsV .u8 (L.take (Nat.min L.length d))).length = Nat.min n d ∧
    (0 < (natsV .u8 (L.take (Nat.min L.length d))).length → ∃ ad, A = some ad ∧ ∀ j v, (natsV .u8 (L.take (Nat.min L.length d)))[j]? = some v → w.cell? (ad.add j) = some v) := by
  have hl := h.1.1
  have h2 : Nat.min L.length d ≤ L.length := Nat.min_le_left _ _
  have e : (natsV .u8 (L.take (Nat.min L.length d))).length = Nat.min L.length d := by rw [natsV_length, List.length_take]; omega
  refine ⟨by rw [e, hl], fun hp => ?_⟩
  rw [e] at hp
  obtain ⟨b, off, rfl, hc⟩ := h.1.2.2.2.resolve_left (by omega)
  refine ⟨_, rfl, fun j v hj => ?_⟩
  have hjl : j < Nat.min L.length d := by
    have := (List.getElem?_eq_some_iff.1 hj).1; omega
  have hadd : (⟨b, off, none⟩ : Addr).add j = ⟨b, off + j, none⟩ := by
    simp only [Addr.add]; split
    · rename_i h; subst h; rfl
    · rfl
  rw [hadd, hc j (by omega), ← hj]
  simp [natsV, List.getD_eq_getElem?_getD, List.getElem?_take, hjl, List.getElem?_eq_getElem (show j < L.length by omega)]
theorem bin_blk {w : World} {g : Nat} {l : List Nat} {d : Nat} (h : Blk w g 5 (natsV .u8 l)) (hl : l.length = d) (hd : d ≤ 100000) (hx : ∀ x ∈ l, x < 256) : BIn w (some ⟨g, 0, none⟩) d d l :=
  ⟨⟨hl, by unfold maxLen; omega, hx, .inr ⟨g, 0, rfl, fun i hi => by rw [Nat.zero_add]; exact h.nat i (by omega)⟩⟩, Nat.le_refl _, by unfold maxLen; omega, by omega, fun h => by cases h⟩
end Go.Proofs.YtkpbephjjhfigaaRDoorR
