/- There and back: what is unpacked is packed as the same bytes, and the other way round: plain mathematics. No condition. -/
import Derived.Test.YtkpbephjjhfigaaRFd
namespace Go.Proofs.YtkpbephjjhfigaaR
open Go.RowKit
set_option linter.unusedVariables false
set_option linter.unusedSimpArgs false
theorem pln_takP {s : Nat} {L : List Nat} : inB s (takP s L) = true := inB_iff.2 fun i hi => by
  rw [takP_get s L i hi]
  have h := takN_lt s L i
  unfold takI
  rw [pw_int]; omega
theorem natL_takP {s : Nat} {L : List Nat} (i : Nat) (hi : i < 256) : natL (takP s L) i = takN s L i := by
  unfold natL; rw [takP_get s L i hi]; rfl
theorem lay_takP {s : Nat} {L : List Nat} (hL : ∀ x ∈ L, x < 256) (hl : L.length = 32 * s) : layN s (natL (takP s L)) = L := by
  rw [layN_congr (y := takN s L) (fun i hi => natL_takP i hi)]
  exact layN_takN hL hl
theorem fu_back {L : List Nat} {bits : Int} (hL : ∀ x ∈ L, x < 256) (h : fuE L bits = 0) : upE (fuP L bits) bits = 0 ∧ upL (fuP L bits) bits = L := by
  unfold fuE at h
  by_cases h1 : 1 ≤ bits ∧ bits ≤ 23
  · rw [if_pos h1] at h
    by_cases h2 : L.length = 32 * bits.toNat
    · rw [if_pos h2] at h
      by_cases h3 : pln (takP bits.toNat L) = true
      · have e : fuP L bits = takP bits.toNat L := if_pos ⟨h1, h2, h3⟩
        rw [e]
        obtain ⟨a, b⟩ := up_yes (l := takP bits.toNat L) h1 ⟨h3, pln_takP⟩
        exact ⟨a, by rw [b]; exact lay_takP hL h2⟩
      · rw [if_neg h3] at h; omega
    · rw [if_neg h2] at h; omega
  · rw [if_neg h1] at h; omega
theorem takP_layN {s : Nat} {l : List Int} (hl : l.length = 256) (h : inB s l = true) : takP s (layN s (natL l)) = l := by
  conv => rhs; rw [← tellI_self l, hl]
  refine tellI_congr fun i hi => ?_
  unfold takI
  rw [takN_layN (fun j hj => (inB_nat h j hj).1) hi]
  exact (inB_nat h i hi).2.symm
theorem inB_23 {l : List Int} (hl : l.length = 256) (h : pln l = true) : inB 23 l = true := inB_iff.2 fun i hi => by
  have := (pln_iff hl).1 h i hi
  omega
theorem up_back {q : List Int} (hq : q.length = 256) (hp : pln q = true) : upE q 23 = 0 ∧ (upL q 23).length = 736 ∧ fuE (upL q 23) 23 = 0 ∧ fuP (upL q 23) 23 = q := by
  have hr : (1 : Int) ≤ 23 ∧ (23 : Int) ≤ 23 := by decide
  obtain ⟨a, b⟩ := up_yes (l := q) (bits := 23) hr ⟨hp, inB_23 hq hp⟩
  have hl : (upL q 23).length = 32 * (23 : Int).toNat := by rw [b]; exact layN_length _ _
  have ht : takP (23 : Int).toNat (upL q 23) = q := by rw [b]; exact takP_layN hq (inB_23 hq hp)
  refine ⟨a, hl, ?_, ?_⟩
  · unfold fuE
    rw [if_pos hr, if_pos hl, ht, if_pos hp]
  · unfold fuP
    rw [if_pos ⟨hr, hl, by rw [ht]; exact hp⟩, ht]
theorem cen_mod {c : Int} (h1 : -4190208 ≤ c) (h2 : c ≤ 4190208) : cen (c % 8380417) = c := by unfold cen; split <;> omega
theorem mod_cen {x : Int} (h1 : 0 ≤ x) (h2 : x < 8380417) : cen x % 8380417 = x := by unfold cen; split <;> omega
theorem fd_back {L : List Nat} {bits : Int} (hL : ∀ x ∈ L, x < 256) (h : fdE L 524288 bits = 0) : dnE (fdP L 524288 bits) 524288 bits = 0 ∧ dnL (fdP L 524288 bits) 524288 bits = L := by
  unfold fdE at h
  by_cases h1 : cgd 524288 bits = true
  · rw [if_pos h1] at h
    by_cases h2 : L.length = 32 * bits.toNat
    · rw [if_pos h2] at h
      by_cases h3 : fdOk 524288 bits.toNat L = true
      · have e : fdP L 524288 bits = rdL (fdC 524288 bits.toNat L) := if_pos ⟨h1, h2, h3⟩
        rw [e]
        have hd : dnP 524288 (rdL (fdC 524288 bits.toNat L)) = takP bits.toNat L := by
          refine tellI_congr fun i hi => ?_
          have h4 := fdOk_iff.1 h3 i hi
          have h5 : 0 ≤ takI bits.toNat L i := by unfold takI; omega
          unfold dnI
          rw [show (rdL (fdC 524288 bits.toNat L)).getD i 0 = rI (fdC 524288 bits.toNat L) i from tellI_get _ _ _ hi]
          unfold rI
          rw [show (fdC 524288 bits.toNat L).getD i 0 = fdI 524288 bits.toNat L i from tellI_get _ _ _ hi]
          have h6 := fdI_eq 524288 bits.toNat L i
          rw [cen_mod h4 (by omega), h6]
          omega
        constructor
        · unfold dnE
          rw [if_pos h1, hd, if_pos ⟨pln_rd _, pln_takP⟩]
        · unfold dnL
          rw [hd, if_pos ⟨h1, pln_rd _, pln_takP⟩]
          exact lay_takP hL h2
      · rw [if_neg h3] at h; omega
    · rw [if_neg h2] at h; omega
  · rw [if_neg h1] at h; omega
theorem dn_back {q : List Int} (hq : q.length = 256) (hp : pln q = true) (h : dnE q 524288 20 = 0) : (dnL q 524288 20).length = 640 ∧ fdE (dnL q 524288 20) 524288 20 = 0 ∧ fdP (dnL q 524288 20) 524288 20 = q := by
  have hg : cgd 524288 20 = true := by decide
  unfold dnE at h
  rw [if_pos hg] at h
  by_cases hi : pln q = true ∧ inB (20 : Int).toNat (dnP 524288 q) = true
  · have e : dnL q 524288 20 = layN (20 : Int).toNat (natL (dnP 524288 q)) := if_pos ⟨hg, hi⟩
    have hl : (dnL q 524288 20).length = 32 * (20 : Int).toNat := by rw [e]; exact layN_length _ _
    have ht : takP (20 : Int).toNat (dnL q 524288 20) = dnP 524288 q := by rw [e]; exact takP_layN (dnP_len _ _) hi.2
    have hf : ∀ i, i < 256 → fdI 524288 (20 : Int).toNat (dnL q 524288 20) i = cen (q.getD i 0) := fun i hi => by
      have h1 := takP_get (20 : Int).toNat (dnL q 524288 20) i hi
      rw [ht, dnP_get _ _ _ hi] at h1
      unfold fdI
      rw [← h1]; unfold dnI; omega
    have ho : fdOk 524288 (20 : Int).toNat (dnL q 524288 20) = true := fdOk_iff.2 fun i hi => by
      rw [hf i hi]
      exact (cen_bd ((pln_iff hq).1 hp i hi)).1
    refine ⟨hl, ?_, ?_⟩
    · unfold fdE
      rw [if_pos hg, if_pos hl, if_pos ho]
    · unfold fdP
      rw [if_pos ⟨hg, hl, ho⟩]
      conv => rhs; rw [← tellI_self q, hq]
      refine tellI_congr fun i hi => ?_
      unfold rI
      rw [show (fdC 524288 (20 : Int).toNat (dnL q 524288 20)).getD i 0 = _ from tellI_get _ _ _ hi, hf i hi]
      have := (pln_iff hq).1 hp i hi
      exact mod_cen this.1 this.2
  · rw [if_neg hi] at h; omega
theorem fuP_IsP (L : List Nat) (bits : Int) : IsP (fuP L bits) := by
  unfold fuP; split
  · rename_i h
    exact takP_IsP (by omega) L
  · exact IsP_pln zerI_length (by decide +kernel)
theorem fdP_IsP (L : List Nat) (top bits : Int) : IsP (fdP L top bits) := by
  unfold fdP; split
  · exact IsP_rd _
  · exact IsP_pln zerI_length (by decide +kernel)
end Go.Proofs.YtkpbephjjhfigaaR
