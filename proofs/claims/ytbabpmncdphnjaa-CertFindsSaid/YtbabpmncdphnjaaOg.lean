/- Figures' bytes, the project's and the document's. No condition. -/
import Derived.Test.YtbabpmncdphnjaaOq
import Derived.Test.YtbabpmncdphnjaaGq
import Derived.Test.YtbabpmncdphnjaaVu
namespace Go.Proofs.Ytbabpmncdphnjaa
open Go.RowKit
set_option linter.unusedVariables false
set_option maxRecDepth 100000
set_option linter.unusedSimpArgs false

/-- a row of the call's own, whole -/
theorem own_blk {w : World} {B g n cap : Nat} {l : List Nat} (h : w.ownsRow B 5 1 (.slice (some ⟨g, 0, none⟩) n cap) n (bytesV l)) : ∃ rest, Blk w g 5 (bytesV l ++ rest) ∧ (bytesV l ++ rest).length = cap ∧ n ≤ cap ∧ cap ≤ maxLen ∧ B ≤ g ∧ l.length = n := by
  have hl : l.length = n := by have := h.1; simpa [bytesV] using this
  rcases h.2 with ⟨h1, _⟩ | ⟨g', cap', cur, hv, hB, hg, h1, h2, h3, h4⟩
  · cases h1
  · injection hv with e1 e2 e3
    injection e1 with e1
    injection e1 with e1
    subst e1 e3
    refine ⟨cur.toList.drop n, ?_, ?_, h1, h2, hB, hl⟩
    · unfold Blk
      rw [← h4, Nat.mul_one, List.take_append_drop]
      simpa using hg
    · rw [← h4, Nat.mul_one, List.take_append_drop]
      simpa using h3
theorem blk_ownR {w : World} {B g n cap : Nat} {l : List Nat} {rest : List Value} (h : Blk w g 5 (bytesV l ++ rest)) (hc : (bytesV l ++ rest).length = cap) (hn : n ≤ cap) (hm : cap ≤ maxLen) (hB : B ≤ g) (hl : l.length = n) : w.ownsRow B 5 1 (.slice (some ⟨g, 0, none⟩) n cap) n (bytesV l) := by
  refine ⟨by simp [bytesV, hl], .inr ⟨g, cap, _, rfl, hB, h, hn, hm, by simpa using hc, ?_⟩⟩
  show List.take (n * 1) (bytesV l ++ rest) = _
  rw [List.take_append_of_le_length (by simp [bytesV]; omega), List.take_of_length_le (by simp [bytesV]; omega)]
theorem stB5 {ops : Array Oper} {o : Oper} {a : Act} {g x : Nat} {t : TypeId} {p q : Operand} {z : Int} (hw : Region.wanted o (yielded ops a.tmps) = true) (ho : o.op = .store 5 p q) (hp : a.eval p = .pointer (some ⟨g, x, none⟩)) (hq : a.eval q = .int .u8 z) : StoresC Try.prog ops o g x t (.int .u8 z) a :=
  StoresC.mk hw (fun w old hb hx => by
    have hc := hb.cell x
    have hf := hb.free x
    rw [List.getElem?_eq_getElem hx] at hc
    unfold execOp
    simp only [ho, hp, hq]
    go_simp)
theorem bytesV_set2 (l : List Nat) (rest : List Value) (i x : Nat) (h : i < l.length) : (bytesV l ++ rest).set i (.int .u8 (x : Nat)) = bytesV (l.set i x) ++ rest := by
  rw [List.set_append_left _ _ (by simpa [bytesV] using h), bytesV_set]
theorem getD_set_nat (l : List Nat) (i j x : Nat) (hi : i < l.length) : (l.set i x).getD j 0 = if i = j then x else l.getD j 0 := by
  simp only [List.getD_eq_getElem?_getD, List.getElem?_set]
  split
  · rename_i h; subst h; simp [hi]
  · rfl
theorem rev_of {S l : List Nat} (h1 : S.length = l.length) (h2 : ∀ i, i < l.length → S.getD i 0 = l.getD (l.length - 1 - i) 0) : S = l.reverse := by
  apply List.ext_getElem (by simpa using h1)
  intro i g1 g2
  have := h2 i (by omega)
  rw [List.getElem_reverse]
  simpa [List.getD_eq_getElem?_getD, List.getElem?_eq_getElem g1, List.getElem?_eq_getElem (show l.length - 1 - i < l.length by omega)] using this

set_option maxHeartbeats 4000000 in
theorem Reverse_any (w : World) (B g n cap : Nat) (l : List Nat) (hn : 1 ≤ n) (hbig : n ≤ 1000) (hl8 : ∀ x ∈ l, x < 256) (hown : w.ownsRow B 5 1 (.slice (some ⟨g, 0, none⟩) n cap) n (bytesV l)) :
    Calls Try.prog 90 #[.slice (some ⟨g, 0, none⟩) n cap] w fun e w' => e = .returned (.tuple #[]) ∧ w'.ownsRow B 5 1 (.slice (some ⟨g, 0, none⟩) n cap) n (bytesV l.reverse) ∧ w.grownBy w' (some g) := by
  obtain ⟨rest, hb, hc, hnc, hcm, hBg, hln⟩ := own_blk hown
  have HB := Lib.hid hb
  have HC := Lib.hid hc
  have HL := Lib.hid hln
  have HM := Lib.hid hcm
  have HBG := Lib.hid hBg
  clear hown hb hc hln hcm hBg hl8
  obtain ⟨n1, rfl⟩ : ∃ m, n = m + 1 := ⟨n - 1, by omega⟩
  go_enter Try.func90, Try.ntmps90
  go_wp2_with fail
  go_loopw [2, 3] (fun i j wr => ∃ (p q : Nat) (S : List Nat), i = .int .i64 (p : Nat) ∧ j = .int .i64 (q : Nat) ∧ p + q = n1 ∧ S.length = n1 + 1 ∧ (∀ x, x < n1 + 1 → S.getD x 0 = if x < p ∨ q < x then l.getD (n1 - x) 0 else l.getD x 0) ∧ Blk wr g 5 (bytesV S ++ rest) ∧ w.grownBy wr (some g)) (fun _ j _ => (intOf j).toNat)
  case atStart => exact ⟨0, n1, l, rfl, by go_num, by omega, HL.out, fun x hx => by rw [if_neg (by omega)], HB.out, grown_refl w _⟩
  case round =>
    obtain ⟨p, q, S, rfl, rfl, hpq, hS, hSx, hbr, hgr⟩ := hrel
    have HS := Lib.hid hS
    have HSX := Lib.hid hSx
    have HBR := Lib.hid hbr
    have HGR := Lib.hid hgr
    clear hS hSx hbr hgr
    by_cases hlt : p < q
    · have hi : (p : Int) < (q : Int) := by omega
      have b1 : (p : Int) < (n1 : Int) + 1 := by omega
      have b2 : (q : Int) < (n1 : Int) + 1 := by omega
      have cp := HBR.out.cell p
      have cq := HBR.out.cell q
      have hbl : (bytesV S).length = n1 + 1 := by simp [bytesV, HS.out]
      have eS : ∀ x, x < n1 + 1 → (bytesV S ++ rest)[x]? = some (.int .u8 (S.getD x 0 : Nat)) := fun x hx => by
        rw [List.getElem?_append_left (by omega)]
        simp [bytesV, List.getD_eq_getElem?_getD, List.getElem?_eq_getElem (show x < S.length by rw [HS.out]; exact hx)]
      rw [eS p (by omega)] at cp
      rw [eS q (by omega)] at cq
      clear eS
      have HSP := Lib.hid (HSX.out p (by omega))
      have HSQ := Lib.hid (HSX.out q (by omega))
      obtain ⟨xp, hxp⟩ : ∃ x, S.getD p 0 = x := ⟨_, rfl⟩
      obtain ⟨xq, hxq⟩ : ∃ x, S.getD q 0 = x := ⟨_, rfl⟩
      rw [hxp] at cp HSP
      rw [hxq] at cq HSQ
      have HBL := Lib.hid hbl
      clear hxp hxq hbl
      go_wp2_with fail
      refine wp_region_L (fun w_ => Below wr.heap.size wr w_) [13, 15] [0, 1, 2, 3, 4, 5, 6, 8, 9, 10, 12, 13, 14, 15] (by kernel_rfl) (Below.refl _ _).drew ?_
      refine wpAnyL_pure (fun _ _ hS_ hb_ => gr_bel hS_ hb_) (i := 0) rfl (by kernel_rfl) (fun _ _ _ h => h) (pureG (by rfl) (by intro w_; go_simp; first | done | with_reducible rfl)) ?_
      try simp only [Act.put, List.getElem_toArray, List.getElem_cons_succ, List.getElem_cons_zero, List.setIfInBounds_toArray, List.set_cons_zero, List.set_cons_succ]
      refine wpAnyL_pure (fun _ _ hS_ hb_ => gr_bel hS_ hb_) (i := 1) rfl (by kernel_rfl) (fun _ _ _ h => h) (pureG (by rfl) (by intro w_; go_simp; first | done | with_reducible rfl)) ?_
      try simp only [Act.put, List.getElem_toArray, List.getElem_cons_succ, List.getElem_cons_zero, List.setIfInBounds_toArray, List.set_cons_zero, List.set_cons_succ]
      refine wpAnyL_pure (fun _ _ hS_ hb_ => gr_bel hS_ hb_) (i := 2) rfl (by kernel_rfl) (fun _ _ _ h => h) (pureG (by rfl) (by intro w_; go_simp; first | done | with_reducible rfl)) ?_
      try simp only [Act.put, List.getElem_toArray, List.getElem_cons_succ, List.getElem_cons_zero, List.setIfInBounds_toArray, List.set_cons_zero, List.set_cons_succ]
      refine wpAnyL_pure (fun _ _ hS_ hb_ => gr_bel hS_ hb_) (i := 3) rfl (by kernel_rfl) (fun _ _ _ h => h) (pureG (by rfl) (by intro w_; go_simp; first | done | with_reducible rfl)) ?_
      try simp only [Act.put, List.getElem_toArray, List.getElem_cons_succ, List.getElem_cons_zero, List.setIfInBounds_toArray, List.set_cons_zero, List.set_cons_succ]
      refine wpAnyL_pure (fun _ _ hS_ hb_ => gr_bel hS_ hb_) (i := 4) rfl (by kernel_rfl) (fun _ _ _ h => h) (pureG (by rfl) (by intro w_; go_simp; first | done | with_reducible rfl)) ?_
      try simp only [Act.put, List.getElem_toArray, List.getElem_cons_succ, List.getElem_cons_zero, List.setIfInBounds_toArray, List.set_cons_zero, List.set_cons_succ]
      refine wpAnyL_pure (fun _ _ hS_ hb_ => gr_bel hS_ hb_) (i := 5) rfl (by kernel_rfl) (fun _ _ _ h => h) (pureG (by rfl) (by intro w_; go_simp; first | done | with_reducible rfl)) ?_
      try simp only [Act.put, List.getElem_toArray, List.getElem_cons_succ, List.getElem_cons_zero, List.setIfInBounds_toArray, List.set_cons_zero, List.set_cons_succ]
      refine wpAnyL_pure (fun _ _ hS_ hb_ => gr_bel hS_ hb_) (i := 6) rfl (by kernel_rfl) (fun _ _ _ h => h) (pureG (by rfl) (by intro w_; go_simp; first | done | with_reducible rfl)) ?_
      try simp only [Act.put, List.getElem_toArray, List.getElem_cons_succ, List.getElem_cons_zero, List.setIfInBounds_toArray, List.set_cons_zero, List.set_cons_succ]
      refine wpAnyL_take (fun _ _ hS_ hb_ => gr_bel hS_ hb_) (i := 7) rfl (by kernel_rfl) (fun _ _ _ h => h) (worldG (by rfl) (by intro w_ hS_; have q := (hS_.cell (World.block_lt_of_cell? wr _ cq)).trans cq; go_simp; first | done | with_reducible rfl)) ?_
      try simp only [Act.put, List.getElem_toArray, List.getElem_cons_succ, List.getElem_cons_zero, List.setIfInBounds_toArray, List.set_cons_zero, List.set_cons_succ]
      refine wpAnyL_pure (fun _ _ hS_ hb_ => gr_bel hS_ hb_) (i := 8) rfl (by kernel_rfl) (fun _ _ _ h => h) (pureG (by rfl) (by intro w_; go_simp; first | done | with_reducible rfl)) ?_
      try simp only [Act.put, List.getElem_toArray, List.getElem_cons_succ, List.getElem_cons_zero, List.setIfInBounds_toArray, List.set_cons_zero, List.set_cons_succ]
      refine wpAnyL_pure (fun _ _ hS_ hb_ => gr_bel hS_ hb_) (i := 9) rfl (by kernel_rfl) (fun _ _ _ h => h) (pureG (by rfl) (by intro w_; go_simp; first | done | with_reducible rfl)) ?_
      try simp only [Act.put, List.getElem_toArray, List.getElem_cons_succ, List.getElem_cons_zero, List.setIfInBounds_toArray, List.set_cons_zero, List.set_cons_succ]
      refine wpAnyL_pure (fun _ _ hS_ hb_ => gr_bel hS_ hb_) (i := 10) rfl (by kernel_rfl) (fun _ _ _ h => h) (pureG (by rfl) (by intro w_; go_simp; first | done | with_reducible rfl)) ?_
      try simp only [Act.put, List.getElem_toArray, List.getElem_cons_succ, List.getElem_cons_zero, List.setIfInBounds_toArray, List.set_cons_zero, List.set_cons_succ]
      refine wpAnyL_take (fun _ _ hS_ hb_ => gr_bel hS_ hb_) (i := 11) rfl (by kernel_rfl) (fun _ _ _ h => h) (worldG (by rfl) (by intro w_ hS_; have q := (hS_.cell (World.block_lt_of_cell? wr _ cp)).trans cp; go_simp; first | done | with_reducible rfl)) ?_
      try simp only [Act.put, List.getElem_toArray, List.getElem_cons_succ, List.getElem_cons_zero, List.setIfInBounds_toArray, List.set_cons_zero, List.set_cons_succ]
      refine wpAnyL_pure (fun _ _ hS_ hb_ => gr_bel hS_ hb_) (i := 12) rfl (by kernel_rfl) (fun _ _ _ h => h) (pureG (by rfl) (by intro w_; go_simp; first | done | with_reducible rfl)) ?_
      try simp only [Act.put, List.getElem_toArray, List.getElem_cons_succ, List.getElem_cons_zero, List.setIfInBounds_toArray, List.set_cons_zero, List.set_cons_succ]
      refine wpAnyL_cellK (i := 13) (g := g) (x := p) (t := 5) (u := .int .u8 (xq : Nat)) (by kernel_rfl) rfl (by decide) (by kernel_rfl) (by decide) HBR.out.drew (by rw [List.length_append, HBL.out]; omega) (stB5 (by rfl) rfl rfl rfl) ?_
      intro W1 hg1 hb1
      try simp only [Act.put, List.getElem_toArray, List.getElem_cons_succ, List.getElem_cons_zero, List.setIfInBounds_toArray, List.set_cons_zero, List.set_cons_succ]
      refine wpAnyL_pure (fun _ _ hS_ hb_ => gr_bel hS_ hb_) (i := 14) rfl (by kernel_rfl) (fun _ _ _ h => h) (pureG (by rfl) (by intro w_; go_simp; first | done | with_reducible rfl)) ?_
      try simp only [Act.put, List.getElem_toArray, List.getElem_cons_succ, List.getElem_cons_zero, List.setIfInBounds_toArray, List.set_cons_zero, List.set_cons_succ]
      refine wpAnyL_cell (i := 15) (g := g) (x := q) (t := 5) (u := .int .u8 (xp : Nat)) (by kernel_rfl) (by kernel_rfl) rfl (by decide) (by kernel_rfl) (by decide) hb1 (by rw [List.length_set, List.length_append, HBL.out]; omega) (stB5 (by rfl) rfl rfl rfl) ?_
      intro W2 hg2 hb2
      try simp only [Act.put, List.getElem_toArray, List.getElem_cons_succ, List.getElem_cons_zero, List.setIfInBounds_toArray, List.set_cons_zero, List.set_cons_succ]
      have hb3 : Blk W2 g 5 (bytesV ((S.set p xq).set q xp) ++ rest) := by
        rw [bytesV_set2 _ _ _ _ (by rw [HS.out]; omega), bytesV_set2 _ _ _ _ (by rw [List.length_set, HS.out]; omega)] at hb2; exact hb2
      have hg3 := grown_trans HGR.out (grown_trans (grown_below (Gr.drew wr) _) (grown_trans hg1 hg2))
      go_wp2_with fail
      go_roundw
      case rel =>
        refine ⟨p + 1, q - 1, (S.set p xq).set q xp, by go_num, by congr 1; omega, by omega, by simp [HS.out], ?_, hb3, hg3⟩
        intro x hx
        rw [getD_set_nat _ _ _ _ (by rw [List.length_set, HS.out]; omega), getD_set_nat _ _ _ _ (by rw [HS.out]; omega)]
        have e1 := HSX.out x hx
        have e2 := HSP.out
        have e3 := HSQ.out
        rw [if_neg (by omega)] at e2 e3
        by_cases hxq : q = x
        · subst hxq; rw [if_pos rfl, if_pos (by omega), e2, show n1 - q = p by omega]
        · rw [if_neg hxq]
          by_cases hxp : p = x
          · subst hxp; rw [if_pos rfl, if_pos (by omega), e3, show n1 - p = q by omega]
          · rw [if_neg hxp, e1]
            by_cases hc : x < p ∨ q < x
            · rw [if_pos hc, if_pos (by omega)]
            · rw [if_neg hc, if_neg (by omega)]
      case measure => simp [intOf]; omega
    · have hi : ¬ (p : Int) < (q : Int) := by omega
      have HR := Lib.hid (rev_of (S := S) (l := l) (by rw [HS.out, HL.out]) (fun x hx => by
        rw [HSX.out x (by rw [← HL.out]; exact hx), HL.out, show n1 + 1 - 1 - x = n1 - x by omega]
        rw [HL.out] at hx
        split
        · rfl
        · rename_i h; rw [show x = n1 - x by omega, show n1 - (n1 - x) = n1 - x by omega]))
      have HF := Lib.hid (HGR.out)
      have hb3 := HBR.out
      rw [HR.out] at hb3
      have hown := blk_ownR (B := B) (cap := cap) hb3 (by have := HC.out; simp [bytesV] at this ⊢; exact this) hnc HM.out HBG.out (by simp [HL.out])
      have HO := Lib.hid hown
      clear hb3 hown
      go_wp2_with fail
      go_end0
      exact ⟨rfl, HO.out, HF.out⟩
end Go.Proofs.Ytbabpmncdphnjaa
