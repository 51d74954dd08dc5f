/- Parts of proofs of statements, each text behind those that it stands on. No condition of its own. -/
import Derived.Test.YtbabpmncdphnjaaGreatQ03
import Derived.Test.YtbabpmncdphnjaaGreatQ08
namespace Go.Proofs.YtbabpmncdphnjaaGreat
open Go.RowKit
set_option linter.unusedVariables false
set_option maxRecDepth 100000
set_option linter.unusedSimpArgs false
theorem own_blk {w : World} {B g n cap : Nat} {l : List Nat} (h : w.ownsRow B 5 1 (.slice (some ⟨g, 0, none⟩) n cap) n (bytesV l)) : ∃ rest, Blk w g 5 (bytesV l ++ rest) ∧ (bytesV l ++ rest).length = cap ∧ n ≤ cap ∧ cap ≤ maxLen ∧ B ≤ g ∧ l.length = n := by
  have hl : l.length = n := by have := h.1; simpa [bytesV] using this
  rcases h.2 with ⟨h1, _⟩ | ⟨g', cap', cur, hv, hB, hg, h1, h2, h3, h4⟩
  · cases h1
  · injection hv with e1 e2 e3
    injection e1 with e1
    injection e1 with e1
    subst e1 e3
    refine ⟨cur.toList.drop n, ?_, ?_, h1, h2, hB, hl⟩
    · unfold Blk
      rw [← h4, Nat.mul_one, List.take_append_drop]
      simpa using hg
    · rw [← h4, Nat.mul_one, List.take_append_drop]
      simpa using h3
theorem blk_ownR {w : World} {B g n cap : Nat} {l : List Nat} {rest : List Value} (h : Blk w g 5 (bytesV l ++ rest)) (hc : (bytesV l ++ rest).length = cap) (hn : n ≤ cap) (hm : cap ≤ maxLen) (hB : B ≤ g) (hl : l.length = n) : w.ownsRow B 5 1 (.slice (some ⟨g, 0, none⟩) n cap) n (bytesV l) := by
  refine ⟨by simp [bytesV, hl], .inr ⟨g, cap, _, rfl, hB, h, hn, hm, by simpa using hc, ?_⟩⟩
  show List.take (n * 1) (bytesV l ++ rest) = _
  rw [List.take_append_of_le_length (by simp [bytesV]; omega), List.take_of_length_le (by simp [bytesV]; omega)]
theorem stB5 {ops : Array Oper} {o : Oper} {a : Act} {g x : Nat} {t : TypeId} {p q : Operand} {z : Int} (hw : Region.wanted o (yielded ops a.tmps) = true) (ho : o.op = .store 5 p q) (hp : a.eval p = .pointer (some ⟨g, x, none⟩)) (hq : a.eval q = .int .u8 z) : StoresC Tryz.prog ops o g x t (.int .u8 z) a :=
  StoresC.mk hw (fun w old hb hx => by
    have hc := hb.cell x
    have hf := hb.free x
    rw [List.getElem?_eq_getElem hx] at hc
    unfold execOp
    simp only [ho, hp, hq]
    go_simp)
theorem bytesV_set2 (l : List Nat) (rest : List Value) (i x : Nat) (h : i < l.length) : (bytesV l ++ rest).set i (.int .u8 (x : Nat)) = bytesV (l.set i x) ++ rest := by
  rw [List.set_append_left _ _ (by simpa [bytesV] using h), bytesV_set]
theorem getD_set_nat (l : List Nat) (i j x : Nat) (hi : i < l.length) : (l.set i x).getD j 0 = if i = j then x else l.getD j 0 := by
  simp only [List.getD_eq_getElem?_getD, List.getElem?_set]
  split
  · rename_i h; subst h; simp [hi]
  · rfl
theorem rev_of {S l : List Nat} (h1 : S.length = l.length) (h2 : ∀ i, i < l.length → S.getD i 0 = l.getD (l.length - 1 - i) 0) : S = l.reverse := by
  apply List.ext_getElem (by simpa using h1)
  intro i g1 g2
  have := h2 i (by omega)
  rw [List.getElem_reverse]
  simpa [List.getD_eq_getElem?_getD, List.getElem?_eq_getElem g1, List.getElem?_eq_getElem (show l.length - 1 - i < l.length by omega)] using this
set_option maxHeartbeats 4000000 in
theorem Reverse_any (w : World) (B g n cap : Nat) (l : List Nat) (hn : 1 ≤ n) (hbig : n ≤ 1000) (hl8 : ∀ x ∈ l, x < 256) (hown : w.ownsRow B 5 1 (.slice (some ⟨g, 0, none⟩) n cap) n (bytesV l)) :
    Calls Tryz.prog 119 #[.slice (some ⟨g, 0, none⟩) n cap] w fun e w' => e = .returned (.tuple #[]) ∧ w'.ownsRow B 5 1 (.slice (some ⟨g, 0, none⟩) n cap) n (bytesV l.reverse) ∧ w.grownBy w' (some g) := by
  obtain ⟨rest, hb, hc, hnc, hcm, hBg, hln⟩ := own_blk hown
  have HB := Lib.hid hb
  have HC := Lib.hid hc
  have HL := Lib.hid hln
  have HM := Lib.hid hcm
  have HBG := Lib.hid hBg
  clear hown hb hc hln hcm hBg hl8
  obtain ⟨n1, rfl⟩ : ∃ m, n = m + 1 := ⟨n - 1, by omega⟩
  go_enter Tryz.func119, Tryz.ntmps119
  go_wp2_with fail
  go_loopw [2, 3] (fun i j wr => ∃ (p q : Nat) (S : List Nat), i = .int .i64 (p : Nat) ∧ j = .int .i64 (q : Nat) ∧ p + q = n1 ∧ S.length = n1 + 1 ∧ (∀ x, x < n1 + 1 → S.getD x 0 = if x < p ∨ q < x then l.getD (n1 - x) 0 else l.getD x 0) ∧ Blk wr g 5 (bytesV S ++ rest) ∧ w.grownBy wr (some g)) (fun _ j _ => (intOf j).toNat)
  case atStart => exact ⟨0, n1, l, rfl, by go_num, by omega, HL.out, fun x hx => by rw [if_neg (by omega)], HB.out, grown_refl w _⟩
  case round =>
    obtain ⟨p, q, S, rfl, rfl, hpq, hS, hSx, hbr, hgr⟩ := hrel
    have HS := Lib.hid hS
    have HSX := Lib.hid hSx
    have HBR := Lib.hid hbr
    have HGR := Lib.hid hgr
    clear hS hSx hbr hgr
    by_cases hlt : p < q
    · have hi : (p : Int) < (q : Int) := by omega
      have b1 : (p : Int) < (n1 : Int) + 1 := by omega
      have b2 : (q : Int) < (n1 : Int) + 1 := by omega
      have cp := HBR.out.cell p
      have cq := HBR.out.cell q
      have hbl : (bytesV S).length = n1 + 1 := by simp [bytesV, HS.out]
      have eS : ∀ x, x < n1 + 1 → (bytesV S ++ rest)[x]? = some (.int .u8 (S.getD x 0 : Nat)) := fun x hx => by
        rw [List.getElem?_append_left (by omega)]
        simp [bytesV, List.getD_eq_getElem?_getD, List.getElem?_eq_getElem (show x < S.length by rw [HS.out]; exact hx)]
      rw [eS p (by omega)] at cp
      rw [eS q (by omega)] at cq
      clear eS
      have HSP := Lib.hid (HSX.out p (by omega))
      have HSQ := Lib.hid (HSX.out q (by omega))
      obtain ⟨xp, hxp⟩ : ∃ x, S.getD p 0 = x := ⟨_, rfl⟩
      obtain ⟨xq, hxq⟩ : ∃ x, S.getD q 0 = x := ⟨_, rfl⟩
      rw [hxp] at cp HSP
      rw [hxq] at cq HSQ
      have HBL := Lib.hid hbl
      clear hxp hxq hbl
      go_wp2_with fail
      refine wp_region_L (fun w_ => Below wr.heap.size wr w_) [13, 15] [0, 1, 2, 3, 4, 5, 6, 8, 9, 10, 12, 13, 14, 15] (by kernel_rfl) (Below.refl _ _).drew ?_
      refine wpAnyL_pure (fun _ _ hS_ hb_ => gr_bel hS_ hb_) (i := 0) rfl (by kernel_rfl) (fun _ _ _ h => h) (pureG (by rfl) (by intro w_; go_simp; first | done | with_reducible rfl)) ?_
      try simp only [Act.put, List.getElem_toArray, List.getElem_cons_succ, List.getElem_cons_zero, List.setIfInBounds_toArray, List.set_cons_zero, List.set_cons_succ]
      refine wpAnyL_pure (fun _ _ hS_ hb_ => gr_bel hS_ hb_) (i := 1) rfl (by kernel_rfl) (fun _ _ _ h => h) (pureG (by rfl) (by intro w_; go_simp; first | done | with_reducible rfl)) ?_
      try simp only [Act.put, List.getElem_toArray, List.getElem_cons_succ, List.getElem_cons_zero, List.setIfInBounds_toArray, List.set_cons_zero, List.set_cons_succ]
      refine wpAnyL_pure (fun _ _ hS_ hb_ => gr_bel hS_ hb_) (i := 2) rfl (by kernel_rfl) (fun _ _ _ h => h) (pureG (by rfl) (by intro w_; go_simp; first | done | with_reducible rfl)) ?_
      try simp only [Act.put, List.getElem_toArray, List.getElem_cons_succ, List.getElem_cons_zero, List.setIfInBounds_toArray, List.set_cons_zero, List.set_cons_succ]
      refine wpAnyL_pure (fun _ _ hS_ hb_ => gr_bel hS_ hb_) (i := 3) rfl (by kernel_rfl) (fun _ _ _ h => h) (pureG (by rfl) (by intro w_; go_simp; first | done | with_reducible rfl)) ?_
      try simp only [Act.put, List.getElem_toArray, List.getElem_cons_succ, List.getElem_cons_zero, List.setIfInBounds_toArray, List.set_cons_zero, List.set_cons_succ]
      refine wpAnyL_pure (fun _ _ hS_ hb_ => gr_bel hS_ hb_) (i := 4) rfl (by kernel_rfl) (fun _ _ _ h => h) (pureG (by rfl) (by intro w_; go_simp; first | done | with_reducible rfl)) ?_
      try simp only [Act.put, List.getElem_toArray, List.getElem_cons_succ, List.getElem_cons_zero, List.setIfInBounds_toArray, List.set_cons_zero, List.set_cons_succ]
      refine wpAnyL_pure (fun _ _ hS_ hb_ => gr_bel hS_ hb_) (i := 5) rfl (by kernel_rfl) (fun _ _ _ h => h) (pureG (by rfl) (by intro w_; go_simp; first | done | with_reducible rfl)) ?_
      try simp only [Act.put, List.getElem_toArray, List.getElem_cons_succ, List.getElem_cons_zero, List.setIfInBounds_toArray, List.set_cons_zero, List.set_cons_succ]
      refine wpAnyL_pure (fun _ _ hS_ hb_ => gr_bel hS_ hb_) (i := 6) rfl (by kernel_rfl) (fun _ _ _ h => h) (pureG (by rfl) (by intro w_; go_simp; first | done | with_reducible rfl)) ?_
      try simp only [Act.put, List.getElem_toArray, List.getElem_cons_succ, List.getElem_cons_zero, List.setIfInBounds_toArray, List.set_cons_zero, List.set_cons_succ]
      refine wpAnyL_take (fun _ _ hS_ hb_ => gr_bel hS_ hb_) (i := 7) rfl (by kernel_rfl) (fun _ _ _ h => h) (worldG (by rfl) (by intro w_ hS_; have q := (hS_.cell (World.block_lt_of_cell? wr _ cq)).trans cq; go_simp; first | done | with_reducible rfl)) ?_
      try simp only [Act.put, List.getElem_toArray, List.getElem_cons_succ, List.getElem_cons_zero, List.setIfInBounds_toArray, List.set_cons_zero, List.set_cons_succ]
      refine wpAnyL_pure (fun _ _ hS_ hb_ => gr_bel hS_ hb_) (i := 8) rfl (by kernel_rfl) (fun _ _ _ h => h) (pureG (by rfl) (by intro w_; go_simp; first | done | with_reducible rfl)) ?_
      try simp only [Act.put, List.getElem_toArray, List.getElem_cons_succ, List.getElem_cons_zero, List.setIfInBounds_toArray, List.set_cons_zero, List.set_cons_succ]
      refine wpAnyL_pure (fun _ _ hS_ hb_ => gr_bel hS_ hb_) (i := 9) rfl (by kernel_rfl) (fun _ _ _ h => h) (pureG (by rfl) (by intro w_; go_simp; first | done | with_reducible rfl)) ?_
      try simp only [Act.put, List.getElem_toArray, List.getElem_cons_succ, List.getElem_cons_zero, List.setIfInBounds_toArray, List.set_cons_zero, List.set_cons_succ]
      refine wpAnyL_pure (fun _ _ hS_ hb_ => gr_bel hS_ hb_) (i := 10) rfl (by kernel_rfl) (fun _ _ _ h => h) (pureG (by rfl) (by intro w_; go_simp; first | done | with_reducible rfl)) ?_
      try simp only [Act.put, List.getElem_toArray, List.getElem_cons_succ, List.getElem_cons_zero, List.setIfInBounds_toArray, List.set_cons_zero, List.set_cons_succ]
      refine wpAnyL_take (fun _ _ hS_ hb_ => gr_bel hS_ hb_) (i := 11) rfl (by kernel_rfl) (fun _ _ _ h => h) (worldG (by rfl) (by intro w_ hS_; have q := (hS_.cell (World.block_lt_of_cell? wr _ cp)).trans cp; go_simp; first | done | with_reducible rfl)) ?_
      try simp only [Act.put, List.getElem_toArray, List.getElem_cons_succ, List.getElem_cons_zero, List.setIfInBounds_toArray, List.set_cons_zero, List.set_cons_succ]
      refine wpAnyL_pure (fun _ _ hS_ hb_ => gr_bel hS_ hb_) (i := 12) rfl (by kernel_rfl) (fun _ _ _ h => h) (pureG (by rfl) (by intro w_; go_simp; first | done | with_reducible rfl)) ?_
      try simp only [Act.put, List.getElem_toArray, List.getElem_cons_succ, List.getElem_cons_zero, List.setIfInBounds_toArray, List.set_cons_zero, List.set_cons_succ]
      refine wpAnyL_cellK (i := 13) (g := g) (x := p) (t := 5) (u := .int .u8 (xq : Nat)) (by kernel_rfl) rfl (by decide) (by kernel_rfl) (by decide) HBR.out.drew (by rw [List.length_append, HBL.out]; omega) (stB5 (by rfl) rfl rfl rfl) ?_
      intro W1 hg1 hb1
      try simp only [Act.put, List.getElem_toArray, List.getElem_cons_succ, List.getElem_cons_zero, List.setIfInBounds_toArray, List.set_cons_zero, List.set_cons_succ]
      refine wpAnyL_pure (fun _ _ hS_ hb_ => gr_bel hS_ hb_) (i := 14) rfl (by kernel_rfl) (fun _ _ _ h => h) (pureG (by rfl) (by intro w_; go_simp; first | done | with_reducible rfl)) ?_
      try simp only [Act.put, List.getElem_toArray, List.getElem_cons_succ, List.getElem_cons_zero, List.setIfInBounds_toArray, List.set_cons_zero, List.set_cons_succ]
      refine wpAnyL_cell (i := 15) (g := g) (x := q) (t := 5) (u := .int .u8 (xp : Nat)) (by kernel_rfl) (by kernel_rfl) rfl (by decide) (by kernel_rfl) (by decide) hb1 (by rw [List.length_set, List.length_append, HBL.out]; omega) (stB5 (by rfl) rfl rfl rfl) ?_
      intro W2 hg2 hb2
      try simp only [Act.put, List.getElem_toArray, List.getElem_cons_succ, List.getElem_cons_zero, List.setIfInBounds_toArray, List.set_cons_zero, List.set_cons_succ]
      have hb3 : Blk W2 g 5 (bytesV ((S.set p xq).set q xp) ++ rest) := by
        rw [bytesV_set2 _ _ _ _ (by rw [HS.out]; omega), bytesV_set2 _ _ _ _ (by rw [List.length_set, HS.out]; omega)] at hb2; exact hb2
      have hg3 := grown_trans HGR.out (grown_trans (grown_below (Gr.drew wr) _) (grown_trans hg1 hg2))
      go_wp2_with fail
      go_roundw
      case rel =>
        refine ⟨p + 1, q - 1, (S.set p xq).set q xp, by go_num, by congr 1; omega, by omega, by simp [HS.out], ?_, hb3, hg3⟩
        intro x hx
        rw [getD_set_nat _ _ _ _ (by rw [List.length_set, HS.out]; omega), getD_set_nat _ _ _ _ (by rw [HS.out]; omega)]
        have e1 := HSX.out x hx
        have e2 := HSP.out
        have e3 := HSQ.out
        rw [if_neg (by omega)] at e2 e3
        by_cases hxq : q = x
        · subst hxq; rw [if_pos rfl, if_pos (by omega), e2, show n1 - q = p by omega]
        · rw [if_neg hxq]
          by_cases hxp : p = x
          · subst hxp; rw [if_pos rfl, if_pos (by omega), e3, show n1 - p = q by omega]
          · rw [if_neg hxp, e1]
            by_cases hc : x < p ∨ q < x
            · rw [if_pos hc, if_pos (by omega)]
            · rw [if_neg hc, if_neg (by omega)]
      case measure => simp [intOf]; omega
    · have hi : ¬ (p : Int) < (q : Int) := by omega
      have HR := Lib.hid (rev_of (S := S) (l := l) (by rw [HS.out, HL.out]) (fun x hx => by
        rw [HSX.out x (by rw [← HL.out]; exact hx), HL.out, show n1 + 1 - 1 - x = n1 - x by omega]
        rw [HL.out] at hx
        split
        · rfl
        · rename_i h; rw [show x = n1 - x by omega, show n1 - (n1 - x) = n1 - x by omega]))
      have HF := Lib.hid (HGR.out)
      have hb3 := HBR.out
      rw [HR.out] at hb3
      have hown := blk_ownR (B := B) (cap := cap) hb3 (by have := HC.out; simp [bytesV] at this ⊢; exact this) hnc HM.out HBG.out (by simp [HL.out])
      have HO := Lib.hid hown
      clear hb3 hown
      go_wp2_with fail
      go_end0
      exact ⟨rfl, HO.out, HF.out⟩
end Go.Proofs.YtbabpmncdphnjaaGreat
namespace Go.Proofs.YtbabpmncdphnjaaGreat
open Go.RowKit
set_option linter.unusedVariables false
set_option maxRecDepth 100000
set_option linter.unusedSimpArgs false
theorem fig_rev (v : Nat) : ((v % 128) :: glo (v / 128)).reverse = fig v := by simp [fig]
theorem u8_or128 (y : Nat) (hy : y < 128) : bits .or .u8 128 (y : Int) = ((128 + y : Nat) : Int) := by
  have h : ∀ y : Fin 128, bits .or .u8 128 ((y.val : Nat) : Int) = ((128 + y.val : Nat) : Int) := by decide +kernel
  exact h ⟨y, hy⟩
theorem own_form5 {w : World} {base n : Nat} {v : Value} {xs : List Value} (h : w.ownsRow base 5 1 v n xs) (hn : 0 < n) : ∃ g c, v = .slice (some ⟨g, 0, none⟩) n c ∧ base ≤ g := by
  obtain ⟨g, c, e, h1, _⟩ := h.form hn
  exact ⟨g, c, e, h1⟩
set_option maxHeartbeats 4000000 in
theorem groups_any (w : World) (v : Nat) (hv : v ≤ 4294967295) : Calls Tryz.prog 116 #[.int .u64 (v : Nat)] w (Made (fig v) w) := by
  have hL1 := Lib.hid (own_lit1 w (v % 128))
  have HT8 := Lib.hid (glo_lt (v / 128) _ (Nat.le_refl _))
  have HTL := Lib.hid (glo_len 4 (v / 128) (by rw [show (128 : Nat) ^ 4 = 268435456 from rfl]; omega))
  have hc1 : (v : Int) % 128 = ((v % 128 : Nat) : Int) := by omega
  have hd1 : (v : Int) / 128 = ((v / 128 : Nat) : Int) := by omega
  have hx1 : ((v % 128 : Nat) : Int) % 256 = ((v % 128 : Nat) : Int) := by omega
  have HF := Lib.hid (fig_rev v)
  obtain ⟨d, hd⟩ : ∃ d, v % 128 = d := ⟨_, rfl⟩
  obtain ⟨h, hh⟩ : ∃ h, v / 128 = h := ⟨_, rfl⟩
  rw [hd] at hc1 hx1 hL1 HF
  rw [hh] at hd1 HT8 HTL HF
  have hd8 : d < 128 := by omega
  have hh5 : h < 33554432 := by omega
  have HD := Lib.hid hd8
  clear hd hh
  go_enter Tryz.func116, Tryz.ntmps116
  go_wp2_with fail
  clear hc1 hd1 hx1
  go_loopw [0, 3] (fun x r wr => ∃ (u : Nat) (L : List Nat), x = .int .u64 (u : Nat) ∧ wr.ownsRow w.heap.size 5 1 r L.length (bytesV L) ∧ L ++ glo u = d :: glo h ∧ L ≠ [] ∧ u < 33554432 ∧ Below w.heap.size w wr) (fun x _ _ => (intOf x).toNat)
  case atStart => exact ⟨h, [d], rfl, hL1.out, rfl, by simp, hh5, (Below.refl _ w).alloc (Nat.le_refl _) _⟩
  case round =>
    obtain ⟨u, L, rfl, hown, hinv, hne, hu, hbel⟩ := hrel
    have HO := Lib.hid hown
    have HI := Lib.hid hinv
    have HNE := Lib.hid hne
    have hLp : 0 < L.length := List.length_pos_iff.2 hne
    have hLl : L.length ≤ 5 := by
      have := congrArg List.length hinv
      have h1 := HTL.out
      simp at this; omega
    have HB := Lib.hid hbel
    obtain ⟨g, c, rfl, hg⟩ := own_form5 hown hLp
    have h8L : ∀ x ∈ L, x < 256 := by
      intro x hx
      have h1 : x ∈ d :: glo h := by rw [← hinv]; simp [hx]
      simp at h1
      rcases h1 with h1 | h1
      · exact (by have := HD.out; omega)
      · exact HT8.out x h1
    have H8 := Lib.hid h8L
    clear hown hinv hne hbel h8L
    by_cases hu0 : 0 < u
    · have hui : (0 : Int) < (u : Int) := by omega
      have hgl := Lib.hid (glo_pos (v := u) (by omega))
      have e1 : (u : Int) % 128 = ((u % 128 : Nat) : Int) := by omega
      have e2 : (u : Int) / 128 = ((u / 128 : Nat) : Int) := by omega
      have e3 : ((u % 128 : Nat) : Int) % 256 = ((u % 128 : Nat) : Int) := by omega
      obtain ⟨y, hy⟩ : ∃ y, u % 128 = y := ⟨_, rfl⟩
      obtain ⟨z, hz⟩ : ∃ z, u / 128 = z := ⟨_, rfl⟩
      rw [hy] at e1 e3 hgl
      rw [hz] at e2 hgl
      have hy8 : y < 128 := by omega
      have hzu : z < u := by omega
      have hor := u8_or128 y hy8
      obtain ⟨k, hk⟩ : ∃ k, 128 + y = k := ⟨_, rfl⟩
      have hk2 : (y : Int) + 128 = (k : Int) := by omega
      have hk8 : k < 256 := by omega
      rw [hk] at hor hgl
      have hL2 := Lib.hid (fun W : World => own_lit1 W k)
      have hB2 := Lib.hid (fun W : World => bin_one W k hk8)
      clear hy hz hk
      clear hk2
      go_wp2_with (first | (at_builtin; refine wpList_append_bytes _ rfl (.tmp 14) (.tmp 19) rfl w.heap.size (.slice (some ⟨g, 0, none⟩) L.length c) L.length L rfl (own_below HO.out (Gr.alloc wr _)) (some ⟨wr.heap.size, 0, none⟩) 1 1 [k] rfl (hB2.out wr) (by omega) (by have := HB.out.size; simp; omega) ?_; intro v4 w4 ho4 hg4))
      have hb4 : Below w.heap.size w w4 := (HB.out.alloc HB.out.size _).grown hg4 (HB.out.alloc HB.out.size _).size (fun x hx => by simp [Value.ownBlock] at hx; omega)
      go_roundw
      case rel => exact ⟨z, L ++ [k], rfl, by simpa using ho4, by rw [← HI.out, hgl.out]; simp, by simp, by omega, hb4⟩
      case measure => simp [intOf]; omega
    · have hui : ¬ (0 : Int) < (u : Int) := by omega
      obtain rfl : u = 0 := by omega
      have hI := HI.out
      rw [glo_zero] at hI
      rw [List.append_nil] at hI
      have hC := Reverse_any wr w.heap.size g L.length c L hLp (by omega) H8.out HO.out
      have HC := Lib.hid hC
      have HIE := Lib.hid (show L.reverse = fig v by rw [hI]; exact HF.out)
      clear hC hI
      go_wp2_with (go_at_call 119; refine HC.out.mono ?_; rintro e w2 ⟨rfl, ho2, hg2⟩)
      go_ret
      refine ⟨_, rfl, ?_, HB.out.grown hg2 HB.out.size (fun x hx => by injection hx with hx; omega)⟩
      rw [← HIE.out, List.length_reverse]
      exact ho2
set_option maxHeartbeats 4000000 in
theorem figure_any (w : World) (v : Nat) (hv : v ≤ 4294967295) : Calls Tryz.prog 109 #[.int .u64 (v : Nat)] w (Made (fig v) w) := by
  have hL1 := Lib.hid (own_lit1 w (v % 128))
  have HT8 := Lib.hid (glo_lt (v / 128) _ (Nat.le_refl _))
  have HTL := Lib.hid (glo_len 4 (v / 128) (by rw [show (128 : Nat) ^ 4 = 268435456 from rfl]; omega))
  have hc1 : (v : Int) % 128 = ((v % 128 : Nat) : Int) := by omega
  have hd1 : (v : Int) / 128 = ((v / 128 : Nat) : Int) := by omega
  have hx1 : ((v % 128 : Nat) : Int) % 256 = ((v % 128 : Nat) : Int) := by omega
  have HF := Lib.hid (fig_rev v)
  obtain ⟨d, hd⟩ : ∃ d, v % 128 = d := ⟨_, rfl⟩
  obtain ⟨h, hh⟩ : ∃ h, v / 128 = h := ⟨_, rfl⟩
  rw [hd] at hc1 hx1 hL1 HF
  rw [hh] at hd1 HT8 HTL HF
  have hd8 : d < 128 := by omega
  have hh5 : h < 33554432 := by omega
  have HD := Lib.hid hd8
  clear hd hh
  go_enter Tryz.func109, Tryz.ntmps109
  go_wp2_with fail
  clear hc1 hd1 hx1
  go_loopw [0, 3] (fun x r wr => ∃ (u : Nat) (L : List Nat), x = .int .u64 (u : Nat) ∧ wr.ownsRow w.heap.size 5 1 r L.length (bytesV L) ∧ (glo u).reverse ++ L = (d :: glo h).reverse ∧ L ≠ [] ∧ u < 33554432 ∧ Below w.heap.size w wr) (fun x _ _ => (intOf x).toNat)
  case atStart => exact ⟨h, [d], rfl, hL1.out, by simp, by simp, hh5, (Below.refl _ w).alloc (Nat.le_refl _) _⟩
  case round =>
    obtain ⟨u, L, rfl, hown, hinv, hne, hu, hbel⟩ := hrel
    have HO := Lib.hid hown
    have HI := Lib.hid hinv
    have HNE := Lib.hid hne
    have hLp : 0 < L.length := List.length_pos_iff.2 hne
    have hLl : L.length ≤ 5 := by
      have := congrArg List.length hinv
      have h1 := HTL.out
      simp at this; omega
    have HB := Lib.hid hbel
    obtain ⟨g, c, rfl, hg⟩ := own_form5 hown hLp
    have h8L : ∀ x ∈ L, x < 256 := by
      intro x hx
      have h1 : x ∈ (d :: glo h).reverse := by rw [← hinv]; simp [hx]
      simp at h1
      rcases h1 with h1 | h1
      · exact HT8.out x h1
      · exact (by have := HD.out; omega)
    have H8 := Lib.hid h8L
    obtain ⟨a', c', e, hin, _⟩ := own_in hown h8L (by omega)
    injection e with e1 e2 e3
    subst e1 e3
    have HIN := Lib.hid hin
    clear e2 hin
    clear hown hinv hne hbel h8L
    by_cases hu0 : 0 < u
    · have hui : (0 : Int) < (u : Int) := by omega
      have hgl := Lib.hid (glo_pos (v := u) (by omega))
      have e1 : (u : Int) % 128 = ((u % 128 : Nat) : Int) := by omega
      have e2 : (u : Int) / 128 = ((u / 128 : Nat) : Int) := by omega
      have e3 : ((u % 128 : Nat) : Int) % 256 = ((u % 128 : Nat) : Int) := by omega
      obtain ⟨y, hy⟩ : ∃ y, u % 128 = y := ⟨_, rfl⟩
      obtain ⟨z, hz⟩ : ∃ z, u / 128 = z := ⟨_, rfl⟩
      rw [hy] at e1 e3 hgl
      rw [hz] at e2 hgl
      have hy8 : y < 128 := by omega
      have hzu : z < u := by omega
      have hor := u8_or128 y hy8
      obtain ⟨k, hk⟩ : ∃ k, 128 + y = k := ⟨_, rfl⟩
      have hk2 : (y : Int) + 128 = (k : Int) := by omega
      have hk8 : k < 256 := by omega
      rw [hk] at hor hgl
      have hL2 := Lib.hid (fun W : World => own_lit1 W k)
      have hB2 := Lib.hid (fun W : World => bin_one W k hk8)
      clear hy hz hk
      clear hor
      go_wp2_with (first | (at_builtin; refine wpList_append_bytes _ rfl (.tmp 18) (.tmp 19) rfl w.heap.size (.slice (some ⟨wr.heap.size, 0, none⟩) 1 1) 1 [k] rfl (ownsMono (hL2.out wr) HB.out.size) (some ⟨g, 0, none⟩) L.length c L rfl (HIN.out.below (Gr.alloc wr _)) (by omega) (by have := HB.out.size; simp; omega) ?_; intro v4 w4 ho4 hg4))
      have hb4 : Below w.heap.size w w4 := (HB.out.alloc HB.out.size _).grown hg4 (HB.out.alloc HB.out.size _).size (fun x hx => by simp [Value.ownBlock] at hx; have := HB.out.size; omega)
      go_roundw
      case rel => exact ⟨z, k :: L, rfl, by simpa [Nat.add_comm 1] using ho4, by rw [← HI.out, hgl.out]; simp, by simp, by omega, hb4⟩
      case measure => simp [intOf]; omega
    · have hui : ¬ (0 : Int) < (u : Int) := by omega
      obtain rfl : u = 0 := by omega
      have hI := HI.out
      rw [glo_zero] at hI
      rw [List.reverse_nil, List.nil_append] at hI
      have HIE := Lib.hid (show L = fig v by rw [hI]; exact HF.out)
      clear hI
      go_wp2_with fail
      go_ret
      refine ⟨_, rfl, ?_, HB.out⟩
      rw [← HIE.out]
      exact HO.out
end Go.Proofs.YtbabpmncdphnjaaGreat
namespace Go.Proofs.YtbabpmncdphnjaaGreat
open Go.RowKit
set_option linter.unusedVariables false
set_option maxRecDepth 100000
abbrev wordsV (l : List Nat) : List Value := natsV .u64 l
theorem info39 : (Tryz.prog.info? 23).map (fun i => (i.zero, i.size, i.bytes)) = some (some (.int .u64 0), 1, 8) := by kernel_rfl
def WIn (w : World) (a : Option Addr) (n c : Nat) (l : List Nat) : Prop :=
  l.length = n ∧ n ≤ c ∧ c ≤ maxLen ∧ (∀ x ∈ l, x < 18446744073709551616) ∧ n ≤ 17592186044416 ∧ (a = none → c = 0) ∧ (n = 0 ∨ ∃ b off, a = some ⟨b, off, none⟩ ∧ ∀ i, i < n → w.cell? ⟨b, off + i, none⟩ = some (.int .u64 (l.getD i 0 : Nat)))
theorem WIn.below {w w' : World} {a : Option Addr} {n c : Nat} {l : List Nat} (h : WIn w a n c l) (hb : Below w.heap.size w w') : WIn w' a n c l := by
  obtain ⟨h1, h2, h3, h4, h5, h6, h7⟩ := h
  refine ⟨h1, h2, h3, h4, h5, h6, ?_⟩
  rcases h7 with h7 | ⟨b, off, rfl, hc⟩
  · exact .inl h7
  · exact .inr ⟨b, off, rfl, fun i hi => (hb.cell (World.block_lt_of_cell? w _ (hc i hi))).trans (hc i hi)⟩
theorem getD_ltw {l : List Nat} (h : ∀ x ∈ l, x < 18446744073709551616) (k : Nat) : l.getD k 0 < 18446744073709551616 := by
  by_cases hk : k < l.length
  · rw [List.getD_eq_getElem?_getD, List.getElem?_eq_getElem hk]; exact h _ (List.getElem_mem hk)
  · rw [List.getD_eq_getElem?_getD, List.getElem?_eq_none (by omega)]; decide
theorem ownw_cells {w : World} {B g n cap : Nat} {l : List Nat} (h : w.ownsRow B 23 1 (.slice (some ⟨g, 0, none⟩) n cap) n (wordsV l)) : l.length = n ∧ ∀ i, i < n → w.cell? ⟨g, 0 + i, none⟩ = some (.int .u64 (l.getD i 0 : Nat)) := by
  have hl : l.length = n := by have := h.1; simpa [natsV] using this
  refine ⟨hl, fun i hi => ?_⟩
  have := h.cellAt i (by omega)
  rw [Nat.zero_add, this]
  exact natsV_get .u64 l i (by omega)
theorem ownw_in {w : World} {base n : Nat} {v : Value} {l : List Nat} (h : w.ownsRow base 23 1 v n (wordsV l)) (hl : ∀ x ∈ l, x < 18446744073709551616) (hn : n ≤ 17592186044416) :
    ∃ a c, v = .slice a n c ∧ WIn w a n c l ∧ l.length = n := by
  have hlen : l.length = n := by have := h.1; simpa [natsV] using this
  rcases h.2 with ⟨rfl, rfl⟩ | ⟨g, cap, cur, rfl, hbg, hg, h1, h2, rest⟩
  · exact ⟨none, 0, rfl, ⟨hlen, Nat.le_refl _, Nat.zero_le _, hl, hn, fun _ => rfl, .inl rfl⟩, hlen⟩
  · exact ⟨some ⟨g, 0, none⟩, cap, rfl, ⟨hlen, h1, h2, hl, hn, fun h => (by cases h), .inr ⟨g, 0, rfl, (ownw_cells h).2⟩⟩, hlen⟩
theorem wordsV_append (a b : List Nat) : wordsV (a ++ b) = wordsV a ++ wordsV b := natsV_append _ a b
theorem litw (w : World) (l : List Nat) (hn : l.length ≤ 1000) : (w.alloc (.cells (wordsV l).toArray 23)).ownsRow w.heap.size 23 1 (.slice (some ⟨w.heap.size, 0, none⟩) l.length l.length) l.length (wordsV l) :=
  World.ownsRow_lit (base := w.heap.size) (e := 23) (size := 1) w (wordsV l).toArray l.length (Nat.le_refl _) (by simp only [maxLen]; omega) (by simp [natsV])
section
variable {w : World} {ops : Array Oper} {rest : List Oper} {o : Oper} {a : Act} {Q : Exit → Act → World → Prop}
theorem run_append_words (W : World) (base : Nat) (ty : TypeId) (v : Value) (n : Nat) (xs : List Nat) (hown : W.ownsRow base 23 1 v n (wordsV xs)) (A : Option Addr) (m c : Nat) (l : List Nat) (hr : WIn W A m c l) (hb : n + m ≤ 17592186044416) (hbase : base ≤ W.heap.size) :
    ∃ v' w', (Builtin.append_ #[70, 70] ty #[v, .slice A m c]).run Tryz.prog W = .ok v' w' ∧ w'.ownsRow base 23 1 v' (n + m) (wordsV (xs ++ l)) ∧ W.grownBy w' v.ownBlock := by
  obtain ⟨i0, hi0, hz0, hz1, hz2⟩ := info_parts info39
  obtain ⟨hl, h1, h2, hlt, hm, hnil, hrow⟩ := hr
  rcases A with _ | ad
  · have := hnil rfl
    obtain rfl : m = 0 := by omega
    subst this
    obtain rfl : l = [] := List.eq_nil_of_length_eq_zero hl
    have hrun := run_append_owned_none (P := Tryz.prog) W base 70 ty 23 i0 1 Tryz.underlying70 hi0 v n (wordsV xs) hown
    exact ⟨v, W, hrun, by simpa using hown, ⟨rfl, rfl, rfl, Nat.le_refl _, fun _ _ _ => rfl⟩⟩
  · have hone : ∀ u ∈ wordsV l, u.oneCell' = true := natsV_one .u64 l
    have hcs : ∀ j u, (wordsV l)[j]? = some u → W.cell? (ad.add j) = some u := by
      intro j u hu
      have hj : j < l.length := by
        rcases Nat.lt_or_ge j l.length with h | h
        · exact h
        · rw [List.getElem?_eq_none (by simpa [natsV] using h)] at hu; cases hu
      obtain ⟨b', off, hA, hc⟩ := hrow.resolve_left (by omega)
      injection hA with hA; subst hA
      rw [Addr.add_mid, hc j (by omega), ← hu]
      exact (natsV_get .u64 l j hj).symm
    obtain ⟨v', w', hrun, h2, h3, h4, h5⟩ := run_append_own_at (P := Tryz.prog) W base 70 ty 23 i0 (.int .u64 0) 1 8 Tryz.underlying70 hi0 hz0 hz1 hz2 rfl (by decide) v n (wordsV xs) hown ad m c (wordsV l) (by simpa [natsV] using hl) hcs hone (by simp only [maxLen]; omega) (by omega) hbase
    exact ⟨v', w', hrun, by rw [wordsV_append]; exact h2, h3⟩
theorem wpOp_append_words {i : Nat} {oi : Oper} {W : World} {K : Act → World → Prop} (hi : ops[i]? = some oi) (hw : Region.wanted oi (yielded ops a.tmps) = true) (s x : Operand)
    (ho : oi.op = .call { callee := .builtin .append, args := #[s, x], argTypes := #[70, 70] })
    (base : Nat) (v : Value) (n : Nat) (xs : List Nat) (hs : a.eval s = v) (hown : W.ownsRow base 23 1 v n (wordsV xs))
    (A : Option Addr) (m c : Nat) (l : List Nat) (hx : a.eval x = .slice A m c) (hr : WIn W A m c l) (hb : n + m ≤ 17592186044416) (hbase : base ≤ W.heap.size)
    (h : ∀ v' w', w'.ownsRow base 23 1 v' (n + m) (wordsV (xs ++ l)) → W.grownBy w' v.ownBlock → K (a.put oi.dst v') w') : wpOp Tryz.prog ops Q i K a W := by
  obtain ⟨v', w', hrun, h1, h2⟩ := run_append_words W base oi.type v n xs hown A m c l hr hb hbase
  refine wpOp_run hi hw (v := v') (W2 := w') ?_ (h v' w' h1 h2)
  unfold execOp
  simp only [ho, resolve, invoke, builtin, Sem.run_bind, Sem.run_pure, Result.andThen_ok, List.map_toArray, List.map_cons, List.map_nil, hs, hx, hrun]
theorem wpList_append_words (hgd : o.guard = none) (s x : Operand)
    (ho : o.op = .call { callee := .builtin .append, args := #[s, x], argTypes := #[70, 70] })
    (base : Nat) (v : Value) (n : Nat) (xs : List Nat) (hs : a.eval s = v) (hown : w.ownsRow base 23 1 v n (wordsV xs))
    (A : Option Addr) (m c : Nat) (l : List Nat) (hx : a.eval x = .slice A m c) (hr : WIn w A m c l) (hb : n + m ≤ 17592186044416) (hbase : base ≤ w.heap.size)
    (h : ∀ v' w', w'.ownsRow base 23 1 v' (n + m) (wordsV (xs ++ l)) → w.grownBy w' v.ownBlock → wpList Tryz.prog ops Q rest (a.put o.dst v') w') : wpList Tryz.prog ops Q (o :: rest) a w := by
  obtain ⟨v', w', hrun, h1, h2⟩ := run_append_words w base o.type v n xs hown A m c l hr hb hbase
  refine wpList_plain hgd fun K hK => ?_
  unfold Oper.wp execOp
  simp only [ho, resolve, invoke, builtin, Sem.run_bind, Sem.run_pure, Result.andThen_ok, List.map_toArray, List.map_cons, List.map_nil, hs, hx, hrun]
  exact hK _ _ (h v' w' h1 h2)
end
theorem WIn.drop {w : World} {b off n c f : Nat} {l : List Nat} (h : WIn w (some ⟨b, off, none⟩) n c l) (hf : f ≤ n) (A : Option Addr) (hA : A = some ⟨b, off, none⟩ ∧ n - f = 0 ∨ A = some ⟨b, off + f, none⟩) : WIn w A (n - f) (c - f) (l.drop f) := by
  obtain ⟨h1, h2, h3, h4, h5, h6, h7⟩ := h
  refine ⟨by simp; omega, by omega, by omega, fun x hx => h4 x (List.mem_of_mem_drop hx), by omega, fun h => (by rcases hA with ⟨rfl, _⟩ | rfl <;> cases h), ?_⟩
  by_cases h0 : n - f = 0
  · exact .inl h0
  · right
    obtain rfl := hA.resolve_left (fun h => h0 h.2)
    obtain ⟨b', o', he, hc⟩ := h7.resolve_left (by omega)
    injection he with he; injection he with e1 e2; subst e1 e2
    refine ⟨b, off + f, rfl, fun i hi => ?_⟩
    rw [Nat.add_assoc, hc (f + i) (by omega)]
    simp [List.getD_eq_getElem?_getD, List.getElem?_drop]
end Go.Proofs.YtbabpmncdphnjaaGreat
