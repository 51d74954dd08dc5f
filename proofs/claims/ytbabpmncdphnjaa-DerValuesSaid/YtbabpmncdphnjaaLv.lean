/- The law of numbers and bools. No condition. -/
import Derived.Test.YtbabpmncdphnjaaVj
import Derived.Test.YtbabpmncdphnjaaGq
import Derived.Test.YtbabpmncdphnjaaCn
import Derived.Test.YtbabpmncdphnjaaCt
namespace Go.Proofs.Ytbabpmncdphnjaa
open Go.RowKit
set_option linter.unusedVariables false
set_option maxRecDepth 100000
set_option linter.unusedSimpArgs false

theorem uok_lt {b : List Nat} (h : uok b = true) (hb : ∀ x ∈ b, x < 256) : beV b < 18446744073709551616 := by
  obtain ⟨h0, h1, h2, h3⟩ := of_decide_eq_true h
  cases b with
  | nil => exact absurd rfl h0
  | cons x l =>
    have hl := beV_lt l (fun z hz => hb z (by simp [hz]))
    have hx := hb x (by simp)
    simp only [List.length_cons, List.getD_cons_zero] at h1 h3
    by_cases hx0 : x = 0
    · subst hx0
      rw [if_pos rfl] at h3
      rw [beV_zero]
      have : (256 : Nat) ^ l.length ≤ 256 ^ 8 := Nat.pow_le_pow_right (by decide) (by omega)
      have e : (256 : Nat) ^ 8 = 18446744073709551616 := rfl
      omega
    · rw [if_neg hx0] at h3
      have h4 := beV_lt (x :: l) hb
      have : (256 : Nat) ^ (x :: l).length ≤ 256 ^ 8 := Nat.pow_le_pow_right (by decide) (by simp; omega)
      have e : (256 : Nat) ^ 8 = 18446744073709551616 := rfl
      omega
theorem uintC_zero {t : Nat} {b : List Nat} {k : Tr} (h : uintC t b k = 0) : t = 2 ∧ k.len = 0 ∧ uok b = true := by
  unfold uintC at h
  split at h
  · cases h
  · rename_i h2
    split at h
    · rename_i h3; exact ⟨by omega, h3⟩
    · cases h
theorem uint_of {v : Nat} (hv : v < 18446744073709551616) : uintV 2 (be (nb v) v) .nil = v ∧ uintC 2 (be (nb v) v) .nil = 0 := by
  obtain ⟨h1, h2, _⟩ := uok_be v hv
  have := uint_good (b := be (nb v) v) (k := .nil) ⟨rfl, h1⟩
  rw [h2] at this; exact this
theorem bool_of (v : Bool) : boolV 1 (bb v) .nil = v ∧ boolC 1 (bb v) .nil = 0 := bool_good v rfl

set_option maxHeartbeats 8000000 in
theorem lawValues (w : World) (t : Nat) (b : List Nat) (k : Tr) (a : Option Addr) (c : Nat) (a' : Option Addr) (c' : Nat) (v : Nat) (is : Bool) (hv : v < 18446744073709551616) (hin : ItIn w t a c a' c' b k) (hlow : k.low 140737488355328) (hbn : b.length ≤ 140737488351232) :
    Calls Try.prog 5 #[itV t a b.length c a' k.len c', .int .u64 (v : Nat), .bool is] w fun e w' => e = .returned (.bool true) ∧ Below w.heap.size w w' := by
  have HW := Lib.hid (Blk.new w 25 [.int .u8 (t : Nat), .slice a b.length c, .slice a' k.len c'])
  have h0 := (Below.refl _ w).alloc (Nat.le_refl _) (.cells #[.int .u8 (t : Nat), .slice a b.length c, .slice a' k.len c'] 25)
  have HIN := Lib.hid (hin.below h0)
  have HLOW := Lib.hid hlow
  have HBN := Lib.hid hbn
  have HV := Lib.hid hv
  have H0 := Lib.hid h0
  clear hin hlow hbn hv
  go_enter Try.func5, Try.ntmps5
  generalize hW1 : w.alloc (.cells #[.int .u8 (t : Nat), .slice a b.length c, .slice a' k.len c'] 25) = W1 at *
  have HG := Lib.hid (great_any W1 t b k a c a' c' HIN.out (by have := HBN.out; omega) HLOW.out)
  by_cases hg : 65536 < k.cnt (1 + b.length) 65536
  · rw [decide_eq_true hg] at HG
    go_wp2_with (first | (refine wpList_load_row (P := Try.prog) rfl 25 (.tmp 3) rfl w.heap.size rfl 25 _ _ _ HW.out Try.underlying25 rfl info25 ?_) | (go_at_call 15; (with_reducible refine (HG.out).mono ?_); rintro e w2 ⟨rfl, hb2⟩; have HW := Lib.hid (HW.out.below' hb2); have HIN := Lib.hid (HIN.out.below hb2); have H0 := Lib.hid (H0.out.trans ((hb2).mono H0.out.size))) | (go_at_call 14; (with_reducible refine (alive_any _).mono ?_); rintro e wa ⟨rfl, hba⟩; have HW := Lib.hid (HW.out.below' hba); have HIN := Lib.hid (HIN.out.below hba); have H0 := Lib.hid (H0.out.trans ((hba).mono H0.out.size))))
    go_ret
    exact ⟨rfl, H0.out⟩
  · rw [decide_eq_false hg] at HG
    clear hg
    have hul : uintC t b k = 0 ∨ uintC t b k ≠ 0 := by omega
    have HUC := Lib.hid hul
    clear hul
    obtain ⟨uv, huv⟩ : ∃ x, uintV t b k = x := ⟨_, rfl⟩
    obtain ⟨uc, huc⟩ : ∃ x, uintC t b k = x := ⟨_, rfl⟩
    obtain ⟨bv, hbv⟩ : ∃ x, boolV t b k = x := ⟨_, rfl⟩
    obtain ⟨bc, hbc⟩ : ∃ x, boolC t b k = x := ⟨_, rfl⟩
    have HU1 := Lib.hid (fun wx hx => by have := Uint_any wx t b k a c a' c' hx; rwa [huv, huc] at this)
    have HU2 := Lib.hid (fun wx hx => by have := refUint_any wx t b k a c a' c' hx; rwa [huv, huc] at this)
    have HB1 := Lib.hid (fun wx hx => by have := Bool_any wx t b k a c a' c' hx; rwa [hbv, hbc] at this)
    have HB2 := Lib.hid (fun wx hx => by have := refBool_any wx t b k a c a' c' hx; rwa [hbv, hbc] at this)
    have HEQ := Lib.hid (And.intro huv huc)
    clear huv huc hbv hbc
    go_wp2_with (first | (refine wpList_load_row (P := Try.prog) rfl 25 (.tmp 3) rfl w.heap.size rfl 25 _ _ _ HW.out Try.underlying25 rfl info25 ?_) | (go_at_call 15; (with_reducible refine (HG.out).mono ?_); rintro e w2 ⟨rfl, hb2⟩; have HW := Lib.hid (HW.out.below' hb2); have HIN := Lib.hid (HIN.out.below hb2); have H0 := Lib.hid (H0.out.trans ((hb2).mono H0.out.size))) | (go_at_call 19; (with_reducible refine (HU1.out _ HIN.out).mono ?_); rintro e w3 ⟨rfl, hb3⟩; have HW := Lib.hid (HW.out.below' hb3); have HIN := Lib.hid (HIN.out.below hb3); have H0 := Lib.hid (H0.out.trans ((hb3).mono H0.out.size))) | (go_at_call 20; (with_reducible refine (HB1.out _ HIN.out).mono ?_); rintro e w4 ⟨rfl, hb4⟩; have HW := Lib.hid (HW.out.below' hb4); have HIN := Lib.hid (HIN.out.below hb4); have H0 := Lib.hid (H0.out.trans ((hb4).mono H0.out.size))) | (go_at_call 21; (with_reducible refine (HU2.out _ HIN.out).mono ?_); rintro e w5 ⟨rfl, hb5⟩; have HW := Lib.hid (HW.out.below' hb5); have HIN := Lib.hid (HIN.out.below hb5); have H0 := Lib.hid (H0.out.trans ((hb5).mono H0.out.size))) | (go_at_call 22; (with_reducible refine (HB2.out _ HIN.out).mono ?_); rintro e w6 ⟨rfl, hb6⟩; have HW := Lib.hid (HW.out.below' hb6); have HIN := Lib.hid (HIN.out.below hb6); have H0 := Lib.hid (H0.out.trans ((hb6).mono H0.out.size))) | (go_at_call 14; (with_reducible refine (alive_any _).mono ?_); rintro e wa ⟨rfl, hba⟩; have HW := Lib.hid (HW.out.below' hba); have HIN := Lib.hid (HIN.out.below hba); have H0 := Lib.hid (H0.out.trans ((hba).mono H0.out.size))) | (go_at_call 23; (with_reducible refine (OfUint_any _ v HV.out).mono ?_); rintro e w7 ⟨a7, c7, rfl, hi7, hb7⟩; have HW := Lib.hid (HW.out.below' hb7); have HIN := Lib.hid (HIN.out.below hb7); have H0 := Lib.hid (H0.out.trans ((hb7).mono H0.out.size)); have HBX := Lib.hid (Blk.new w7 25 [.int .u8 0, .slice none 0 0, .slice none 0 0]); have HX := Lib.hid hi7; clear hi7) | (refine wpList_store_row (P := Try.prog) rfl 25 (.tmp 16) (.tmp 71) rfl w7.heap.size #[.int .u8 2, .slice a7 (be (nb v) v).length c7, .slice none 0 0] rfl rfl 25 _ HBX.out info25 rfl (all_item _ _ _ _ _ _ _) ?_; have hs7 : Gr w7 ((w7.alloc (.cells #[.int .u8 0, .slice none 0 0, .slice none 0 0] 25)).setRow w7.heap.size #[.int .u8 2, .slice a7 (be (nb v) v).length c7, .slice none 0 0]) := below_setRow' (Gr.alloc w7 _) (Nat.le_refl _) _; have HBX := Lib.hid (HBX.out.setRow [.int .u8 2, .slice a7 (be (nb v) v).length c7, .slice none 0 0]); have HW := Lib.hid (HW.out.below' hs7); have HIN := Lib.hid (HIN.out.below hs7); have H0 := Lib.hid (H0.out.trans ((hs7).mono H0.out.size)); have HX := Lib.hid (HX.out.below hs7)) | (go_at_call 24; (with_reducible refine (OfBool_any _ is).mono ?_); rintro e w8 ⟨a8, c8, rfl, hi8, hb8⟩; have HW := Lib.hid (HW.out.below' hb8); have HIN := Lib.hid (HIN.out.below hb8); have H0 := Lib.hid (H0.out.trans ((hb8).mono H0.out.size)); have HX := Lib.hid (HX.out.below hb8); have HBX := Lib.hid (HBX.out.below' hb8); have HBY := Lib.hid (Blk.new w8 25 [.int .u8 0, .slice none 0 0, .slice none 0 0]); have HY := Lib.hid hi8; clear hi8) | (refine wpList_store_row (P := Try.prog) rfl 25 (.tmp 17) (.tmp 73) rfl w8.heap.size #[.int .u8 1, .slice a8 (bb is).length c8, .slice none 0 0] rfl rfl 25 _ HBY.out info25 rfl (all_item _ _ _ _ _ _ _) ?_; have hs8 : Gr w8 ((w8.alloc (.cells #[.int .u8 0, .slice none 0 0, .slice none 0 0] 25)).setRow w8.heap.size #[.int .u8 1, .slice a8 (bb is).length c8, .slice none 0 0]) := below_setRow' (Gr.alloc w8 _) (Nat.le_refl _) _; have HBY := Lib.hid (HBY.out.setRow [.int .u8 1, .slice a8 (bb is).length c8, .slice none 0 0]); have HW := Lib.hid (HW.out.below' hs8); have HIN := Lib.hid (HIN.out.below hs8); have H0 := Lib.hid (H0.out.trans ((hs8).mono H0.out.size)); have HX := Lib.hid (HX.out.below hs8); have HBX := Lib.hid (HBX.out.below' hs8); have HY := Lib.hid (HY.out.below hs8)))
    generalize ((w8.alloc (.cells #[.int .u8 0, .slice none 0 0, .slice none 0 0] 25)).setRow w8.heap.size #[.int .u8 1, .slice a8 (bb is).length c8, .slice none 0 0]) = WA at *
    refine wp_region_L (fun w_ => Below WA.heap.size WA w_) [] [1, 4] (by kernel_rfl) (Below.refl _ _).drew ?_
    refine wpAnyL_take (fun _ _ hS_ hb_ => gr_bel hS_ hb_) (i := 0) rfl (by kernel_rfl) (fun _ _ _ h => h) (loadG (by rfl) _ _ rfl w7.heap.size 0 rfl [.int .u8 2, .slice a7 (be (nb v) v).length c7, .slice none 0 0] _ (fun w_ hS_ => blk_all (HBX.out.gr hS_)) Try.underlying25 rfl info25) ?_
    try simp only [Act.put, List.getElem_toArray, List.getElem_cons_succ, List.getElem_cons_zero, List.setIfInBounds_toArray, List.set_cons_zero, List.set_cons_succ]
    refine wpAnyL_pure (fun _ _ hS_ hb_ => gr_bel hS_ hb_) (i := 1) rfl (by kernel_rfl) (fun _ _ _ h => h) (pureG (by rfl) (by intro w_; go_simp; first | done | with_reducible rfl)) ?_
    try simp only [Act.put, List.getElem_toArray, List.getElem_cons_succ, List.getElem_cons_zero, List.setIfInBounds_toArray, List.set_cons_zero, List.set_cons_succ]
    refine wpAnyL_one (i := 2) (by kernel_rfl) (by decide) fun Wp1 hgWp1 hSWp1 => ?_
    refine wpOp_callE (i := 2) rfl (by rfl) rfl Try.func25 (by kernel_rfl) (by kernel_rfl) #[.int .u64 (v : Nat)] (by simp [Act.eval]) ((refOfUint_any Wp1 v HV.out).mono ?_)
    rintro e up1 ⟨ap, cp, rfl, hip, hbp1⟩
    refine ⟨_, rfl, Gr.trans hSWp1 hbp1, ?_⟩
    try simp only [Act.put, List.getElem_toArray, List.getElem_cons_succ, List.getElem_cons_zero, List.setIfInBounds_toArray, List.set_cons_zero, List.set_cons_succ]
    refine wpAnyL_one (i := 3) (by kernel_rfl) (by decide) fun Wp2 hgWp2 hSWp2 => ?_
    refine wpOp_callE (i := 3) rfl (by rfl) rfl Try.func11 (by kernel_rfl) (by kernel_rfl) #[itV 2 a7 (be (nb v) v).length c7 none 0 0, itV 2 ap (be (nb v) v).length cp none 0 0] (by simp [Act.eval]) ((sameI_self (k := .nil) (HX.out.below hSWp2) (hip.below hgWp2)).mono ?_)
    rintro e up2 ⟨rfl, hbp2⟩
    refine ⟨_, rfl, Gr.trans hSWp2 hbp2, ?_⟩
    try simp only [Act.put, List.getElem_toArray, List.getElem_cons_succ, List.getElem_cons_zero, List.setIfInBounds_toArray, List.set_cons_zero, List.set_cons_succ]
    refine wpAnyL_pure (fun _ _ hS_ hb_ => gr_bel hS_ hb_) (i := 4) rfl (by kernel_rfl) (fun _ _ _ h => h) (pureG (by rfl) (by intro w_; go_simp; first | done | with_reducible rfl)) ?_
    try simp only [Act.put, List.getElem_toArray, List.getElem_cons_succ, List.getElem_cons_zero, List.setIfInBounds_toArray, List.set_cons_zero, List.set_cons_succ]
    refine wpAnyL_done (by kernel_rfl) ?_ _
    intro Wp3 hgWp3
    have hgrp := Gr.trans (Gr.trans hSWp2 hbp2) hgWp3
    have HW := Lib.hid (HW.out.below' hgrp)
    have HIN := Lib.hid (HIN.out.below hgrp)
    have H0 := Lib.hid (H0.out.trans (Below.mono hgrp H0.out.size))
    have HX := Lib.hid (HX.out.below hgrp)
    have HBX := Lib.hid (HBX.out.below' hgrp)
    have HY := Lib.hid (HY.out.below hgrp)
    have HBY := Lib.hid (HBY.out.below' hgrp)
    clear hSWp1 hSWp2 hgWp1 hgWp2 hgWp3 hbp1 hbp2 hip
    go_wp2_with fail
    refine wp_region_L (fun w_ => Below Wp3.heap.size Wp3 w_) [] [1, 4] (by kernel_rfl) (Below.refl _ _).drew ?_
    refine wpAnyL_take (fun _ _ hS_ hb_ => gr_bel hS_ hb_) (i := 0) rfl (by kernel_rfl) (fun _ _ _ h => h) (loadG (by rfl) _ _ rfl w8.heap.size 0 rfl [.int .u8 1, .slice a8 (bb is).length c8, .slice none 0 0] _ (fun w_ hS_ => blk_all (HBY.out.gr hS_)) Try.underlying25 rfl info25) ?_
    try simp only [Act.put, List.getElem_toArray, List.getElem_cons_succ, List.getElem_cons_zero, List.setIfInBounds_toArray, List.set_cons_zero, List.set_cons_succ]
    refine wpAnyL_pure (fun _ _ hS_ hb_ => gr_bel hS_ hb_) (i := 1) rfl (by kernel_rfl) (fun _ _ _ h => h) (pureG (by rfl) (by intro w_; go_simp; first | done | with_reducible rfl)) ?_
    try simp only [Act.put, List.getElem_toArray, List.getElem_cons_succ, List.getElem_cons_zero, List.setIfInBounds_toArray, List.set_cons_zero, List.set_cons_succ]
    refine wpAnyL_one (i := 2) (by kernel_rfl) (by decide) fun Wq1 hgWq1 hSWq1 => ?_
    refine wpOp_callE (i := 2) rfl (by rfl) rfl Try.func26 (by kernel_rfl) (by kernel_rfl) #[.bool is] (by simp [Act.eval]) ((refOfBool_any Wq1 is).mono ?_)
    rintro e uq1 ⟨aq, cq, rfl, hiq, hbq1⟩
    refine ⟨_, rfl, Gr.trans hSWq1 hbq1, ?_⟩
    try simp only [Act.put, List.getElem_toArray, List.getElem_cons_succ, List.getElem_cons_zero, List.setIfInBounds_toArray, List.set_cons_zero, List.set_cons_succ]
    refine wpAnyL_one (i := 3) (by kernel_rfl) (by decide) fun Wq2 hgWq2 hSWq2 => ?_
    refine wpOp_callE (i := 3) rfl (by rfl) rfl Try.func11 (by kernel_rfl) (by kernel_rfl) #[itV 1 a8 (bb is).length c8 none 0 0, itV 1 aq (bb is).length cq none 0 0] (by simp [Act.eval]) ((sameI_self (k := .nil) (HY.out.below hSWq2) (hiq.below hgWq2)).mono ?_)
    rintro e uq2 ⟨rfl, hbq2⟩
    refine ⟨_, rfl, Gr.trans hSWq2 hbq2, ?_⟩
    try simp only [Act.put, List.getElem_toArray, List.getElem_cons_succ, List.getElem_cons_zero, List.setIfInBounds_toArray, List.set_cons_zero, List.set_cons_succ]
    refine wpAnyL_pure (fun _ _ hS_ hb_ => gr_bel hS_ hb_) (i := 4) rfl (by kernel_rfl) (fun _ _ _ h => h) (pureG (by rfl) (by intro w_; go_simp; first | done | with_reducible rfl)) ?_
    try simp only [Act.put, List.getElem_toArray, List.getElem_cons_succ, List.getElem_cons_zero, List.setIfInBounds_toArray, List.set_cons_zero, List.set_cons_succ]
    refine wpAnyL_done (by kernel_rfl) ?_ _
    intro Wq3 hgWq3
    have hgrq := Gr.trans (Gr.trans hSWq2 hbq2) hgWq3
    have HW := Lib.hid (HW.out.below' hgrq)
    have HIN := Lib.hid (HIN.out.below hgrq)
    have H0 := Lib.hid (H0.out.trans (Below.mono hgrq H0.out.size))
    have HX := Lib.hid (HX.out.below hgrq)
    have HBX := Lib.hid (HBX.out.below' hgrq)
    have HY := Lib.hid (HY.out.below hgrq)
    have HBY := Lib.hid (HBY.out.below' hgrq)
    clear hSWq1 hSWq2 hgWq1 hgWq2 hgWq3 hbq1 hbq2 hiq
    go_wp2_with (first | (refine wpList_load_row (P := Try.prog) rfl 25 (.tmp 16) rfl w7.heap.size rfl 25 _ _ _ HBX.out Try.underlying25 rfl info25 ?_) | (refine wpList_load_row (P := Try.prog) rfl 25 (.tmp 17) rfl w8.heap.size rfl 25 _ _ _ HBY.out Try.underlying25 rfl info25 ?_) | (go_at_call 19; have hs := Uint_any _ 2 (be (nb v) v) .nil a7 c7 none 0 HX.out; rw [(uint_of HV.out).1, (uint_of HV.out).2] at hs; refine hs.mono ?_; rintro e wr3 ⟨rfl, hbr3⟩; have HW := Lib.hid (HW.out.below' hbr3); have HIN := Lib.hid (HIN.out.below hbr3); have H0 := Lib.hid (H0.out.trans (Below.mono hbr3 H0.out.size)); have HX := Lib.hid (HX.out.below hbr3); have HBX := Lib.hid (HBX.out.below' hbr3); have HY := Lib.hid (HY.out.below hbr3); have HBY := Lib.hid (HBY.out.below' hbr3)) | (go_at_call 20; have hs := Bool_any _ 1 (bb is) .nil a8 c8 none 0 HY.out; rw [(bool_of is).1, (bool_of is).2] at hs; refine hs.mono ?_; rintro e wr4 ⟨rfl, hbr4⟩; have HW := Lib.hid (HW.out.below' hbr4); have HIN := Lib.hid (HIN.out.below hbr4); have H0 := Lib.hid (H0.out.trans (Below.mono hbr4 H0.out.size)); have HX := Lib.hid (HX.out.below hbr4); have HBX := Lib.hid (HBX.out.below' hbr4); have HY := Lib.hid (HY.out.below hbr4); have HBY := Lib.hid (HBY.out.below' hbr4)))
    rcases HUC.out with hu | hu
    · have huc0 : uc = 0 := by rw [← HEQ.out.2]; exact hu
      obtain ⟨rfl, hk0, huok⟩ := uintC_zero hu
      obtain rfl := Tr.len_zero hk0
      have hb8 : ∀ x ∈ b, x < 256 := HIN.out.2.1.1.2.2.1
      have huv : uv = beV b := by rw [← HEQ.out.1]; exact (uint_good ⟨rfl, huok⟩).1
      have HOU := Lib.hid (fun W => by have := OfUint_any W uv (by rw [huv]; exact uok_lt huok hb8); rwa [huv, uok_back huok hb8, ← huv] at this : ∀ W, Calls Try.prog 23 #[.int .u64 (uv : Nat)] W (ItemIs 2 b W))
      clear huv huok hb8 hk0 hu HEQ HUC HU1 HU2 HB1 HB2 HG HLOW
      subst huc0
      go_wp2_with fail
      refine wp_region_L (fun w_ => Below wr4.heap.size wr4 w_) [] [0, 1, 2, 3, 7, 8] (by kernel_rfl) (Below.refl _ _).drew ?_
      refine wpAnyL_pure (fun _ _ hS_ hb_ => gr_bel hS_ hb_) (i := 0) rfl (by kernel_rfl) (fun _ _ _ h => h) (pureG (by rfl) (by intro w_; go_simp; first | done | with_reducible rfl)) ?_
      try simp only [Act.put, List.getElem_toArray, List.getElem_cons_succ, List.getElem_cons_zero, List.setIfInBounds_toArray, List.set_cons_zero, List.set_cons_succ]
      refine wpAnyL_pure (fun _ _ hS_ hb_ => gr_bel hS_ hb_) (i := 1) rfl (by kernel_rfl) (fun _ _ _ h => h) (pureG (by rfl) (by intro w_; go_simp; first | done | with_reducible rfl)) ?_
      try simp only [Act.put, List.getElem_toArray, List.getElem_cons_succ, List.getElem_cons_zero, List.setIfInBounds_toArray, List.set_cons_zero, List.set_cons_succ]
      refine wpAnyL_pure (fun _ _ hS_ hb_ => gr_bel hS_ hb_) (i := 2) rfl (by kernel_rfl) (fun _ _ _ h => h) (pureG (by rfl) (by intro w_; go_simp; first | done | with_reducible rfl)) ?_
      try simp only [Act.put, List.getElem_toArray, List.getElem_cons_succ, List.getElem_cons_zero, List.setIfInBounds_toArray, List.set_cons_zero, List.set_cons_succ]
      refine wpAnyL_pure (fun _ _ hS_ hb_ => gr_bel hS_ hb_) (i := 3) rfl (by kernel_rfl) (fun _ _ _ h => h) (pureG (by rfl) (by intro w_; go_simp; first | done | with_reducible rfl)) ?_
      try simp only [Act.put, List.getElem_toArray, List.getElem_cons_succ, List.getElem_cons_zero, List.setIfInBounds_toArray, List.set_cons_zero, List.set_cons_succ]
      refine wpAnyL_take (fun _ _ hS_ hb_ => gr_bel hS_ hb_) (i := 5) rfl (by kernel_rfl) (fun _ _ _ h => h) (loadG (by rfl) _ _ rfl w.heap.size 0 rfl [.int .u8 ((2 : Nat) : Int), .slice a b.length c, .slice a' Tr.nil.len c'] _ (fun w_ hS_ => blk_all (HW.out.gr hS_)) Try.underlying25 rfl info25) ?_
      try simp only [Act.put, List.getElem_toArray, List.getElem_cons_succ, List.getElem_cons_zero, List.setIfInBounds_toArray, List.set_cons_zero, List.set_cons_succ]
      refine wpAnyL_one (i := 4) (by kernel_rfl) (by decide) fun Wz1 hgWz1 hSWz1 => ?_
      refine wpOp_callE (i := 4) rfl (by rfl) rfl Try.func23 (by kernel_rfl) (by kernel_rfl) #[.int .u64 (uv : Nat)] (by simp [Act.eval]) ((HOU.out Wz1).mono ?_)
      rintro e uz1 ⟨az, cz, rfl, hiz, hbz1⟩
      refine ⟨_, rfl, Gr.trans hSWz1 hbz1, ?_⟩
      try simp only [Act.put, List.getElem_toArray, List.getElem_cons_succ, List.getElem_cons_zero, List.setIfInBounds_toArray, List.set_cons_zero, List.set_cons_succ]
      refine wpAnyL_one (i := 6) (by kernel_rfl) (by decide) fun Wz2 hgWz2 hSWz2 => ?_
      refine wpOp_callE (i := 6) rfl (by rfl) rfl Try.func11 (by kernel_rfl) (by kernel_rfl) #[itV 2 az b.length cz none 0 0, itV 2 a b.length c a' Tr.nil.len c'] (by simp [Act.eval]) ((sameI_self (k := .nil) (hiz.below hgWz2) (HIN.out.below hSWz2)).mono ?_)
      rintro e uz2 ⟨rfl, hbz2⟩
      refine ⟨_, rfl, Gr.trans hSWz2 hbz2, ?_⟩
      try simp only [Act.put, List.getElem_toArray, List.getElem_cons_succ, List.getElem_cons_zero, List.setIfInBounds_toArray, List.set_cons_zero, List.set_cons_succ]
      refine wpAnyL_pure (fun _ _ hS_ hb_ => gr_bel hS_ hb_) (i := 7) rfl (by kernel_rfl) (fun _ _ _ h => h) (pureG (by rfl) (by intro w_; go_simp; first | done | with_reducible rfl)) ?_
      try simp only [Act.put, List.getElem_toArray, List.getElem_cons_succ, List.getElem_cons_zero, List.setIfInBounds_toArray, List.set_cons_zero, List.set_cons_succ]
      refine wpAnyL_pure (fun _ _ hS_ hb_ => gr_bel hS_ hb_) (i := 8) rfl (by kernel_rfl) (fun _ _ _ h => h) (pureG (by rfl) (by intro w_; go_simp; first | done | with_reducible rfl)) ?_
      try simp only [Act.put, List.getElem_toArray, List.getElem_cons_succ, List.getElem_cons_zero, List.setIfInBounds_toArray, List.set_cons_zero, List.set_cons_succ]
      refine wpAnyL_done (by kernel_rfl) ?_ _
      intro Wz3 hgWz3
      have H0 := Lib.hid (H0.out.trans (Below.mono (Gr.trans (Gr.trans hSWz2 hbz2) hgWz3) H0.out.size))
      go_wp2_with fail
      go_ret
      exact ⟨rfl, H0.out⟩
    · have huc0 : (uc : Int) ≠ 0 := by have := HEQ.out.2; omega
      have huc1 : ((uc : Int) == 0) = false := by simpa using huc0
      clear hu HEQ HUC HU1 HU2 HB1 HB2 HG HLOW
      go_wp2_with fail
      refine wp_region_L (fun w_ => Below wr4.heap.size wr4 w_) [] [0, 1, 2, 3, 4, 5, 6, 7, 8] (by kernel_rfl) (Below.refl _ _).drew ?_
      refine wpAnyL_pure (fun _ _ hS_ hb_ => gr_bel hS_ hb_) (i := 0) rfl (by kernel_rfl) (fun _ _ _ h => h) (pureG (by rfl) (by intro w_; go_simp; first | done | with_reducible rfl)) ?_
      try simp only [Act.put, List.getElem_toArray, List.getElem_cons_succ, List.getElem_cons_zero, List.setIfInBounds_toArray, List.set_cons_zero, List.set_cons_succ]
      refine wpAnyL_pure (fun _ _ hS_ hb_ => gr_bel hS_ hb_) (i := 1) rfl (by kernel_rfl) (fun _ _ _ h => h) (pureG (by rfl) (by intro w_; go_simp; first | done | with_reducible rfl)) ?_
      try simp only [Act.put, List.getElem_toArray, List.getElem_cons_succ, List.getElem_cons_zero, List.setIfInBounds_toArray, List.set_cons_zero, List.set_cons_succ]
      refine wpAnyL_pure (fun _ _ hS_ hb_ => gr_bel hS_ hb_) (i := 2) rfl (by kernel_rfl) (fun _ _ _ h => h) (pureG (by rfl) (by intro w_; go_simp; first | done | with_reducible rfl)) ?_
      try simp only [Act.put, List.getElem_toArray, List.getElem_cons_succ, List.getElem_cons_zero, List.setIfInBounds_toArray, List.set_cons_zero, List.set_cons_succ]
      refine wpAnyL_pure (fun _ _ hS_ hb_ => gr_bel hS_ hb_) (i := 3) rfl (by kernel_rfl) (fun _ _ _ h => h) (skipG (by rfl)) ?_
      try simp only [Act.put, List.getElem_toArray, List.getElem_cons_succ, List.getElem_cons_zero, List.setIfInBounds_toArray, List.set_cons_zero, List.set_cons_succ]
      refine wpAnyL_pure (fun _ _ hS_ hb_ => gr_bel hS_ hb_) (i := 4) rfl (by kernel_rfl) (fun _ _ _ h => h) (skipG (by rfl)) ?_
      try simp only [Act.put, List.getElem_toArray, List.getElem_cons_succ, List.getElem_cons_zero, List.setIfInBounds_toArray, List.set_cons_zero, List.set_cons_succ]
      refine wpAnyL_pure (fun _ _ hS_ hb_ => gr_bel hS_ hb_) (i := 5) rfl (by kernel_rfl) (fun _ _ _ h => h) (skipG (by rfl)) ?_
      try simp only [Act.put, List.getElem_toArray, List.getElem_cons_succ, List.getElem_cons_zero, List.setIfInBounds_toArray, List.set_cons_zero, List.set_cons_succ]
      refine wpAnyL_pure (fun _ _ hS_ hb_ => gr_bel hS_ hb_) (i := 6) rfl (by kernel_rfl) (fun _ _ _ h => h) (skipG (by rfl)) ?_
      try simp only [Act.put, List.getElem_toArray, List.getElem_cons_succ, List.getElem_cons_zero, List.setIfInBounds_toArray, List.set_cons_zero, List.set_cons_succ]
      refine wpAnyL_pure (fun _ _ hS_ hb_ => gr_bel hS_ hb_) (i := 7) rfl (by kernel_rfl) (fun _ _ _ h => h) (skipG (by rfl)) ?_
      try simp only [Act.put, List.getElem_toArray, List.getElem_cons_succ, List.getElem_cons_zero, List.setIfInBounds_toArray, List.set_cons_zero, List.set_cons_succ]
      refine wpAnyL_pure (fun _ _ hS_ hb_ => gr_bel hS_ hb_) (i := 8) rfl (by kernel_rfl) (fun _ _ _ h => h) (pureG (by rfl) (by intro w_; go_simp; first | done | with_reducible rfl)) ?_
      try simp only [Act.put, List.getElem_toArray, List.getElem_cons_succ, List.getElem_cons_zero, List.setIfInBounds_toArray, List.set_cons_zero, List.set_cons_succ]
      refine wpAnyL_done (by kernel_rfl) ?_ _
      intro Wz3 hgWz3
      have H0 := Lib.hid (H0.out.trans (Below.mono (Gr.trans (Gr.drew _) hgWz3) H0.out.size))
      go_wp2_with fail
      go_ret
      exact ⟨rfl, H0.out⟩
end Go.Proofs.Ytbabpmncdphnjaa
