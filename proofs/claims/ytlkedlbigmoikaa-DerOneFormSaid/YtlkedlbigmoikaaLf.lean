/- The law that each item has one form. No condition. -/
import Derived.Test.YtlkedlbigmoikaaCn
import Derived.Test.YtlkedlbigmoikaaCt
namespace Go.Proofs.Ytlkedlbigmoikaa
open Go.RowKit
set_option linter.unusedVariables false

set_option maxRecDepth 100000 in
set_option maxHeartbeats 8000000 in
theorem lawForm (w : World) (t : Nat) (b : List Nat) (k : Tr) (a : Option Addr) (c : Nat) (a' : Option Addr) (c' : Nat) (l : List Nat) (al : Option Addr) (nl cl : Nat) (hin : ItIn w t a c a' c' b k) (hlow : k.low 140737488355328) (hbn : b.length ≤ 140737488351232) (hl : BIn w al nl cl l) :
    Calls Try.prog 5 #[itV t a b.length c a' k.len c', .slice al nl cl] w fun e w' => e = .returned (.bool true) ∧ Below w.heap.size w w' := by
  have hnl : l.length = nl := hl.1.1
  have hl8 : ∀ x ∈ l, x < 256 := hl.1.2.2.1
  have HW := Lib.hid (Blk.new w 25 [.int .u8 (t : Nat), .slice a b.length c, .slice a' k.len c'])
  have h0 := (Below.refl _ w).alloc (Nat.le_refl _) (.cells #[.int .u8 (t : Nat), .slice a b.length c, .slice a' k.len c'] 25)
  have HIN := Lib.hid (hin.below h0)
  have HLN := Lib.hid (hl.below h0)
  have HLOW := Lib.hid hlow
  have HBN := Lib.hid hbn
  have H0 := Lib.hid h0
  have HL8 := Lib.hid hl8
  clear hin hl hlow hbn hl8
  go_enter Try.func5, Try.ntmps5
  generalize hW1 : w.alloc (.cells #[.int .u8 (t : Nat), .slice a b.length c, .slice a' k.len c'] 25) = W1 at *
  by_cases hg : 65536 < k.cnt (1 + b.length) 65536
  · have HG := Lib.hid (great_any W1 t b k a c a' c' HIN.out (by have := HBN.out; omega) HLOW.out)
    rw [decide_eq_true hg] at HG
    go_wp2_with (first | (refine wpList_load_row (P := Try.prog) rfl 25 (.tmp 2) rfl w.heap.size rfl 25 _ _ _ HW.out Try.underlying25 rfl info25 ?_) | (go_at_call 16; (with_reducible refine (HG.out).mono ?_); rintro e w2 ⟨rfl, hb2⟩; have HW := Lib.hid (HW.out.below' hb2); have HIN := Lib.hid (HIN.out.below hb2); have HLN := Lib.hid (HLN.out.below hb2); have H0 := Lib.hid (H0.out.trans (hb2.mono H0.out.size))) | (go_at_call 15; refine (alive_any _).mono ?_; rintro e wa ⟨rfl, hba⟩; have HW := Lib.hid (HW.out.below' hba); have HIN := Lib.hid (HIN.out.below hba); have HLN := Lib.hid (HLN.out.below hba); have H0 := Lib.hid (H0.out.trans (hba.mono H0.out.size))))
    go_ret
    exact ⟨rfl, H0.out⟩
  · have HG := Lib.hid (great_any W1 t b k a c a' c' HIN.out (by have := HBN.out; omega) HLOW.out)
    rw [decide_eq_false hg] at HG
    cases hE : encE t b k with
    | error x =>
      have hx0 : x ≠ 0 := encE_err0 hE
      have hxi := eqzS hx0
      have HE := Lib.hid hE
      clear hE hx0
      cases hD : decE l with
      | error y =>
        have hy0 : y ≠ 0 := by have := dec_err0 hD; omega
        have hyi := nzS hy0
        have HD := Lib.hid hD
        clear hD hy0
        go_wp2_with (first | (refine wpList_load_row (P := Try.prog) rfl 25 (.tmp 2) rfl w.heap.size rfl 25 _ _ _ HW.out Try.underlying25 rfl info25 ?_) | (go_at_call 16; (with_reducible refine (HG.out).mono ?_); rintro e w2 ⟨rfl, hb2⟩; have HW := Lib.hid (HW.out.below' hb2); have HIN := Lib.hid (HIN.out.below hb2); have HLN := Lib.hid (HLN.out.below hb2); have H0 := Lib.hid (H0.out.trans (hb2.mono H0.out.size))) | (go_at_call 18; have hs := enc_bad HE.out HIN.out; (with_reducible refine hs.mono ?_); rintro e w3 ⟨rfl, hb3⟩; have HW := Lib.hid (HW.out.below' hb3); have HIN := Lib.hid (HIN.out.below hb3); have HLN := Lib.hid (HLN.out.below hb3); have H0 := Lib.hid (H0.out.trans (hb3.mono H0.out.size))) | (go_at_call 11; have hs := decd_bad HD.out HLN.out; (with_reducible refine hs.mono ?_); rintro e w6 ⟨rfl, hb6⟩; have HW := Lib.hid (HW.out.below' hb6); have HIN := Lib.hid (HIN.out.below hb6); have HLN := Lib.hid (HLN.out.below hb6); have H0 := Lib.hid (H0.out.trans (hb6.mono H0.out.size)); have HZ := Lib.hid (Blk.new w6 25 [.int .u8 0, .slice none 0 0, .slice none 0 0])) | (go_at_call 15; refine (alive_any _).mono ?_; rintro e wa ⟨rfl, hba⟩; have hba' := ((((Below.refl _ _).alloc (Nat.le_refl _) _)).trans (hba.mono (by simp))); have HW := Lib.hid (HW.out.below' hba'); have HIN := Lib.hid (HIN.out.below hba'); have HLN := Lib.hid (HLN.out.below hba'); have H0 := Lib.hid (H0.out.trans (hba'.mono H0.out.size)); have HZ := Lib.hid (HZ.out.below' hba); have z0 := HZ.out.cell 0; have z1 := HZ.out.cell 1; have z2 := HZ.out.cell 2; simp at z0 z1 z2))
        go_ret
        exact ⟨rfl, H0.out⟩
      | ok p =>
        obtain ⟨t6, b6, k6⟩ := p
        have HE2 := Lib.hid (enc_back HL8.out hD)
        have HD := Lib.hid hD
        clear hD
        go_wp2_with (first | (refine wpList_load_row (P := Try.prog) rfl 25 (.tmp 2) rfl w.heap.size rfl 25 _ _ _ HW.out Try.underlying25 rfl info25 ?_) | (go_at_call 16; (with_reducible refine (HG.out).mono ?_); rintro e w2 ⟨rfl, hb2⟩; have HW := Lib.hid (HW.out.below' hb2); have HIN := Lib.hid (HIN.out.below hb2); have HLN := Lib.hid (HLN.out.below hb2); have H0 := Lib.hid (H0.out.trans (hb2.mono H0.out.size))) | (go_at_call 18; have hs := enc_bad HE.out HIN.out; (with_reducible refine hs.mono ?_); rintro e w3 ⟨rfl, hb3⟩; have HW := Lib.hid (HW.out.below' hb3); have HIN := Lib.hid (HIN.out.below hb3); have HLN := Lib.hid (HLN.out.below hb3); have H0 := Lib.hid (H0.out.trans (hb3.mono H0.out.size))) | (go_at_call 11; have hs := decd_ok HD.out HLN.out; (with_reducible refine hs.mono ?_); rintro e w6 ⟨a6, c6, a7, c7, rfl, hi6, hb6⟩; have HW := Lib.hid (HW.out.below' hb6); have HIN := Lib.hid (HIN.out.below hb6); have HLN := Lib.hid (HLN.out.below hb6); have H0 := Lib.hid (H0.out.trans (hb6.mono H0.out.size)); have H6 := Lib.hid hi6; clear hi6) | (go_at_call 18; (with_reducible refine (enc_ok HE2.out (H6.out.below ((Below.refl _ _).alloc (Nat.le_refl _) _))).mono ?_); rintro e w7 ⟨a8, c8, rfl, hi8, hb8⟩; have hb8' := ((((Below.refl _ _).alloc (Nat.le_refl _) _)).trans (hb8.mono (by simp))); have HW := Lib.hid (HW.out.below' hb8'); have HIN := Lib.hid (HIN.out.below hb8'); have HLN := Lib.hid (HLN.out.below hb8'); have H0 := Lib.hid (H0.out.trans (hb8'.mono H0.out.size)); have H8 := Lib.hid hi8; clear hi8) | (go_at_call 15; refine (alive_any _).mono ?_; rintro e wa ⟨rfl, hba⟩; have HW := Lib.hid (HW.out.below' hba); have HIN := Lib.hid (HIN.out.below hba); have HLN := Lib.hid (HLN.out.below hba); have H0 := Lib.hid (H0.out.trans (hba.mono H0.out.size)); have H8 := Lib.hid (H8.out.below hba)) | (go_at_call 14; have hs := sameB_any _ _ _ _ _ _ _ l l H8.out HLN.out; rw [hnl, decide_eq_true (show l = l from rfl)] at hs; (with_reducible refine hs.mono ?_); rintro e wy ⟨rfl, hby⟩; have HW := Lib.hid (HW.out.below' hby); have HIN := Lib.hid (HIN.out.below hby); have HLN := Lib.hid (HLN.out.below hby); have H0 := Lib.hid (H0.out.trans (hby.mono H0.out.size))))
        go_ret
        exact ⟨rfl, H0.out⟩
    | ok q =>
      have HE := Lib.hid hE
      have HD1 := Lib.hid (dec_back hE)
      clear hE
      cases hD : decE l with
      | error y =>
        have hy0 : y ≠ 0 := by have := dec_err0 hD; omega
        have hyi := nzS hy0
        have HD := Lib.hid hD
        clear hD hy0
        go_wp2_with (first | (refine wpList_load_row (P := Try.prog) rfl 25 (.tmp 2) rfl w.heap.size rfl 25 _ _ _ HW.out Try.underlying25 rfl info25 ?_) | (refine wpList_load_row (P := Try.prog) rfl 25 (.tmp 2) rfl w.heap.size rfl 25 _ _ _ (HW.out.alloc _) Try.underlying25 rfl info25 ?_) | (go_at_call 16; (with_reducible refine (HG.out).mono ?_); rintro e w2 ⟨rfl, hb2⟩; have HW := Lib.hid (HW.out.below' hb2); have HIN := Lib.hid (HIN.out.below hb2); have HLN := Lib.hid (HLN.out.below hb2); have H0 := Lib.hid (H0.out.trans (hb2.mono H0.out.size))) | (go_at_call 18; have hs := enc_ok HE.out HIN.out; (with_reducible refine hs.mono ?_); rintro e w3 ⟨a3, c3, rfl, hi3, hb3⟩; have HW := Lib.hid (HW.out.below' hb3); have HIN := Lib.hid (HIN.out.below hb3); have HLN := Lib.hid (HLN.out.below hb3); have H0 := Lib.hid (H0.out.trans (hb3.mono H0.out.size)); have H3 := Lib.hid hi3; clear hi3) | (go_at_call 11; have hs := decd_ok HD1.out H3.out; (with_reducible refine hs.mono ?_); rintro e w4 ⟨a4, c4, a5, c5, rfl, hi4, hb4⟩; have HW := Lib.hid (HW.out.below' hb4); have HIN := Lib.hid (HIN.out.below hb4); have HLN := Lib.hid (HLN.out.below hb4); have H0 := Lib.hid (H0.out.trans (hb4.mono H0.out.size)); have H4 := Lib.hid hi4; clear hi4) | (go_at_call 12; (with_reducible refine (sameI_self (H4.out.below ((Below.refl _ _).alloc (Nat.le_refl _) _)) (HIN.out.below ((Below.refl _ _).alloc (Nat.le_refl _) _))).mono ?_); rintro e w5 ⟨rfl, hb5⟩; have hb5' := ((((Below.refl _ _).alloc (Nat.le_refl _) _)).trans (hb5.mono (by simp))); have HW := Lib.hid (HW.out.below' hb5'); have HIN := Lib.hid (HIN.out.below hb5'); have HLN := Lib.hid (HLN.out.below hb5'); have H0 := Lib.hid (H0.out.trans (hb5'.mono H0.out.size))) | (go_at_call 11; have hs := decd_bad HD.out HLN.out; (with_reducible refine hs.mono ?_); rintro e w6 ⟨rfl, hb6⟩; have HW := Lib.hid (HW.out.below' hb6); have HIN := Lib.hid (HIN.out.below hb6); have HLN := Lib.hid (HLN.out.below hb6); have H0 := Lib.hid (H0.out.trans (hb6.mono H0.out.size)); have HZ := Lib.hid (Blk.new w6 25 [.int .u8 0, .slice none 0 0, .slice none 0 0])) | (go_at_call 15; refine (alive_any _).mono ?_; rintro e wa ⟨rfl, hba⟩; have hba' := ((((Below.refl _ _).alloc (Nat.le_refl _) _)).trans (hba.mono (by simp))); have HW := Lib.hid (HW.out.below' hba'); have HIN := Lib.hid (HIN.out.below hba'); have HLN := Lib.hid (HLN.out.below hba'); have H0 := Lib.hid (H0.out.trans (hba'.mono H0.out.size)); have HZ := Lib.hid (HZ.out.below' hba); have z0 := HZ.out.cell 0; have z1 := HZ.out.cell 1; have z2 := HZ.out.cell 2; simp at z0 z1 z2))
        go_ret
        exact ⟨rfl, H0.out⟩
      | ok p =>
        obtain ⟨t6, b6, k6⟩ := p
        have HE2 := Lib.hid (enc_back HL8.out hD)
        have HD := Lib.hid hD
        clear hD
        go_wp2_with (first | (refine wpList_load_row (P := Try.prog) rfl 25 (.tmp 2) rfl w.heap.size rfl 25 _ _ _ HW.out Try.underlying25 rfl info25 ?_) | (refine wpList_load_row (P := Try.prog) rfl 25 (.tmp 2) rfl w.heap.size rfl 25 _ _ _ (HW.out.alloc _) Try.underlying25 rfl info25 ?_) | (go_at_call 16; (with_reducible refine (HG.out).mono ?_); rintro e w2 ⟨rfl, hb2⟩; have HW := Lib.hid (HW.out.below' hb2); have HIN := Lib.hid (HIN.out.below hb2); have HLN := Lib.hid (HLN.out.below hb2); have H0 := Lib.hid (H0.out.trans (hb2.mono H0.out.size))) | (go_at_call 18; have hs := enc_ok HE.out HIN.out; (with_reducible refine hs.mono ?_); rintro e w3 ⟨a3, c3, rfl, hi3, hb3⟩; have HW := Lib.hid (HW.out.below' hb3); have HIN := Lib.hid (HIN.out.below hb3); have HLN := Lib.hid (HLN.out.below hb3); have H0 := Lib.hid (H0.out.trans (hb3.mono H0.out.size)); have H3 := Lib.hid hi3; clear hi3) | (go_at_call 11; have hs := decd_ok HD1.out H3.out; (with_reducible refine hs.mono ?_); rintro e w4 ⟨a4, c4, a5, c5, rfl, hi4, hb4⟩; have HW := Lib.hid (HW.out.below' hb4); have HIN := Lib.hid (HIN.out.below hb4); have HLN := Lib.hid (HLN.out.below hb4); have H0 := Lib.hid (H0.out.trans (hb4.mono H0.out.size)); have H4 := Lib.hid hi4; clear hi4) | (go_at_call 12; (with_reducible refine (sameI_self (H4.out.below ((Below.refl _ _).alloc (Nat.le_refl _) _)) (HIN.out.below ((Below.refl _ _).alloc (Nat.le_refl _) _))).mono ?_); rintro e w5 ⟨rfl, hb5⟩; have hb5' := ((((Below.refl _ _).alloc (Nat.le_refl _) _)).trans (hb5.mono (by simp))); have HW := Lib.hid (HW.out.below' hb5'); have HIN := Lib.hid (HIN.out.below hb5'); have HLN := Lib.hid (HLN.out.below hb5'); have H0 := Lib.hid (H0.out.trans (hb5'.mono H0.out.size))) | (go_at_call 11; have hs := decd_ok HD.out HLN.out; (with_reducible refine hs.mono ?_); rintro e w6 ⟨a6, c6, a7, c7, rfl, hi6, hb6⟩; have HW := Lib.hid (HW.out.below' hb6); have HIN := Lib.hid (HIN.out.below hb6); have HLN := Lib.hid (HLN.out.below hb6); have H0 := Lib.hid (H0.out.trans (hb6.mono H0.out.size)); have H6 := Lib.hid hi6; clear hi6) | (go_at_call 18; (with_reducible refine (enc_ok HE2.out (H6.out.below ((Below.refl _ _).alloc (Nat.le_refl _) _))).mono ?_); rintro e w7 ⟨a8, c8, rfl, hi8, hb8⟩; have hb8' := ((((Below.refl _ _).alloc (Nat.le_refl _) _)).trans (hb8.mono (by simp))); have HW := Lib.hid (HW.out.below' hb8'); have HIN := Lib.hid (HIN.out.below hb8'); have HLN := Lib.hid (HLN.out.below hb8'); have H0 := Lib.hid (H0.out.trans (hb8'.mono H0.out.size)); have H8 := Lib.hid hi8; clear hi8) | (go_at_call 15; refine (alive_any _).mono ?_; rintro e wa ⟨rfl, hba⟩; have HW := Lib.hid (HW.out.below' hba); have HIN := Lib.hid (HIN.out.below hba); have HLN := Lib.hid (HLN.out.below hba); have H0 := Lib.hid (H0.out.trans (hba.mono H0.out.size)); have H8 := Lib.hid (H8.out.below hba)) | (go_at_call 14; have hs := sameB_any _ _ _ _ _ _ _ l l H8.out HLN.out; rw [hnl, decide_eq_true (show l = l from rfl)] at hs; (with_reducible refine hs.mono ?_); rintro e wy ⟨rfl, hby⟩; have HW := Lib.hid (HW.out.below' hby); have HIN := Lib.hid (HIN.out.below hby); have HLN := Lib.hid (HLN.out.below hby); have H0 := Lib.hid (H0.out.trans (hby.mono H0.out.size))))
        go_ret
        exact ⟨rfl, H0.out⟩
end Go.Proofs.Ytlkedlbigmoikaa
