/- The law that items are written as the document says. No condition. -/
import Derived.Test.YtbabpmncdphnjaaCp
import Derived.Test.YtbabpmncdphnjaaDn
namespace Go.Proofs.Ytbabpmncdphnjaa
open Go.RowKit
set_option linter.unusedVariables false
set_option maxRecDepth 100000

theorem refEnc_bad {t : Nat} {b : List Nat} {k : Tr} {x : Nat} (h : encE t b k = .error x) {w : World} {a : Option Addr} {c : Nat} {a' : Option Addr} {c' : Nat} (hin : ItIn w t a c a' c' b k) (hbd : 1 + b.length + k.sz ≤ 65536) :
    Calls Try.prog 18 #[itV t a b.length c a' k.len c'] w fun e w' => e = .returned (.tuple #[.slice none 0 0, .int .i64 (x : Nat)]) ∧ Below w.heap.size w w' := by
  have := refEnc_any w t b k a c a' c' hin hbd
  rw [h] at this; exact this.mono fun e w' h => ⟨h.2, h.1⟩
theorem refEnc_ok {t : Nat} {b : List Nat} {k : Tr} {l : List Nat} (h : encE t b k = .ok l) {w : World} {a : Option Addr} {c : Nat} {a' : Option Addr} {c' : Nat} (hin : ItIn w t a c a' c' b k) (hbd : 1 + b.length + k.sz ≤ 65536) :
    Calls Try.prog 18 #[itV t a b.length c a' k.len c'] w fun e w' => ∃ x y, e = .returned (.tuple #[.slice x l.length y, .int .i64 0]) ∧ BIn w' x l.length y l ∧ Below w.heap.size w w' := by
  have := refEnc_any w t b k a c a' c' hin hbd
  rw [h] at this; exact this.mono fun e w' h => by obtain ⟨x, y, h1, h2⟩ := h.2; exact ⟨x, y, h1, h2, h.1⟩
theorem cp_ok {t : Nat} {b : List Nat} {k : Tr} {w : World} {a : Option Addr} {c : Nat} {a' : Option Addr} {c' : Nat} (hin : ItIn w t a c a' c' b k) (hbd : 1 + b.length + k.sz ≤ 65536) :
    Calls Try.prog 16 #[itV t a b.length c a' k.len c'] w fun e w' => ∃ a1 c1 a2 c2, e = .returned (itV t a1 b.length c1 a2 k.len c2) ∧ ItIn w' t a1 c1 a2 c2 b k ∧ Below w.heap.size w w' :=
  (Copied_any (k.sz + 1) k (Nat.lt_succ_self _) w t b a c a' c' hin hbd).mono fun e w' h => by
    obtain ⟨v1, v2, L, rfl, hV, hN, hb⟩ := h
    obtain ⟨a1, c1, a2, c2, _, rfl, rfl, hit⟩ := hV.item
    exact ⟨a1, c1, a2, c2, rfl, hit, hb⟩
theorem bin_nil2 (w : World) : BIn w none 0 0 [] := bin_empty w none 0 (by simp [maxLen]) (fun _ => rfl)

set_option maxHeartbeats 8000000 in
theorem lawWrites (w : World) (t : Nat) (b : List Nat) (k : Tr) (a : Option Addr) (c : Nat) (a' : Option Addr) (c' : Nat) (hin : ItIn w t a c a' c' b k) (hlow : k.low 140737488355328) (hbn : b.length ≤ 140737488351232) :
    Calls Try.prog 4 #[itV t a b.length c a' k.len c'] w fun e w' => e = .returned (.bool true) ∧ Below w.heap.size w w' := by
  have HW := Lib.hid (Blk.new w 25 [.int .u8 (t : Nat), .slice a b.length c, .slice a' k.len c'])
  have h0 := (Below.refl _ w).alloc (Nat.le_refl _) (.cells #[.int .u8 (t : Nat), .slice a b.length c, .slice a' k.len c'] 25)
  have HIN := Lib.hid (hin.below h0)
  have HLOW := Lib.hid hlow
  have HBN := Lib.hid hbn
  have H0 := Lib.hid h0
  have hsz : w.heap.size < (w.alloc (.cells #[.int .u8 (t : Nat), .slice a b.length c, .slice a' k.len c'] 25)).heap.size := by simp
  clear hin hlow hbn
  go_enter Try.func4, Try.ntmps4
  generalize hW1 : w.alloc (.cells #[.int .u8 (t : Nat), .slice a b.length c, .slice a' k.len c'] 25) = W1 at *
  have HG := Lib.hid (great_any W1 t b k a c a' c' HIN.out (by have := HBN.out; omega) HLOW.out)
  by_cases hg : 65536 < k.cnt (1 + b.length) 65536
  · rw [decide_eq_true hg] at HG
    go_wp2_with (first | (refine wpList_load_row (P := Try.prog) rfl 25 (.tmp 1) rfl w.heap.size rfl 25 _ _ _ HW.out Try.underlying25 rfl info25 ?_) | (go_at_call 15; (with_reducible refine (HG.out).mono ?_); rintro e w2 ⟨rfl, hb2⟩; have HW := Lib.hid (HW.out.below' hb2); have HIN := Lib.hid (HIN.out.below hb2); have H0 := Lib.hid (H0.out.trans ((hb2).mono H0.out.size))) | (go_at_call 14; (with_reducible refine (alive_any _).mono ?_); rintro e wa ⟨rfl, hba⟩; have H0 := Lib.hid (H0.out.trans (hba.mono H0.out.size))))
    go_ret
    exact ⟨rfl, H0.out⟩
  · rw [decide_eq_false hg] at HG
    have hcn := Tr.cnt_sz k (1 + b.length) 65536 (by omega)
    have HBD := Lib.hid (show 1 + b.length + k.sz ≤ 65536 by omega)
    have hs1 := hsz
    clear hg hcn
    cases hE : encE t b k with
    | error x =>
      have HE := Lib.hid hE
      clear hE
      go_wp2_with (first | (refine wpList_load_row (P := Try.prog) rfl 25 (.tmp 1) rfl w.heap.size rfl 25 _ _ _ HW.out Try.underlying25 rfl info25 ?_) | (go_at_call 15; (with_reducible refine (HG.out).mono ?_); rintro e w2 ⟨rfl, hb2⟩; have HW := Lib.hid (HW.out.below' hb2); have HIN := Lib.hid (HIN.out.below hb2); have H0 := Lib.hid (H0.out.trans ((hb2).mono H0.out.size))) | (go_at_call 16; (with_reducible refine (cp_ok HIN.out HBD.out).mono ?_); rintro e w3 ⟨a3, c3, a4, c4, rfl, hi3, hb3⟩; have HW := Lib.hid (HW.out.below' hb3); have HIN := Lib.hid (HIN.out.below hb3); have H0 := Lib.hid (H0.out.trans ((hb3).mono H0.out.size)); have HX := Lib.hid (Blk.new w3 25 [.int .u8 0, .slice none 0 0, .slice none 0 0]); have HI := Lib.hid hi3; clear hi3) | (refine wpList_store_row (P := Try.prog) rfl 25 (.tmp 4) (.tmp 16) rfl w3.heap.size #[.int .u8 (t : Nat), .slice a3 b.length c3, .slice a4 k.len c4] rfl rfl 25 _ HX.out info25 rfl (all_item _ _ _ _ _ _ _) ?_; have hb4 : Gr w3 ((w3.alloc (.cells #[.int .u8 0, .slice none 0 0, .slice none 0 0] 25)).setRow w3.heap.size #[.int .u8 (t : Nat), .slice a3 b.length c3, .slice a4 k.len c4]) := below_setRow' (Gr.alloc w3 _) (Nat.le_refl _) _; have HX := Lib.hid (HX.out.setRow [.int .u8 (t : Nat), .slice a3 b.length c3, .slice a4 k.len c4]); have HW := Lib.hid (HW.out.below' hb4); have HIN := Lib.hid (HIN.out.below hb4); have H0 := Lib.hid (H0.out.trans ((hb4).mono H0.out.size)); have HI := Lib.hid (HI.out.below hb4)) | (refine wpList_load_row (P := Try.prog) rfl 25 (.tmp 4) rfl w3.heap.size rfl 25 _ _ _ HX.out Try.underlying25 rfl info25 ?_) | (go_at_call 17; have hs := enc_bad HE.out HI.out; (with_reducible refine hs.mono ?_); rintro e w4 ⟨rfl, hb4⟩; have HW := Lib.hid (HW.out.below' hb4); have HIN := Lib.hid (HIN.out.below hb4); have H0 := Lib.hid (H0.out.trans ((hb4).mono H0.out.size)); have HI := Lib.hid (HI.out.below hb4); have HX := Lib.hid (HX.out.below' hb4)) | (go_at_call 18; have hs := refEnc_bad HE.out HIN.out HBD.out; (with_reducible refine hs.mono ?_); rintro e w5 ⟨rfl, hb5⟩; have HW := Lib.hid (HW.out.below' hb5); have HIN := Lib.hid (HIN.out.below hb5); have H0 := Lib.hid (H0.out.trans ((hb5).mono H0.out.size)); have HI := Lib.hid (HI.out.below hb5); have HX := Lib.hid (HX.out.below' hb5)) | (go_at_call 13; have hs := sameB_any w5 none none 0 0 0 0 [] [] (bin_nil2 w5) (bin_nil2 w5); rw [decide_eq_true (show ([] : List Nat) = [] from rfl)] at hs; (with_reducible refine hs.mono ?_); rintro e w6 ⟨rfl, hb6⟩; have HW := Lib.hid (HW.out.below' hb6); have HIN := Lib.hid (HIN.out.below hb6); have H0 := Lib.hid (H0.out.trans ((hb6).mono H0.out.size)); have HI := Lib.hid (HI.out.below hb6); have HX := Lib.hid (HX.out.below' hb6)) | (go_at_call 11; (with_reducible refine (sameI_self HI.out HIN.out).mono ?_); rintro e w7 ⟨rfl, hb7⟩; have H0 := Lib.hid (H0.out.trans (hb7.mono H0.out.size))) | (go_at_call 14; (with_reducible refine (alive_any _).mono ?_); rintro e wa ⟨rfl, hba⟩; have H0 := Lib.hid (H0.out.trans (hba.mono H0.out.size))))
      go_ret
      exact ⟨rfl, H0.out⟩
    
    | ok l =>
      have HE := Lib.hid hE
      clear hE
      go_wp2_with (first | (refine wpList_load_row (P := Try.prog) rfl 25 (.tmp 1) rfl w.heap.size rfl 25 _ _ _ HW.out Try.underlying25 rfl info25 ?_) | (go_at_call 15; (with_reducible refine (HG.out).mono ?_); rintro e w2 ⟨rfl, hb2⟩; have HW := Lib.hid (HW.out.below' hb2); have HIN := Lib.hid (HIN.out.below hb2); have H0 := Lib.hid (H0.out.trans ((hb2).mono H0.out.size))) | (go_at_call 16; (with_reducible refine (cp_ok HIN.out HBD.out).mono ?_); rintro e w3 ⟨a3, c3, a4, c4, rfl, hi3, hb3⟩; have HW := Lib.hid (HW.out.below' hb3); have HIN := Lib.hid (HIN.out.below hb3); have H0 := Lib.hid (H0.out.trans ((hb3).mono H0.out.size)); have HX := Lib.hid (Blk.new w3 25 [.int .u8 0, .slice none 0 0, .slice none 0 0]); have HI := Lib.hid hi3; clear hi3) | (refine wpList_store_row (P := Try.prog) rfl 25 (.tmp 4) (.tmp 16) rfl w3.heap.size #[.int .u8 (t : Nat), .slice a3 b.length c3, .slice a4 k.len c4] rfl rfl 25 _ HX.out info25 rfl (all_item _ _ _ _ _ _ _) ?_; have hb4 : Gr w3 ((w3.alloc (.cells #[.int .u8 0, .slice none 0 0, .slice none 0 0] 25)).setRow w3.heap.size #[.int .u8 (t : Nat), .slice a3 b.length c3, .slice a4 k.len c4]) := below_setRow' (Gr.alloc w3 _) (Nat.le_refl _) _; have HX := Lib.hid (HX.out.setRow [.int .u8 (t : Nat), .slice a3 b.length c3, .slice a4 k.len c4]); have HW := Lib.hid (HW.out.below' hb4); have HIN := Lib.hid (HIN.out.below hb4); have H0 := Lib.hid (H0.out.trans ((hb4).mono H0.out.size)); have HI := Lib.hid (HI.out.below hb4)) | (refine wpList_load_row (P := Try.prog) rfl 25 (.tmp 4) rfl w3.heap.size rfl 25 _ _ _ HX.out Try.underlying25 rfl info25 ?_) | (go_at_call 17; have hs := enc_ok HE.out HI.out; (with_reducible refine hs.mono ?_); rintro e w4 ⟨x4, y4, rfl, hi4, hb4⟩; have HW := Lib.hid (HW.out.below' hb4); have HIN := Lib.hid (HIN.out.below hb4); have H0 := Lib.hid (H0.out.trans ((hb4).mono H0.out.size)); have HI := Lib.hid (HI.out.below hb4); have HX := Lib.hid (HX.out.below' hb4); have HL4 := Lib.hid hi4; clear hi4) | (go_at_call 18; have hs := refEnc_ok HE.out HIN.out HBD.out; (with_reducible refine hs.mono ?_); rintro e w5 ⟨x5, y5, rfl, hi5, hb5⟩; have HW := Lib.hid (HW.out.below' hb5); have HIN := Lib.hid (HIN.out.below hb5); have H0 := Lib.hid (H0.out.trans ((hb5).mono H0.out.size)); have HI := Lib.hid (HI.out.below hb5); have HL4 := Lib.hid (HL4.out.below hb5); have HX := Lib.hid (HX.out.below' hb5); have HL5 := Lib.hid hi5; clear hi5) | (go_at_call 13; have hs := sameB_any _ _ _ _ _ _ _ l l HL4.out HL5.out; rw [decide_eq_true (show l = l from rfl)] at hs; (with_reducible refine hs.mono ?_); rintro e w6 ⟨rfl, hb6⟩; have HW := Lib.hid (HW.out.below' hb6); have HIN := Lib.hid (HIN.out.below hb6); have H0 := Lib.hid (H0.out.trans ((hb6).mono H0.out.size)); have HI := Lib.hid (HI.out.below hb6); have HX := Lib.hid (HX.out.below' hb6)) | (go_at_call 11; (with_reducible refine (sameI_self HI.out HIN.out).mono ?_); rintro e w7 ⟨rfl, hb7⟩; have H0 := Lib.hid (H0.out.trans (hb7.mono H0.out.size))) | (go_at_call 14; (with_reducible refine (alive_any _).mono ?_); rintro e wa ⟨rfl, hba⟩; have H0 := Lib.hid (H0.out.trans (hba.mono H0.out.size))))
      go_ret
      exact ⟨rfl, H0.out⟩
end Go.Proofs.Ytbabpmncdphnjaa
