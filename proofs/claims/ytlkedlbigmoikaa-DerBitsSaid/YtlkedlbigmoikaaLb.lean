/- The law of whole bytes of a bit string. No condition. -/
import Derived.Test.YtlkedlbigmoikaaBt
import Derived.Test.YtlkedlbigmoikaaSm
import Derived.Test.YtlkedlbigmoikaaCt
namespace Go.Proofs.Ytlkedlbigmoikaa
open Go.RowKit
set_option linter.unusedVariables false

theorem bits_back (b : List Nat) : bitsL 3 (0 :: b) .nil = b ∧ bitsC 3 (0 :: b) .nil = 0 := by
  have := bits_good (t := 3) (b := 0 :: b) (k := .nil) ⟨rfl, rfl, by simp, rfl⟩
  simpa using this

set_option maxRecDepth 100000 in
set_option maxHeartbeats 8000000 in
theorem lawBits (w : World) (t : Nat) (b : List Nat) (k : Tr) (a : Option Addr) (c : Nat) (a' : Option Addr) (c' : Nat) (l : List Nat) (al : Option Addr) (nl cl : Nat) (hin : ItIn w t a c a' c' b k) (hlow : k.low 140737488355328) (hbn : b.length ≤ 140737488351232) (hl : BIn w al nl cl l) (hln : nl ≤ 140737488351232) :
    Calls Try.prog 9 #[itV t a b.length c a' k.len c', .slice al nl cl] w fun e w' => e = .returned (.bool true) ∧ Below w.heap.size w w' := by
  have hnl : l.length = nl := hl.1.1
  have HW := Lib.hid (Blk.new w 25 [.int .u8 (t : Nat), .slice a b.length c, .slice a' k.len c'])
  have h0 := (Below.refl _ w).alloc (Nat.le_refl _) (.cells #[.int .u8 (t : Nat), .slice a b.length c, .slice a' k.len c'] 25)
  have HIN := Lib.hid (hin.below h0)
  have HLN := Lib.hid (hl.below h0)
  have HLOW := Lib.hid hlow
  have HBN := Lib.hid hbn
  have HNL := Lib.hid hln
  have H0 := Lib.hid h0
  clear hin hl hlow hbn hln
  go_enter Try.func9, Try.ntmps9
  generalize hW1 : w.alloc (.cells #[.int .u8 (t : Nat), .slice a b.length c, .slice a' k.len c'] 25) = W1 at *
  by_cases hg : 65536 < k.cnt (1 + b.length) 65536
  · have HG := Lib.hid (great_any W1 t b k a c a' c' HIN.out (by have := HBN.out; omega) HLOW.out)
    rw [decide_eq_true hg] at HG
    go_wp2_with (first | (refine wpList_load_row (P := Try.prog) rfl 25 (.tmp 2) rfl w.heap.size rfl 25 _ _ _ HW.out Try.underlying25 rfl info25 ?_) | (go_at_call 16; (with_reducible refine (HG.out).mono ?_); rintro e w2 ⟨rfl, hb2⟩; have HW := Lib.hid (HW.out.below' hb2); have HIN := Lib.hid (HIN.out.below hb2); have HLN := Lib.hid (HLN.out.below hb2); have H0 := Lib.hid (H0.out.trans (hb2.mono H0.out.size))) | (go_at_call 15; (with_reducible refine (alive_any _).mono ?_); rintro e wa ⟨rfl, hba⟩; have HW := Lib.hid (HW.out.below' hba); have HIN := Lib.hid (HIN.out.below hba); have HLN := Lib.hid (HLN.out.below hba); have H0 := Lib.hid (H0.out.trans (hba.mono H0.out.size))))
    go_ret
    exact ⟨rfl, H0.out⟩
  · have HG := Lib.hid (great_any W1 t b k a c a' c' HIN.out (by have := HBN.out; omega) HLOW.out)
    rw [decide_eq_false hg] at HG
    go_wp2_with (first | (refine wpList_load_row (P := Try.prog) rfl 25 (.tmp 2) rfl w.heap.size rfl 25 _ _ _ HW.out Try.underlying25 rfl info25 ?_) | (go_at_call 16; (with_reducible refine (HG.out).mono ?_); rintro e w2 ⟨rfl, hb2⟩; have HW := Lib.hid (HW.out.below' hb2); have HIN := Lib.hid (HIN.out.below hb2); have HLN := Lib.hid (HLN.out.below hb2); have H0 := Lib.hid (H0.out.trans (hb2.mono H0.out.size))) | (go_at_call 33; (with_reducible refine (Bits_any _ t b k a c a' c' HIN.out).mono ?_); rintro e w3 ⟨a3, c3, rfl, hi3, hb3⟩; have HW := Lib.hid (HW.out.below' hb3); have HIN := Lib.hid (HIN.out.below hb3); have HLN := Lib.hid (HLN.out.below hb3); have H0 := Lib.hid (H0.out.trans (hb3.mono H0.out.size)); have H3 := Lib.hid hi3; clear hi3) | (go_at_call 34; (with_reducible refine (refBits_any _ t b k a c a' c' HIN.out HBN.out).mono ?_); rintro e w4 ⟨a4, c4, rfl, hi4, hb4⟩; have HW := Lib.hid (HW.out.below' hb4); have HIN := Lib.hid (HIN.out.below hb4); have HLN := Lib.hid (HLN.out.below hb4); have H3 := Lib.hid (H3.out.below hb4); have H0 := Lib.hid (H0.out.trans (hb4.mono H0.out.size)); have H4 := Lib.hid hi4; clear hi4) | (go_at_call 14; (with_reducible refine (sameB_any _ _ _ _ _ _ _ _ _ H3.out H4.out).mono ?_); rintro e w5 ⟨rfl, hb5⟩; have HW := Lib.hid (HW.out.below' hb5); have HIN := Lib.hid (HIN.out.below hb5); have HLN := Lib.hid (HLN.out.below hb5); have H3 := Lib.hid (H3.out.below hb5); have H4 := Lib.hid (H4.out.below hb5); have H0 := Lib.hid (H0.out.trans (hb5.mono H0.out.size))) | (go_at_call 35; (with_reducible refine (OfBits_any _ l al nl cl HLN.out HNL.out).mono ?_); rintro e w6 ⟨a6, c6, rfl, hi6, hb6⟩; have HW := Lib.hid (HW.out.below' hb6); have HIN := Lib.hid (HIN.out.below hb6); have HLN := Lib.hid (HLN.out.below hb6); have H3 := Lib.hid (H3.out.below hb6); have H4 := Lib.hid (H4.out.below hb6); have H0 := Lib.hid (H0.out.trans (hb6.mono H0.out.size)); have H6 := Lib.hid hi6; clear hi6))
    have hll : (0 :: l).length = nl + 1 := by simp [hnl]
    have HLL := Lib.hid hll
    have HX := Lib.hid (show Blk (w6.alloc (.cells #[.int .u8 3, .slice a6 (nl + 1) c6, .slice none 0 0] 25)).drew w6.heap.size 25 [.int .u8 3, .slice a6 (nl + 1) c6, .slice none 0 0] from Blk.new w6 25 [.int .u8 3, .slice a6 (nl + 1) c6, .slice none 0 0])
    have hb7 : Below w6.heap.size w6 (w6.alloc (.cells #[.int .u8 3, .slice a6 (nl + 1) c6, .slice none 0 0] 25)).drew := ((Below.refl _ w6).alloc (Nat.le_refl _) _).drew
    clear hll
    generalize hW7 : w6.alloc (.cells #[.int .u8 3, .slice a6 (nl + 1) c6, .slice none 0 0] 25) = w7 at *
    have HW := Lib.hid (HW.out.below' hb7)
    have HIN := Lib.hid (HIN.out.below hb7)
    have HLN := Lib.hid (HLN.out.below hb7)
    have H3 := Lib.hid (H3.out.below hb7)
    have H4 := Lib.hid (H4.out.below hb7)
    have H6 := Lib.hid (H6.out.below hb7)
    have H0 := Lib.hid (H0.out.trans (hb7.mono H0.out.size))
    have q0 := HX.out.cell 0
    have q1 := HX.out.cell 1
    have q2 := HX.out.cell 2
    simp at q0 q1 q2
    clear hW1 hW7
    go_region_with (first | (go_at_call 36; (with_reducible refine (refOfBits_any _ l al nl cl HLN.out HNL.out).mono ?_); rintro e w8 ⟨a8, c8, rfl, hi8, hb8⟩; rw [HLL.out]; have HW := Lib.hid (HW.out.below' hb8); have HIN := Lib.hid (HIN.out.below hb8); have HLN := Lib.hid (HLN.out.below hb8); have H3 := Lib.hid (H3.out.below hb8); have H4 := Lib.hid (H4.out.below hb8); have H6 := Lib.hid (H6.out.below hb8); have HX := Lib.hid (HX.out.below' hb8); have H0 := Lib.hid (H0.out.trans (hb8.mono H0.out.size)); have H8 := Lib.hid hi8; clear hi8; have q0 := HX.out.cell 0; have q1 := HX.out.cell 1; have q2 := HX.out.cell 2; simp at q0 q1 q2) | (go_at_call 12; have hs := sameI_any 1 .nil (by decide) _ 3 3 (0 :: l) (0 :: l) .nil _ _ _ _ _ _ _ _ H6.out H8.out; rw [HLL.out] at hs; refine hs.mono ?_; rintro e w9 ⟨rfl, hb9⟩; rw [eqI_true ⟨rfl, rfl, rfl⟩]; have HW := Lib.hid (HW.out.below' hb9); have HIN := Lib.hid (HIN.out.below hb9); have HLN := Lib.hid (HLN.out.below hb9); have H3 := Lib.hid (H3.out.below hb9); have H4 := Lib.hid (H4.out.below hb9); have H6 := Lib.hid (H6.out.below hb9); have HX := Lib.hid (HX.out.below' hb9); have H8 := Lib.hid (H8.out.below hb9); have H0 := Lib.hid (H0.out.trans (hb9.mono H0.out.size))))
    all_goals go_wp2_with (first | (refine wpList_load_row (P := Try.prog) rfl 25 (.tmp 11) rfl w6.heap.size rfl 25 _ _ _ HX.out Try.underlying25 rfl info25 ?_) | (go_at_call 33; have hs := Bits_any _ 3 (0 :: l) .nil a6 c6 none 0 H6.out; rw [HLL.out, (bits_back l).1, (bits_back l).2, show Tr.nil.len = 0 from rfl] at hs; refine hs.mono ?_; rintro e wx ⟨ax, cx, rfl, hix, hbx⟩; rw [hnl] at hix; rw [hnl]; have HIX := Lib.hid hix; have HLN := Lib.hid (HLN.out.below hbx); have H0 := Lib.hid (H0.out.trans (hbx.mono H0.out.size))) | (go_at_call 14; have hs := sameB_any _ _ _ _ _ _ _ l l HIX.out HLN.out; (with_reducible refine hs.mono ?_); rintro e wy ⟨rfl, hby⟩; rw [decide_eq_true (show l = l from rfl)]; have HLN := Lib.hid (HLN.out.below hby); have H0 := Lib.hid (H0.out.trans (hby.mono H0.out.size))) | (go_at_call 15; refine (alive_any _).mono ?_; rintro e wa ⟨rfl, hba⟩; have H0 := Lib.hid (H0.out.trans (hba.mono H0.out.size))))
    all_goals go_ret
    all_goals exact ⟨rfl, H0.out⟩
end Go.Proofs.Ytlkedlbigmoikaa
