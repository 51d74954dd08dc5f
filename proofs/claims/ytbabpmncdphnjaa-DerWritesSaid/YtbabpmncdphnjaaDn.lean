/- The document's Encode. No condition. -/
import Derived.Test.YtbabpmncdphnjaaHd
import Derived.Test.YtbabpmncdphnjaaCn
namespace Go.Proofs.Ytbabpmncdphnjaa
open Go.RowKit
set_option linter.unusedVariables false
set_option maxRecDepth 100000

/-- what right answers, with the number as it stands -/
theorem right_is {t : Nat} {b : List Nat} {k : Tr} {d : Nat} {w : World} {e : Ending} {w' : World} (h : RtIs t b k d w e w') {x : Nat} (hx : errI t b k d = x) : e = .returned (.int .i64 (x : Nat)) ∧ Below w.heap.size w w' := by subst hx; exact h

set_option maxRecDepth 100000 in
set_option maxHeartbeats 8000000 in
theorem refEnc_any (w : World) (t : Nat) (b : List Nat) (k : Tr) (a : Option Addr) (c : Nat) (a' : Option Addr) (c' : Nat) (hin : ItIn w t a c a' c' b k) (hbd : 1 + b.length + k.sz ≤ 65536) : Calls Try.prog 18 #[itV t a b.length c a' k.len c'] w (EncIs (encE t b k) w) := by
  have HW := Lib.hid (Blk.new w 25 [.int .u8 (t : Nat), .slice a b.length c, .slice a' k.len c'])
  have h0 := (Below.refl _ w).alloc (Nat.le_refl _) (.cells #[.int .u8 (t : Nat), .slice a b.length c, .slice a' k.len c'] 25)
  have HIN := Lib.hid (hin.below h0)
  have H0 := Lib.hid h0
  have HBD := Lib.hid hbd
  clear hin h0 hbd
  go_enter Try.func18, Try.ntmps18
  generalize hW1 : w.alloc (.cells #[.int .u8 (t : Nat), .slice a b.length c, .slice a' k.len c'] 25) = W1 at *
  have hR : Calls Try.prog 55 #[itV t a b.length c a' k.len c', .int .i64 1] W1 (RtIs t b k 1 W1) := right_any (k.sz + 1) k (Nat.lt_succ_self _) W1 t b a c a' c' 1 HIN.out (by omega)
  by_cases h1 : errI t b k 1 = 0
  · have HR : Hid (Calls Try.prog 55 #[itV t a b.length c a' k.len c', .int .i64 1] W1 fun e w' => e = .returned (.int .i64 0) ∧ Below W1.heap.size W1 w') := Lib.hid (hR.mono fun e w' h => right_is h h1)
    have HP := Lib.hid (dI_right h1)
    have HDS := Lib.hid (show (dI t b k).length ≤ 500000 by have := dI_sz t b k; have := HBD.out; omega)
    have HD8 := Lib.hid (dI_lt HIN.out)
    clear hR
    by_cases hlong : 65536 < (dI t b k).length
    · have HX := Lib.hid (show encE t b k = .error 121 by
        unfold encE; rw [if_neg (by omega), if_pos]
        by_cases h5 : (encI t b k).length ≤ 65536
        · have := HP.out.1 h5; rw [this] at hlong; omega
        · omega)
      have hli : (65536 : Int) < ((dI t b k).length : Int) := by omega
      generalize hdn : dI t b k = D at *
      go_wp2_with (first | (refine wpList_load_row (P := Try.prog) rfl 25 (.tmp 1) rfl w.heap.size rfl 25 _ _ _ HW.out Try.underlying25 rfl info25 ?_) | (go_at_call 55; ((with_reducible refine HR.out.mono ?_); rintro e w2 ⟨rfl, hb2⟩; have HW := Lib.hid (HW.out.below' hb2); have HIN := Lib.hid (HIN.out.below hb2); have H0 := Lib.hid (H0.out.trans (hb2.mono H0.out.size)))) | (go_at_call 56; have hs := bytes_any (k.sz + 1) k (Nat.lt_succ_self _) w2 t b a c a' c' HIN.out HBD.out; rw [hdn] at hs; ((with_reducible refine hs.mono ?_); rintro e w3 ⟨v3, rfl, hown, hb3⟩; obtain ⟨a3, c3, rfl⟩ := own_slice hown; obtain ⟨a3', c3', e3, hi3, _⟩ := own_in hown HD8.out (by have := HDS.out; omega); injection e3 with e31 e32 e33; subst e31 e33; have HI3 := Lib.hid hi3; have H0 := Lib.hid (H0.out.trans (hb3.mono H0.out.size)); clear hown hi3)))
      go_ret2
      exact EncIs.err HX.out H0.out
    · have HX := Lib.hid (show encE t b k = .ok (dI t b k) by
        have h5 : (encI t b k).length ≤ 65536 := by
          by_cases h5 : 65536 < (encI t b k).length
          · exact absurd (HP.out.2 h5) hlong
          · omega
        unfold encE; rw [if_neg (by omega), if_neg (by omega), HP.out.1 h5])
      have hli : ¬ (65536 : Int) < ((dI t b k).length : Int) := by omega
      generalize hdn : dI t b k = D at *
      go_wp2_with (first | (refine wpList_load_row (P := Try.prog) rfl 25 (.tmp 1) rfl w.heap.size rfl 25 _ _ _ HW.out Try.underlying25 rfl info25 ?_) | (go_at_call 55; ((with_reducible refine HR.out.mono ?_); rintro e w2 ⟨rfl, hb2⟩; have HW := Lib.hid (HW.out.below' hb2); have HIN := Lib.hid (HIN.out.below hb2); have H0 := Lib.hid (H0.out.trans (hb2.mono H0.out.size)))) | (go_at_call 56; have hs := bytes_any (k.sz + 1) k (Nat.lt_succ_self _) w2 t b a c a' c' HIN.out HBD.out; rw [hdn] at hs; ((with_reducible refine hs.mono ?_); rintro e w3 ⟨v3, rfl, hown, hb3⟩; obtain ⟨a3, c3, rfl⟩ := own_slice hown; obtain ⟨a3', c3', e3, hi3, _⟩ := own_in hown HD8.out (by have := HDS.out; omega); injection e3 with e31 e32 e33; subst e31 e33; have HI3 := Lib.hid hi3; have H0 := Lib.hid (H0.out.trans (hb3.mono H0.out.size)); clear hown hi3)))
      go_ret2
      exact EncIs.good HX.out H0.out rfl HI3.out
  · have HX := Lib.hid (show encE t b k = .error (errI t b k 1) by unfold encE; rw [if_pos h1])
    generalize hxn : errI t b k 1 = x at *
    have HR := Lib.hid (hR.mono fun e w' h => right_is h hxn)
    have hxi : ¬ (x : Int) = 0 := by omega
    clear hR
    go_wp2_with (first | (refine wpList_load_row (P := Try.prog) rfl 25 (.tmp 1) rfl w.heap.size rfl 25 _ _ _ HW.out Try.underlying25 rfl info25 ?_) | (go_at_call 55; ((with_reducible refine HR.out.mono ?_); rintro e w2 ⟨rfl, hb2⟩; have HW := Lib.hid (HW.out.below' hb2); have HIN := Lib.hid (HIN.out.below hb2); have H0 := Lib.hid (H0.out.trans (hb2.mono H0.out.size)))))
    go_ret2
    exact EncIs.err HX.out H0.out
end Go.Proofs.Ytbabpmncdphnjaa
