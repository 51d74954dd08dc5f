/- The document's fuses: its methods. No condition. -/
import Derived.Test.YtcjhjengggfpeaaRw
namespace Go.Proofs.Ytcjhjengggfpeaa
open Go.RowKit
set_option linter.unusedVariables false
set_option maxRecDepth 100000
set_option linter.unusedSimpArgs false
set_option maxHeartbeats 1600000 in
theorem rburn_any (g : Nat) (l : List (Nat × Bool)) (c : List Nat) (i : Int) (v : Nat) (w : World) (h : RuAt w g l c) (k : FuOk l c) (hi : I64 i) :
    Calls Try.prog 19 #[.pointer (some ⟨g, 0, none⟩), .int .i64 i, .int .u8 (v : Nat)] w (RuDone g (.int .i64 (burnE l i)) (burnL l i v) c w) := by
  by_cases hr : 0 ≤ i ∧ i < 64
  · obtain ⟨n, rfl⟩ : ∃ n : Nat, i = n := ⟨i.toNat, by omega⟩
    have hn : n < 64 := by omega
    have t0 : decide ((n : Int) < 0) = false := by simp only [decide_eq_false_iff_not]; omega
    have t9 : decide ((64 : Int) ≤ (n : Int)) = false := by simp only [decide_eq_false_iff_not]; omega
    have hb := h.b k n hn
    by_cases hu : (l.getD n (0, false)).2 = true
    · have e1 : burnE l n = 151 := by unfold burnE; rw [if_pos hr, if_pos (by simpa using hu)]
      have e2 : burnL l n v = l := by unfold burnL; rw [if_pos hr, if_pos (by simpa using hu)]
      rw [e1, e2]
      rw [hu] at hb
      have HH := Lib.hid h
      clear e1 e2 hu hr h k hi
      go_enter Try.func19, Try.ntmps19
      go_wp2
      go_ret
      exact ⟨rfl, HH.out, grown_refl _ _⟩
    · rw [Bool.not_eq_true] at hu
      have e1 : burnE l n = 0 := by unfold burnE; rw [if_pos hr, if_neg (by simpa using hu)]
      have e2 : burnL l n v = l.set n (v, true) := by unfold burnL; rw [if_pos hr, if_neg (by simpa using hu)]; rfl
      rw [e1, e2]
      rw [hu] at hb
      have HH := Lib.hid h
      have hv := h.v k n hn
      have f1 := Blk.free h n
      have hs := Blk.set h n (.int .u8 (v : Nat))
      have f2 := Blk.free hs (64 + n)
      have hb2 : (w.setCell ⟨g, n, none⟩ (.int .u8 (v : Nat))).cell? ⟨g, 64 + n, none⟩ = some (.bool false) := by
        rw [Blk.cell hs, List.getElem?_set_ne (by omega), ← Blk.cell h]; exact hb
      have HP := Lib.hid (h.put k n hn v true)
      have HG := Lib.hid (grown_trans (grown_setCell w ⟨g, n, none⟩ (.int .u8 (v : Nat))) (grown_setCell _ ⟨g, 64 + n, none⟩ (.bool true)))
      clear e1 e2 hu hr h k hi hs HH
      go_enter Try.func19, Try.ntmps19
      go_wp2
      go_ret
      exact ⟨rfl, HP.out, HG.out⟩
  · have e1 : burnE l i = 153 := by unfold burnE; rw [if_neg hr]
    have e2 : burnL l i v = l := by unfold burnL; rw [if_neg hr]
    rw [e1, e2]
    have HH := Lib.hid h
    by_cases h0 : i < 0
    · have t0 : decide (i < 0) = true := by simpa using h0
      clear e1 e2 hr h k hi h0
      go_enter Try.func19, Try.ntmps19
      go_wp2
      go_ret
      exact ⟨rfl, HH.out, grown_refl _ _⟩
    · have t0 : decide (i < 0) = false := by simpa using h0
      have t9 : decide ((64 : Int) ≤ i) = true := by simp only [decide_eq_true_eq]; omega
      clear e1 e2 hr h k hi h0
      go_enter Try.func19, Try.ntmps19
      go_wp2
      go_ret
      exact ⟨rfl, HH.out, grown_refl _ _⟩
set_option maxHeartbeats 1600000 in
theorem rread_any (g : Nat) (l : List (Nat × Bool)) (c : List Nat) (i : Int) (w : World) (h : RuAt w g l c) (k : FuOk l c) (hi : I64 i) :
    Calls Try.prog 20 #[.pointer (some ⟨g, 0, none⟩), .int .i64 i] w fun e w' => e = .returned (rdV l i) ∧ Below w.heap.size w w' := by
  by_cases hr : 0 ≤ i ∧ i < 64
  · obtain ⟨n, rfl⟩ : ∃ n : Nat, i = n := ⟨i.toNat, by omega⟩
    have hn : n < 64 := by omega
    have t0 : decide ((n : Int) < 0) = false := by simp only [decide_eq_false_iff_not]; omega
    have t9 : decide ((64 : Int) ≤ (n : Int)) = false := by simp only [decide_eq_false_iff_not]; omega
    have hb := h.b k n hn
    have hv := h.v k n hn
    have e1 : rdV l n = .tuple #[.int .u8 ((l.getD n (0, false)).1 : Nat), .bool (l.getD n (0, false)).2, .int .i64 0] := by unfold rdV; rw [if_pos hr]; rfl
    rw [e1]
    clear e1 hr h k hi
    generalize (l.getD n (0, false)).1 = x at *
    generalize (l.getD n (0, false)).2 = u at *
    go_enter Try.func20, Try.ntmps20
    go_wp2
    go_quiet (fail)
    go_wp2
    go_ret3
    exact ⟨rfl, below_drewN (Below.refl _ _) nq⟩
  · have e1 : rdV l i = .tuple #[.int .u8 0, .bool false, .int .i64 153] := by unfold rdV; rw [if_neg hr]
    rw [e1]
    by_cases h0 : i < 0
    · have t0 : decide (i < 0) = true := by simpa using h0
      clear e1 hr h k hi h0
      go_enter Try.func20, Try.ntmps20
      go_wp2
      go_ret3
      exact ⟨rfl, Below.refl _ _⟩
    · have t0 : decide (i < 0) = false := by simpa using h0
      have t9 : decide ((64 : Int) ≤ i) = true := by simp only [decide_eq_true_eq]; omega
      clear e1 hr h k hi h0
      go_enter Try.func20, Try.ntmps20
      go_wp2
      go_ret3
      exact ⟨rfl, Below.refl _ _⟩
set_option maxHeartbeats 1600000 in
theorem rcounter_any (g : Nat) (l : List (Nat × Bool)) (c : List Nat) (i : Int) (w : World) (h : RuAt w g l c) (k : FuOk l c) (hi : I64 i) :
    Calls Try.prog 21 #[.pointer (some ⟨g, 0, none⟩), .int .i64 i] w fun e w' => e = .returned (cnV c i) ∧ w = w' := by
  by_cases hr : 0 ≤ i ∧ i < 4
  · obtain ⟨n, rfl⟩ : ∃ n : Nat, i = n := ⟨i.toNat, by omega⟩
    have hn : n < 4 := by omega
    have t0 : decide ((n : Int) < 0) = false := by simp only [decide_eq_false_iff_not]; omega
    have t9 : decide ((4 : Int) ≤ (n : Int)) = false := by simp only [decide_eq_false_iff_not]; omega
    have hv := h.n k n hn
    have e1 : cnV c n = .tuple #[.int .u32 (c.getD n 0 : Nat), .int .i64 0] := by unfold cnV; rw [if_pos hr]; rfl
    rw [e1]
    clear e1 hr h k hi
    generalize c.getD n 0 = x at *
    go_enter Try.func21, Try.ntmps21
    go_wp2
    go_ret2
    exact ⟨rfl, rfl⟩
  · have e1 : cnV c i = .tuple #[.int .u32 0, .int .i64 153] := by unfold cnV; rw [if_neg hr]
    rw [e1]
    by_cases h0 : i < 0
    · have t0 : decide (i < 0) = true := by simpa using h0
      clear e1 hr h k hi h0
      go_enter Try.func21, Try.ntmps21
      go_wp2
      go_ret2
      exact ⟨rfl, rfl⟩
    · have t0 : decide (i < 0) = false := by simpa using h0
      have t9 : decide ((4 : Int) ≤ i) = true := by simp only [decide_eq_true_eq]; omega
      clear e1 hr h k hi h0
      go_enter Try.func21, Try.ntmps21
      go_wp2
      go_ret2
      exact ⟨rfl, rfl⟩
set_option maxHeartbeats 1600000 in
theorem rraise_any (g : Nat) (l : List (Nat × Bool)) (c : List Nat) (i : Int) (v : Nat) (w : World) (h : RuAt w g l c) (k : FuOk l c) (hi : I64 i) :
    Calls Try.prog 22 #[.pointer (some ⟨g, 0, none⟩), .int .i64 i, .int .u32 (v : Nat)] w (RuDone g (.int .i64 (raisE c i v)) l (raisC c i v) w) := by
  by_cases hr : 0 ≤ i ∧ i < 4
  · obtain ⟨n, rfl⟩ : ∃ n : Nat, i = n := ⟨i.toNat, by omega⟩
    have hn : n < 4 := by omega
    have t0 : decide ((n : Int) < 0) = false := by simp only [decide_eq_false_iff_not]; omega
    have t9 : decide ((4 : Int) ≤ (n : Int)) = false := by simp only [decide_eq_false_iff_not]; omega
    have hv := h.n k n hn
    by_cases hu : v < c.getD n 0
    · have e1 : raisE c n v = 152 := by unfold raisE; rw [if_pos hr, if_pos (by simpa using hu)]
      have e2 : raisC c n v = c := by unfold raisC; rw [if_pos hr, if_pos (by simpa using hu)]
      rw [e1, e2]
      have t1 : decide (v < c.getD n 0) = true := by simpa using hu
      have HH := Lib.hid h
      clear e1 e2 hu hr h k hi
      generalize c.getD n 0 = x at *
      go_enter Try.func22, Try.ntmps22
      go_wp2
      go_ret
      exact ⟨rfl, HH.out, grown_refl _ _⟩
    · have e1 : raisE c n v = 0 := by unfold raisE; rw [if_pos hr, if_neg (by simpa using hu)]
      have e2 : raisC c n v = c.set n v := by unfold raisC; rw [if_pos hr, if_neg (by simpa using hu)]; rfl
      rw [e1, e2]
      have t1 : decide (v < c.getD n 0) = false := by simpa using hu
      have f1 := Blk.free h (128 + n)
      have HP := Lib.hid (h.up k n v)
      have HG := Lib.hid (grown_setCell w ⟨g, 128 + n, none⟩ (.int .u32 (v : Nat)))
      clear e1 e2 hu hr h k hi
      generalize c.getD n 0 = x at *
      go_enter Try.func22, Try.ntmps22
      go_wp2
      go_ret
      exact ⟨rfl, HP.out, HG.out⟩
  · have e1 : raisE c i v = 153 := by unfold raisE; rw [if_neg hr]
    have e2 : raisC c i v = c := by unfold raisC; rw [if_neg hr]
    rw [e1, e2]
    have HH := Lib.hid h
    by_cases h0 : i < 0
    · have t0 : decide (i < 0) = true := by simpa using h0
      clear e1 e2 hr h k hi h0
      go_enter Try.func22, Try.ntmps22
      go_wp2
      go_ret
      exact ⟨rfl, HH.out, grown_refl _ _⟩
    · have t0 : decide (i < 0) = false := by simpa using h0
      have t9 : decide ((4 : Int) ≤ i) = true := by simp only [decide_eq_true_eq]; omega
      clear e1 e2 hr h k hi h0
      go_enter Try.func22, Try.ntmps22
      go_wp2
      go_ret
      exact ⟨rfl, HH.out, grown_refl _ _⟩
/-- what a list holds, nil let in -/
theorem row_nilB (w : World) : w.ownsRow w.heap.size 5 1 (.slice none 0 0) 0 (bytesV []) := ⟨rfl, .inl ⟨rfl, rfl⟩⟩
end Go.Proofs.Ytcjhjengggfpeaa
