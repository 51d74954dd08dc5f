/- How numbers are parted and rounded, as the project and as the document have it. No condition. -/
import Derived.Test.YtbhhpopckchibaaSc
namespace Go.Proofs.Ytbhhpopckchibaa
open Go.RowKit
set_option linter.unusedVariables false
/-- the parts of a number -/
def p2h (r : Int) : Int := (r + 4095) / 8192
def p2l (r : Int) : Int := r - 8192 * p2h r
def ndH (r : Int) : Int := (r + 261887) / 523776
def dcH (r : Int) : Int := if ndH r = 16 then 0 else ndH r
def dcL (r : Int) : Int := if ndH r = 16 then r - 8380416 - 1 else r - 523776 * ndH r
def uH (h : Bool) (r : Int) : Int := if h then (if 0 < dcL r then (dcH r + 1) % 16 else (dcH r + 15) % 16) else dcH r
/-- a number of the ring -/
def IsQ (r : Int) : Prop := 0 ≤ r ∧ r < 8380417
def isQB (r : Int) : Bool := decide (0 ≤ r ∧ r < 8380417)
theorem isQB_t {r : Int} (h : IsQ r) : isQB r = true := decide_eq_true h
theorem isQB_f {r : Int} (h : ¬ IsQ r) : isQB r = false := decide_eq_false h
theorem ndH_bd {r : Int} (h : IsQ r) : 0 ≤ ndH r ∧ ndH r ≤ 16 := by unfold ndH IsQ at *; omega
theorem dcH_bd {r : Int} (h : IsQ r) : 0 ≤ dcH r ∧ dcH r < 16 := by
  have := ndH_bd h; unfold dcH; split <;> omega
theorem dcL_bd {r : Int} (h : IsQ r) : -261888 ≤ dcL r ∧ dcL r ≤ 261888 := by
  unfold dcL ndH IsQ at *; split <;> omega
theorem p2h_bd {r : Int} (h : IsQ r) : 0 ≤ p2h r ∧ p2h r ≤ 1023 := by unfold p2h IsQ at *; omega
theorem ret2i {k : IntKind} {a b c d : Int} (h1 : a = c) (h2 : b = d) : Ending.returned (.tuple #[.int k a, .int k b]) = .returned (.tuple #[.int k c, .int k d]) := by rw [h1, h2]
theorem near13 (r : Int) (h : IsQ r) (w : World) : Calls Try.prog 44 #[.int .i32 r, .int .i32 8192] w fun e w' => e = .returned (.tuple #[.int .i32 (p2h r), .int .i32 (p2l r)]) ∧ w = w' := by
  obtain ⟨h1, h2⟩ := h
  go_enter Try.func44, Try.ntmps44
  go_wp2_with fail
  go_ret2
  refine ⟨?_, rfl⟩
  unfold p2l p2h
  exact ret2i (by omega) (by omega)
theorem near23 (r : Int) (h : IsQ r) (w : World) : Calls Try.prog 44 #[.int .i32 r, .int .i32 523776] w fun e w' => e = .returned (.tuple #[.int .i32 (ndH r), .int .i32 (r - 523776 * ndH r)]) ∧ w = w' := by
  obtain ⟨h1, h2⟩ := h
  go_enter Try.func44, Try.ntmps44
  go_wp2_with fail
  go_ret2
  refine ⟨?_, rfl⟩
  unfold ndH
  exact ret2i (by omega) (by omega)
theorem Power2Round_t (r : Int) (h : IsQ r) (w : World) : Calls Try.prog 24 #[.int .i32 r] w fun e w' => e = .returned (.tuple #[.int .i32 (p2h r), .int .i32 (p2l r), .int .i64 0]) ∧ w = w' := by
  have hp := Lib.hid (plain_t r h)
  have hn := Lib.hid (near13 r h)
  generalize p2h r = a at *
  generalize p2l r = b at *
  clear h
  go_enter Try.func24, Try.ntmps24
  go_wp2_with (first | (go_at_call 43; refine (hp.out _).mono ?_; rintro e w' ⟨rfl, rfl⟩) | (go_at_call 44; refine (hn.out _).mono ?_; rintro e w' ⟨rfl, rfl⟩))
  exact bodyPost_ret (v := .tuple #[.int .i32 a, .int .i32 b, .int .i64 0]) (by simp [results, Try.results24, go_sem]) rfl ⟨rfl, rfl⟩
theorem Power2Round_f (r : Int) (h : ¬ IsQ r) (w : World) : Calls Try.prog 24 #[.int .i32 r] w fun e w' => e = .returned (.tuple #[.int .i32 0, .int .i32 0, .int .i64 81]) ∧ w = w' := by
  have hp := Lib.hid (plain_f r h)
  clear h
  go_enter Try.func24, Try.ntmps24
  go_wp2_with (first | (go_at_call 43; refine (hp.out _).mono ?_; rintro e w' ⟨rfl, rfl⟩))
  exact bodyPost_ret (v := .tuple #[.int .i32 0, .int .i32 0, .int .i64 81]) (by simp [results, Try.results24, go_sem]) rfl ⟨rfl, rfl⟩
theorem Decompose_t (r : Int) (h : IsQ r) (w : World) : Calls Try.prog 25 #[.int .i32 r] w fun e w' => e = .returned (.tuple #[.int .i32 (dcH r), .int .i32 (dcL r), .int .i64 0]) ∧ w = w' := by
  have hp := Lib.hid (plain_t r h)
  have hn := Lib.hid (near23 r h)
  have hb := ndH_bd h
  have hz := dcL_bd h
  by_cases h16 : ndH r = 16
  · have e1 : dcH r = 0 := if_pos h16
    have e2 : dcL r = r - 523776 * ndH r - 1 := by unfold dcL; rw [if_pos h16, h16]; omega
    rw [e2] at hz
    rw [e1, e2]
    have h16' : (ndH r == 16) = true := by rw [h16]; rfl
    generalize r - 523776 * ndH r = b at *
    generalize ndH r = a at *
    clear h e1 e2 h16
    go_enter Try.func25, Try.ntmps25
    go_wp2_with (first | (go_at_call 43; refine (hp.out _).mono ?_; rintro e w' ⟨rfl, rfl⟩) | (go_at_call 44; refine (hn.out _).mono ?_; rintro e w' ⟨rfl, rfl⟩))
    exact bodyPost_ret (v := .tuple #[.int .i32 0, .int .i32 (b - 1), .int .i64 0]) (by simp [results, Try.results25, go_sem]) rfl ⟨rfl, rfl⟩
  · have e1 : dcH r = ndH r := if_neg h16
    have e2 : dcL r = r - 523776 * ndH r := if_neg h16
    rw [e2] at hz
    rw [e1, e2]
    have h16' : (ndH r == 16) = false := beq_eq_false_iff_ne.2 h16
    generalize r - 523776 * ndH r = b at *
    generalize ndH r = a at *
    clear h e1 e2 h16
    go_enter Try.func25, Try.ntmps25
    go_wp2_with (first | (go_at_call 43; refine (hp.out _).mono ?_; rintro e w' ⟨rfl, rfl⟩) | (go_at_call 44; refine (hn.out _).mono ?_; rintro e w' ⟨rfl, rfl⟩))
    exact bodyPost_ret (v := .tuple #[.int .i32 a, .int .i32 b, .int .i64 0]) (by simp [results, Try.results25, go_sem]) rfl ⟨rfl, rfl⟩
theorem Decompose_f (r : Int) (h : ¬ IsQ r) (w : World) : Calls Try.prog 25 #[.int .i32 r] w fun e w' => e = .returned (.tuple #[.int .i32 0, .int .i32 0, .int .i64 81]) ∧ w = w' := by
  have hp := Lib.hid (plain_f r h)
  clear h
  go_enter Try.func25, Try.ntmps25
  go_wp2_with (first | (go_at_call 43; refine (hp.out _).mono ?_; rintro e w' ⟨rfl, rfl⟩))
  exact bodyPost_ret (v := .tuple #[.int .i32 0, .int .i32 0, .int .i64 81]) (by simp [results, Try.results25, go_sem]) rfl ⟨rfl, rfl⟩
theorem UseHint_t (h : Bool) (r : Int) (hq : IsQ r) (w : World) : Calls Try.prog 26 #[.bool h, .int .i32 r] w fun e w' => e = .returned (.tuple #[.int .i32 (uH h r), .int .i64 0]) ∧ w = w' := by
  have hd := Lib.hid (Decompose_t r hq)
  have hb := dcH_bd hq
  have hl := dcL_bd hq
  cases h
  · have e1 : uH false r = dcH r := rfl
    rw [e1]
    generalize dcH r = a at *
    generalize dcL r = b at *
    clear hq e1
    go_enter Try.func26, Try.ntmps26
    go_wp2_with (first | (go_at_call 25; refine (hd.out _).mono ?_; rintro e w' ⟨rfl, rfl⟩))
    go_ret2
    exact ⟨rfl, rfl⟩
  · by_cases hp : 0 < dcL r
    · have e1 : uH true r = (dcH r + 1) % 16 := if_pos hp
      rw [e1]
      generalize dcH r = a at *
      generalize dcL r = b at *
      clear hq e1
      go_enter Try.func26, Try.ntmps26
      go_wp2_with (first | (go_at_call 25; refine (hd.out _).mono ?_; rintro e w' ⟨rfl, rfl⟩))
      go_ret2
      exact ⟨rfl, rfl⟩
    · have e1 : uH true r = (dcH r + 16 - 1) % 16 := by show (if 0 < dcL r then _ else _) = _; rw [if_neg hp]; omega
      rw [e1]
      generalize dcH r = a at *
      generalize dcL r = b at *
      clear hq e1
      go_enter Try.func26, Try.ntmps26
      go_wp2_with (first | (go_at_call 25; refine (hd.out _).mono ?_; rintro e w' ⟨rfl, rfl⟩))
      go_ret2
      exact ⟨rfl, rfl⟩
theorem UseHint_f (h : Bool) (r : Int) (hq : ¬ IsQ r) (w : World) : Calls Try.prog 26 #[.bool h, .int .i32 r] w fun e w' => e = .returned (.tuple #[.int .i32 0, .int .i64 81]) ∧ w = w' := by
  have hd := Lib.hid (Decompose_f r hq)
  clear hq
  go_enter Try.func26, Try.ntmps26
  go_wp2_with (first | (go_at_call 25; refine (hd.out _).mono ?_; rintro e w' ⟨rfl, rfl⟩))
  go_ret2
  exact ⟨rfl, rfl⟩
/-- does adding change the high part? -/
def mkH (z r : Int) : Bool := dcH ((r + z) % 8380417) != dcH r
theorem plus_int (x y : Int) (hx : IsQ x) (hy : IsQ y) (w : World) : Calls Try.prog 33 #[.int .i32 x, .int .i32 y] w fun e w' => e = .returned (.int .i32 ((x + y) % 8380417)) ∧ w = w' := by
  obtain ⟨a1, a2⟩ := hx
  obtain ⟨b1, b2⟩ := hy
  have he := Lib.hid (rfl : (x + y) % 8380417 = (x + y) % 8380417)
  have hm := Lib.hid (modQ_any (x + y) w (by omega) (by omega))
  generalize (x + y) % 8380417 = c at *
  go_enter Try.func33, Try.ntmps33
  go_wp2_with (go_at_call 39; refine hm.out.mono ?_; rintro e w' ⟨rfl, rfl⟩)
  go_ret
  exact ⟨rfl, rfl⟩
set_option maxHeartbeats 1600000 in
theorem MakeHint_t (z r : Int) (hz : IsQ z) (hr : IsQ r) (w : World) : Calls Try.prog 27 #[.int .i32 z, .int .i32 r] w fun e w' => e = .returned (.tuple #[.bool (mkH z r), .int .i64 0]) ∧ w = w' := by
  have hp := Lib.hid (plain_t r hr)
  have hq := Lib.hid (plain_t z hz)
  have hs := Lib.hid (plus_int r z hr hz)
  have hd := Lib.hid (Decompose_t r hr)
  have hd2 := Lib.hid (Decompose_t ((r + z) % 8380417) ⟨by omega, by omega⟩)
  unfold mkH
  generalize (r + z) % 8380417 = s at *
  generalize dcH s = a at *
  generalize dcL s = b at *
  generalize dcH r = c at *
  generalize dcL r = d at *
  clear hz hr
  go_enter Try.func27, Try.ntmps27
  go_wp2_with (first | (go_at_call 43; first | ((with_reducible refine (hq.out _).mono ?_); rintro e w' ⟨rfl, rfl⟩) | ((with_reducible refine (hp.out _).mono ?_); rintro e w' ⟨rfl, rfl⟩)) | (go_at_call 33; refine (hs.out _).mono ?_; rintro e w' ⟨rfl, rfl⟩) | (go_at_call 25; first | ((with_reducible refine (hd.out _).mono ?_); rintro e w' ⟨rfl, rfl⟩) | ((with_reducible refine (hd2.out _).mono ?_); rintro e w' ⟨rfl, rfl⟩)))
  go_ret2
  exact ⟨by rfl, rfl⟩
set_option maxHeartbeats 1600000 in
theorem MakeHint_f (z r : Int) (h : ¬ (IsQ z ∧ IsQ r)) (w : World) : Calls Try.prog 27 #[.int .i32 z, .int .i32 r] w fun e w' => e = .returned (.tuple #[.bool false, .int .i64 81]) ∧ w = w' := by
  by_cases hz : IsQ z
  · have hp := Lib.hid (plain_f r (fun k => h ⟨hz, k⟩))
    have hq := Lib.hid (plain_t z hz)
    clear h hz
    go_enter Try.func27, Try.ntmps27
    go_wp2_with (first | (go_at_call 43; first | ((with_reducible refine (hq.out _).mono ?_); rintro e w' ⟨rfl, rfl⟩) | ((with_reducible refine (hp.out _).mono ?_); rintro e w' ⟨rfl, rfl⟩)))
    go_ret2
    exact ⟨rfl, rfl⟩
  · have hq := Lib.hid (plain_f z hz)
    clear h hz
    go_enter Try.func27, Try.ntmps27
    go_wp2_with (first | (go_at_call 43; (refine (hq.out _).mono ?_; rintro e w' ⟨rfl, rfl⟩)))
    go_ret2
    exact ⟨rfl, rfl⟩
/-! the document's -/
theorem dPower2Round_any (r : Int) (h : IsQ r) (w : World) : Calls Try.prog 28 #[.int .i32 r] w fun e w' => e = .returned (.tuple #[.int .i32 (p2h r), .int .i32 (p2l r)]) ∧ w = w' := by
  obtain ⟨h1, h2⟩ := h
  go_enter Try.func28, Try.ntmps28
  go_wp2_with fail
  go_ret2
  refine ⟨?_, rfl⟩
  unfold p2l p2h
  exact ret2i (by omega) (by omega)
theorem dDecompose_any (r : Int) (h : IsQ r) (w : World) : Calls Try.prog 29 #[.int .i32 r] w fun e w' => e = .returned (.tuple #[.int .i32 (dcH r), .int .i32 (dcL r)]) ∧ w = w' := by
  have hb := ndH_bd h
  have hz := dcL_bd h
  have hm : Hid (ndH r = (r + 261887) / 523776) := Lib.hid rfl
  by_cases h16 : ndH r = 16
  · have e1 := Lib.hid (show dcH r = 0 from if_pos h16)
    have e2 := Lib.hid (show dcL r = r - 523776 * ((r + 261887) / 523776) - 1 by unfold dcL; rw [if_pos h16, ← hm.out, h16]; omega)
    have h16' : ((r + 261887) / 523776 == 16) = true := by rw [← hm.out, h16]; rfl
    obtain ⟨h1, h2⟩ := h
    rw [hm.out] at hb
    rw [e2.out] at hz
    clear h16
    go_enter Try.func29, Try.ntmps29
    go_wp2_with fail
    go_ret2
    refine ⟨?_, rfl⟩
    exact ret2i e1.out.symm (by rw [e2.out])
  · have e1 := Lib.hid (show dcH r = (r + 261887) / 523776 from if_neg h16)
    have e2 := Lib.hid (show dcL r = r - 523776 * ((r + 261887) / 523776) from if_neg h16)
    have h16' : ((r + 261887) / 523776 == 16) = false := beq_eq_false_iff_ne.2 (by rw [← hm.out]; exact h16)
    obtain ⟨h1, h2⟩ := h
    rw [hm.out] at hb
    rw [e2.out] at hz
    clear h16
    go_enter Try.func29, Try.ntmps29
    go_wp2_with fail
    go_ret2
    refine ⟨?_, rfl⟩
    exact ret2i e1.out.symm (by rw [e2.out])
theorem dUseHint_any (h : Bool) (r : Int) (hq : IsQ r) (w : World) : Calls Try.prog 30 #[.bool h, .int .i32 r] w fun e w' => e = .returned (.int .i32 (uH h r)) ∧ w = w' := by
  have hd := Lib.hid (dDecompose_any r hq)
  have hb := dcH_bd hq
  have hl := dcL_bd hq
  cases h
  · have e1 : uH false r = dcH r := rfl
    rw [e1]
    generalize dcH r = a at *
    generalize dcL r = b at *
    clear hq e1
    go_enter Try.func30, Try.ntmps30
    go_wp2_with (first | (go_at_call 29; refine (hd.out _).mono ?_; rintro e w' ⟨rfl, rfl⟩))
    go_ret
    exact ⟨rfl, rfl⟩
  · by_cases hp : 0 < dcL r
    · have e1 : uH true r = (dcH r + 1) % 16 := if_pos hp
      rw [e1]
      generalize dcH r = a at *
      generalize dcL r = b at *
      clear hq e1
      go_enter Try.func30, Try.ntmps30
      go_wp2_with (first | (go_at_call 29; refine (hd.out _).mono ?_; rintro e w' ⟨rfl, rfl⟩))
      go_ret
      exact ⟨rfl, rfl⟩
    · have e1 : uH true r = (dcH r + 15) % 16 := if_neg hp
      rw [e1]
      generalize dcH r = a at *
      generalize dcL r = b at *
      clear hq e1
      go_enter Try.func30, Try.ntmps30
      go_wp2_with (first | (go_at_call 29; refine (hd.out _).mono ?_; rintro e w' ⟨rfl, rfl⟩))
      go_ret
      exact ⟨rfl, rfl⟩
end Go.Proofs.Ytbhhpopckchibaa
