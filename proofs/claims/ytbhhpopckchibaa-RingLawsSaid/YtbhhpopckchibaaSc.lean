/- Numbers: rests, sums, differences and products modulo Q, as the project and as the document have them. Condition: the numbers' bounds. -/
import Derived.Test.YtbhhpopckchibaaG0
import Derived.Test.YtbhhpopckchibaaRq
namespace Go.Proofs.Ytbhhpopckchibaa
open Go.RowKit
set_option linter.unusedVariables false
theorem tmod_bd (x : Int) : -8380417 < x.tmod 8380417 ∧ x.tmod 8380417 < 8380417 := by
  have h := Int.tmod_lt_of_pos x (show (0 : Int) < 8380417 by decide)
  have h2 := Int.tmod_lt_of_pos (-x) (show (0 : Int) < 8380417 by decide)
  rw [Int.neg_tmod] at h2
  omega
theorem tmod_emod (x : Int) : x.tmod 8380417 % 8380417 = x % 8380417 := by
  have h : x.tmod 8380417 = x - 8380417 * x.tdiv 8380417 := Int.tmod_def x 8380417
  rw [h]; generalize x.tdiv 8380417 = q; omega
set_option maxHeartbeats 400000 in
theorem modQ_any (x : Int) (w : World) (h1 : -4611686018427387904 ≤ x) (h2 : x ≤ 4611686018427387904) :
    Calls Try.prog 39 #[.int .i64 x] w fun e w' => e = .returned (.int .i32 (x % 8380417)) ∧ w = w' := by
  have hb := tmod_bd x
  have he := Lib.hid (tmod_emod x)
  by_cases hn : x.tmod 8380417 < 0
  · go_enter Try.func39, Try.ntmps39
    go_wp2_with fail
    go_ret
    exact ⟨ret1 (by have := he.out; omega), rfl⟩
  · go_enter Try.func39, Try.ntmps39
    go_wp2_with fail
    go_ret
    exact ⟨ret1 (by have := he.out; omega), rfl⟩
set_option maxHeartbeats 400000 in
theorem Mod_any (x : Int) (w : World) (h1 : -4611686018427387904 ≤ x) (h2 : x ≤ 4611686018427387904) :
    Calls Try.prog 31 #[.int .i64 x] w fun e w' => e = .returned (.int .i32 (x % 8380417)) ∧ w = w' := by
  have hb := tmod_bd x
  have he := Lib.hid (tmod_emod x)
  by_cases hn : x.tmod 8380417 < 0
  · go_enter Try.func31, Try.ntmps31
    go_wp2_with fail
    go_ret
    exact ⟨ret1 (by have := he.out; omega), rfl⟩
  · go_enter Try.func31, Try.ntmps31
    go_wp2_with fail
    go_ret
    exact ⟨ret1 (by have := he.out; omega), rfl⟩
/-- a number as a value -/
abbrev qv (f : FQ) : Value := .int .i32 (f.val : Int)
theorem fq_bd (f : FQ) : 0 ≤ (f.val : Int) ∧ (f.val : Int) < 8380417 := by have := fq_lt f; omega
theorem mul_bd {a b : Int} (ha : 0 ≤ a ∧ a < 8380417) (hb : 0 ≤ b ∧ b < 8380417) : 0 ≤ a * b ∧ a * b < 70231389093889 := by
  refine ⟨Int.mul_nonneg ha.1 hb.1, ?_⟩
  have h1 : a * b ≤ 8380416 * b := Int.mul_le_mul_of_nonneg_right (by omega) hb.1
  omega
set_option maxHeartbeats 400000 in
theorem plus_any (f g : FQ) (w : World) : Calls Try.prog 33 #[qv f, qv g] w fun e w' => e = .returned (qv (f + g)) ∧ w = w' := by
  have he := Lib.hid (add_val' f g)
  have hf := fq_bd f
  have hg := fq_bd g
  unfold qv at *
  generalize (f.val : Int) = a at *
  generalize (g.val : Int) = b at *
  generalize ((f + g).val : Int) = c at *
  go_enter Try.func33, Try.ntmps33
  go_wp2_with (go_at_call 39; refine (modQ_any _ _ (by omega) (by omega)).mono ?_; rintro e w' ⟨rfl, rfl⟩)
  go_ret
  exact ⟨ret1 he.out.symm, rfl⟩
set_option maxHeartbeats 400000 in
theorem minus_any (f g : FQ) (w : World) : Calls Try.prog 34 #[qv f, qv g] w fun e w' => e = .returned (qv (f - g)) ∧ w = w' := by
  have he := Lib.hid (sub_val' f g)
  have hf := fq_bd f
  have hg := fq_bd g
  unfold qv at *
  generalize (f.val : Int) = a at *
  generalize (g.val : Int) = b at *
  generalize ((f - g).val : Int) = c at *
  go_enter Try.func34, Try.ntmps34
  go_wp2_with (go_at_call 39; refine (modQ_any _ _ (by omega) (by omega)).mono ?_; rintro e w' ⟨rfl, rfl⟩)
  go_ret
  exact ⟨ret1 he.out.symm, rfl⟩
set_option maxHeartbeats 400000 in
theorem times_any (f g : FQ) (w : World) : Calls Try.prog 38 #[qv f, qv g] w fun e w' => e = .returned (qv (f * g)) ∧ w = w' := by
  have he := Lib.hid (mul_val' f g)
  have hf := fq_bd f
  have hg := fq_bd g
  have hm := mul_bd hf hg
  unfold qv at *
  generalize (f.val : Int) = a at *
  generalize (g.val : Int) = b at *
  generalize ((f * g).val : Int) = c at *
  go_enter Try.func38, Try.ntmps38
  go_wp2_with (go_at_call 39; refine (modQ_any _ _ (by omega) (by omega)).mono ?_; rintro e w' ⟨rfl, rfl⟩)
  go_ret
  exact ⟨ret1 he.out.symm, rfl⟩
theorem plain_t (x : Int) (h : 0 ≤ x ∧ x < 8380417) (w : World) : Calls Try.prog 43 #[.int .i32 x] w fun e w' => e = .returned (.bool true) ∧ w = w' := by
  obtain ⟨h1, h2⟩ := h
  go_enter Try.func43, Try.ntmps43
  go_wp2_with fail
  go_ret
  exact ⟨rfl, rfl⟩
theorem plain_f (x : Int) (h : ¬ (0 ≤ x ∧ x < 8380417)) (w : World) : Calls Try.prog 43 #[.int .i32 x] w fun e w' => e = .returned (.bool false) ∧ w = w' := by
  by_cases h1 : 0 ≤ x
  · have h2 : ¬ x < 8380417 := fun k => h ⟨h1, k⟩
    clear h
    go_enter Try.func43, Try.ntmps43
    go_wp2_with fail
    go_ret
    exact ⟨rfl, rfl⟩
  · clear h
    go_enter Try.func43, Try.ntmps43
    go_wp2_with fail
    go_ret
    exact ⟨rfl, rfl⟩
/-- the two functions that a step of the transform takes -/
theorem clF_any (a b r : FQ) (w : World) : Calls Try.prog 47 #[qv a, qv b, qv r] w fun e w' => e = .returned (.tuple #[qv (loF a b r), qv (hiF a b r)]) ∧ w = w' := by
  have hc := Lib.hid (times_any b r)
  have hp := Lib.hid (plus_any a (b * r))
  have hm := Lib.hid (minus_any a (b * r))
  unfold loF hiF
  generalize b * r = c at *
  generalize a + c = d at *
  generalize a - c = d2 at *
  unfold qv at *
  generalize (a.val : Int) = a at *
  generalize (b.val : Int) = b at *
  generalize (r.val : Int) = r at *
  generalize (c.val : Int) = c at *
  generalize (d.val : Int) = d at *
  generalize (d2.val : Int) = d2 at *
  go_enter Try.func47, Try.ntmps47
  go_wp2_with (first | (go_at_call 38; refine (hc.out _).mono ?_; rintro e w' ⟨rfl, rfl⟩) | (go_at_call 33; refine (hp.out _).mono ?_; rintro e w' ⟨rfl, rfl⟩) | (go_at_call 34; refine (hm.out _).mono ?_; rintro e w' ⟨rfl, rfl⟩))
  go_ret2
  exact ⟨rfl, rfl⟩
theorem clB_any (a b r : FQ) (w : World) : Calls Try.prog 48 #[qv a, qv b, qv r] w fun e w' => e = .returned (.tuple #[qv (loB a b r), qv (hiB a b r)]) ∧ w = w' := by
  have hp := Lib.hid (plus_any a b)
  have hm := Lib.hid (minus_any a b)
  have hc := Lib.hid (times_any (a - b) r)
  unfold loB hiB
  generalize a + b = d at *
  generalize a - b = c at *
  generalize c * r = d2 at *
  unfold qv at *
  generalize (a.val : Int) = a at *
  generalize (b.val : Int) = b at *
  generalize (r.val : Int) = r at *
  generalize (c.val : Int) = c at *
  generalize (d.val : Int) = d at *
  generalize (d2.val : Int) = d2 at *
  go_enter Try.func48, Try.ntmps48
  go_wp2_with (first | (go_at_call 38; refine (hc.out _).mono ?_; rintro e w' ⟨rfl, rfl⟩) | (go_at_call 33; refine (hp.out _).mono ?_; rintro e w' ⟨rfl, rfl⟩) | (go_at_call 34; refine (hm.out _).mono ?_; rintro e w' ⟨rfl, rfl⟩))
  go_ret2
  exact ⟨rfl, rfl⟩
end Go.Proofs.Ytbhhpopckchibaa
