/- Fits and Up: the project's functions and the document's give one answer. -/
import Derived.Test.YtgoackkmjfgneaaNum
import Derived.Test.YtgoackkmjfgneaaUpM
namespace Go.Proofs.Ytgoackkmjfgneaa
open Go.RowKit
set_option linter.unusedVariables false

theorem fits_yes (f s l : Nat) (w : World) (hl : l ≤ 18446744073709551615) (h : f + s ≤ l) :
    Calls Try.prog 18 #[.int .u64 (f : Nat), .int .u64 (s : Nat), .int .u64 (l : Nat)] w (fun e w' => e = .returned (.bool true) ∧ w = w') ∧
    Calls Try.prog 23 #[.int .u64 (f : Nat), .int .u64 (s : Nat), .int .u64 (l : Nat)] w (fun e w' => e = .returned (.bool true) ∧ w = w') := by
  have h1 : f ≤ l := by omega
  have h2 : decide (f ≤ l) = true := by simpa using h1
  have h3 : decide ((s : Int) ≤ (l : Int) - (f : Int)) = true := by simp; omega
  constructor
  · go_enter Try.func18, Try.ntmps18
    go_wp2
    go_ret
    exact ⟨rfl, rfl⟩
  · go_enter Try.func23, Try.ntmps23
    go_wp2
    go_ret
    exact ⟨rfl, rfl⟩
theorem fits_no (f s l : Nat) (w : World) (hl : l ≤ 18446744073709551615) (h : l < f + s) :
    Calls Try.prog 18 #[.int .u64 (f : Nat), .int .u64 (s : Nat), .int .u64 (l : Nat)] w (fun e w' => e = .returned (.bool false) ∧ w = w') ∧
    Calls Try.prog 23 #[.int .u64 (f : Nat), .int .u64 (s : Nat), .int .u64 (l : Nat)] w (fun e w' => e = .returned (.bool false) ∧ w = w') := by
  by_cases h1 : f ≤ l
  · have h2 : decide (f ≤ l) = true := by simpa using h1
    have h3 : decide ((s : Int) ≤ (l : Int) - (f : Int)) = false := by simp; omega
    constructor
    · go_enter Try.func18, Try.ntmps18
      go_wp2
      go_ret
      exact ⟨rfl, rfl⟩
    · go_enter Try.func23, Try.ntmps23
      go_wp2
      go_ret
      exact ⟨rfl, rfl⟩
  · have h2 : decide (f ≤ l) = false := by simpa using h1
    clear h
    constructor
    · go_enter Try.func18, Try.ntmps18
      go_wp2
      go_ret
      exact ⟨rfl, rfl⟩
    · go_enter Try.func23, Try.ntmps23
      go_wp2
      go_ret
      exact ⟨rfl, rfl⟩

theorem bits_pred (a : Nat) (h0 : 0 < a) (h : a < 18446744073709551616) : bits .and .u64 (a : Int) ((a : Int) - 1) = ((a &&& (a - 1) : Nat) : Int) := by
  have := u64_and_nat a (a - 1) h (by omega)
  rw [← this]
  congr 1
  omega
theorem bits_clear (s a : Nat) (h0 : 0 < a) (h : a < 18446744073709551616) (hs : s < 18446744073709551616) : bits .andNot .u64 (s : Int) ((a : Int) - 1) = ((s &&& (18446744073709551615 - (a - 1)) : Nat) : Int) := by
  have := u64_andNot_nat s (a - 1) hs (by omega)
  rw [← this]
  congr 1
  omega

theorem up19_zero (v : Int) (w : World) :
    Calls Try.prog 19 #[.int .u64 v, .int .u64 0] w (fun e w' => e = .returned (.tuple #[.int .u64 0, .int .i64 1]) ∧ w = w') := by
  go_enter Try.func19, Try.ntmps19
  go_wp2
  go_ret2
  exact ⟨rfl, rfl⟩
theorem up19_bad (v a : Nat) (w : World) (h0 : 0 < a) (ha : a < 18446744073709551616) (h : ¬ IsPow a) :
    Calls Try.prog 19 #[.int .u64 (v : Nat), .int .u64 (a : Nat)] w (fun e w' => e = .returned (.tuple #[.int .u64 0, .int .i64 1]) ∧ w = w') := by
  have h1 : ((a : Int) == 0) = false := by simp; omega
  have h2 := bits_pred a h0 ha
  have h3 : a &&& (a - 1) ≠ 0 := fun e => h ((and_pred a a (Nat.le_refl _) h0).1 e)
  have h4 : ((((a &&& (a - 1) : Nat)) : Int) != 0) = true := by rw [bne_iff_ne]; omega
  generalize a &&& (a - 1) = q at *
  clear h3 h
  go_enter Try.func19, Try.ntmps19
  go_wp2
  go_ret2
  exact ⟨rfl, rfl⟩
theorem up19_ok (v k : Nat) (w : World) (hk : k ≤ 63) (hv : v < 18446744073709551616) (h : v + (2 ^ k - 1) < 18446744073709551616) :
    Calls Try.prog 19 #[.int .u64 (v : Nat), .int .u64 ((2 ^ k : Nat) : Int)] w (fun e w' => e = .returned (.tuple #[.int .u64 (upV v (2 ^ k) : Nat), .int .i64 0]) ∧ w = w') := by
  have hu := up_fits hk hv h
  have hp := two_pow_c hk
  have hz := (and_pred _ (2 ^ k) (Nat.le_refl _) hp.1).2 ⟨k, rfl⟩
  generalize 2 ^ k = a at *
  have h1 : ((a : Int) == 0) = false := by simp; omega
  have h2 := bits_pred a hp.1 (by omega)
  rw [hz] at h2
  have h3 := bits_clear (v + (a - 1)) a hp.1 (by omega) h
  rw [hu.1, show ((v + (a - 1) : Nat) : Int) = (v : Int) + ((a : Int) - 1) by omega] at h3
  have h4 : decide (upV v a < v) = false := by simpa using hu.2.1
  generalize upV v a = u at *
  clear hz hu
  go_enter Try.func19, Try.ntmps19
  go_wp2
  go_ret2
  exact ⟨rfl, rfl⟩
theorem up19_over (v k : Nat) (w : World) (hk : k ≤ 63) (hv : v < 18446744073709551616) (h : 18446744073709551616 ≤ v + (2 ^ k - 1)) :
    Calls Try.prog 19 #[.int .u64 (v : Nat), .int .u64 ((2 ^ k : Nat) : Int)] w (fun e w' => e = .returned (.tuple #[.int .u64 0, .int .i64 12]) ∧ w = w') := by
  have hu := up_over hk hv h
  have hp := two_pow_c hk
  have hz := (and_pred _ (2 ^ k) (Nat.le_refl _) hp.1).2 ⟨k, rfl⟩
  generalize 2 ^ k = a at *
  have h1 : ((a : Int) == 0) = false := by simp; omega
  have h2 := bits_pred a hp.1 (by omega)
  rw [hz] at h2
  obtain ⟨s, hs⟩ : ∃ s, s = v + (a - 1) - 18446744073709551616 := ⟨_, rfl⟩
  have h3 := bits_clear s a hp.1 (by omega) (by omega)
  rw [hs, hu.1, ← hs] at h3
  have h4 : IntKind.u64.wrap ((v : Int) + ((a : Int) - 1)) = (s : Int) := by rw [IntKind.wrap_u64]; omega
  have h5 : (0 : Int) < (v : Int) := by omega
  clear hz hu hs h
  go_enter Try.func19, Try.ntmps19
  go_wp2
  go_ret2
  exact ⟨rfl, rfl⟩

def PowRel (a P : Nat) : Prop := (IsPow P ↔ IsPow a) ∧ P < 18446744073709551616
theorem PowRel.half {a P : Nat} (h : PowRel a P) (he : P % 2 = 0) (h1 : 1 < P) : PowRel a (P / 2) := ⟨(isPow_half he h1).trans h.1, by have := h.2; omega⟩

set_option maxHeartbeats 400000 in
theorem up21_bad (v : Int) (a : Nat) (w : World) (ha : a < 18446744073709551616) (h : ¬ IsPow a) :
    Calls Try.prog 21 #[.int .u64 v, .int .u64 (a : Nat)] w (fun e w' => e = .returned (.tuple #[.int .u64 0, .int .i64 1]) ∧ w = w') := by
  have H := Lib.hid h
  clear h
  go_enter Try.func21, Try.ntmps21
  go_wp2
  go_loop [6] (fun p => ∃ P : Nat, p = .int .u64 P ∧ PowRel a P) (fun p => (intOf p).toNat)
  case atStart => exact ⟨a, rfl, Iff.rfl, ha⟩
  case round =>
    obtain ⟨P, rfl, hrel⟩ := hrel
    have HR := Lib.hid hrel
    have hP := hrel.2
    clear hrel
    by_cases h1 : 1 < P
    · have d1 : decide ((1 : Int) < (P : Int)) = true := by simp; omega
      rcases Nat.mod_two_eq_zero_or_one P with h2 | h2
      · have d2 : ((P : Int) % 2 == 0) = true := by rw [beq_iff_eq]; omega
        have R2 := HR.out.half h2 h1
        clear h2
        go_wp2
        go_round
        case rel => exact ⟨P / 2, by go_num, R2⟩
        case measure => simp [intOf]; omega
      · have d2 : ((P : Int) % 2 == 0) = false := by rw [beq_eq_false_iff_ne]; omega
        have d3 : ((P : Int) != 1) = true := by rw [bne_iff_ne]; omega
        clear h2
        go_wp2
        go_ret2
        exact ⟨rfl, rfl⟩
    · have d1 : decide ((1 : Int) < (P : Int)) = false := by simp; omega
      have hne : P ≠ 1 := fun e => H.out (HR.out.1.1 (by rw [e]; exact isPow_one))
      have d3 : ((P : Int) != 1) = true := by rw [bne_iff_ne]; omega
      clear hne
      go_wp2
      go_ret2
      exact ⟨rfl, rfl⟩

/-- what the document's Up answers for a power of two -/
def UpIs (v a : Nat) (x e : Int) : Prop :=
  (v % a = 0 ∧ x = v ∧ e = 0) ∨ (v % a ≠ 0 ∧ a - v % a ≤ 18446744073709551615 - v ∧ x = ((v + (a - v % a) : Nat) : Int) ∧ e = 0) ∨ (v % a ≠ 0 ∧ 18446744073709551615 - v < a - v % a ∧ x = 0 ∧ e = 12)

set_option maxHeartbeats 400000 in
theorem up21_pow (v a : Nat) (x e : Int) (w : World) (hv : v ≤ 18446744073709551615) (ha : a < 18446744073709551616) (h : IsPow a) (hx : UpIs v a x e) :
    Calls Try.prog 21 #[.int .u64 (v : Nat), .int .u64 (a : Nat)] w (fun en w' => en = .returned (.tuple #[.int .u64 x, .int .i64 e]) ∧ w = w') := by
  have H := Lib.hid h
  have HX := Lib.hid hx
  have h0 := isPow_pos h
  clear h hx
  go_enter Try.func21, Try.ntmps21
  go_wp2
  go_loop [6] (fun p => ∃ P : Nat, p = .int .u64 P ∧ PowRel a P) (fun p => (intOf p).toNat)
  case atStart => exact ⟨a, rfl, Iff.rfl, ha⟩
  case round =>
    obtain ⟨P, rfl, hrel⟩ := hrel
    have HR := Lib.hid hrel
    have hP := hrel.2
    have hP0 : 0 < P := isPow_pos (hrel.1.2 H.out)
    clear hrel
    by_cases h1 : P = 1
    · subst h1
      have HM := Lib.hid (Nat.mod_lt v h0)
      have hm : (v : Int) % (a : Int) = ((v % a : Nat) : Int) := by simp
      have hm2 : (v : Int).tmod (a : Int) = ((v % a : Nat) : Int) := by rw [Int.tmod_eq_emod_of_nonneg (by omega)]; exact hm
      have hX := HX.out
      unfold UpIs at hX
      generalize v % a = r at *
      have hr := HM.out
      rcases hX with ⟨rfl, rfl, rfl⟩ | ⟨hr0, hfit, rfl, rfl⟩ | ⟨hr0, hfit, rfl, rfl⟩
      · go_wp2
        go_ret2
        exact ⟨rfl, rfl⟩
      · have d1 : ((r : Int) == 0) = false := by rw [beq_eq_false_iff_ne]; omega
        have d2 : decide ((18446744073709551615 : Int) - (v : Int) < (a : Int) - (r : Int)) = false := by simp; omega
        clear hr0
        go_wp2
        go_ret2
        exact ⟨ret2_congr (by omega) rfl, rfl⟩
      · have d1 : ((r : Int) == 0) = false := by rw [beq_eq_false_iff_ne]; omega
        have d2 : decide ((18446744073709551615 : Int) - (v : Int) < (a : Int) - (r : Int)) = true := by simp; omega
        clear hr0
        go_wp2
        go_ret2
        exact ⟨rfl, rfl⟩
    · have d1 : decide ((1 : Int) < (P : Int)) = true := by simp; omega
      have h2 : P % 2 = 0 := by
        rcases Nat.mod_two_eq_zero_or_one P with h2 | h2
        · exact h2
        · exact absurd (isPow_odd (HR.out.1.2 H.out) h2) h1
      have d2 : ((P : Int) % 2 == 0) = true := by rw [beq_iff_eq]; omega
      have R2 := HR.out.half h2 (by omega)
      clear h2
      go_wp2
      go_round
      case rel => exact ⟨P / 2, by go_num, R2⟩
      case measure => simp [intOf]; omega

/-- both Up functions answer so -/
theorem up_both (v a : Nat) (hv : v ≤ 18446744073709551615) (ha : a ≤ 18446744073709551615) : ∃ x e : Int, ∀ w,
    Calls Try.prog 19 #[.int .u64 (v : Nat), .int .u64 (a : Nat)] w (fun en w' => en = .returned (.tuple #[.int .u64 x, .int .i64 e]) ∧ w = w') ∧
    Calls Try.prog 21 #[.int .u64 (v : Nat), .int .u64 (a : Nat)] w (fun en w' => en = .returned (.tuple #[.int .u64 x, .int .i64 e]) ∧ w = w') := by
  by_cases hp : IsPow a
  · obtain ⟨k, rfl⟩ := hp
    have hk : k ≤ 63 := by
      rcases Nat.lt_or_ge 63 k with h | h
      · have h1 : 2 ^ 64 ≤ 2 ^ k := Nat.pow_le_pow_right (by decide) h
        have h2 : (2 : Nat) ^ 64 = 18446744073709551616 := by decide
        omega
      · exact h
    rcases Nat.lt_or_ge (v + (2 ^ k - 1)) 18446744073709551616 with h | h
    · have hu := up_fits hk (by omega) h
      refine ⟨_, _, fun w => ⟨up19_ok v k w hk (by omega) h, up21_pow v (2 ^ k) _ _ w hv (by omega) ⟨k, rfl⟩ ?_⟩⟩
      unfold UpIs
      unfold upV
      by_cases hr : v % 2 ^ k = 0
      · exact .inl ⟨hr, by rw [if_pos hr], rfl⟩
      · exact .inr (.inl ⟨hr, hu.2.2 hr, by rw [if_neg hr], rfl⟩)
    · have hu := up_over hk (by omega) h
      exact ⟨_, _, fun w => ⟨up19_over v k w hk (by omega) h, up21_pow v (2 ^ k) _ _ w hv (by omega) ⟨k, rfl⟩ (.inr (.inr ⟨hu.2.2.1, hu.2.2.2, rfl, rfl⟩))⟩⟩
  · by_cases h0 : a = 0
    · subst h0
      exact ⟨_, _, fun w => ⟨up19_zero v w, up21_bad v 0 w (by omega) hp⟩⟩
    · exact ⟨_, _, fun w => ⟨up19_bad v a w (by omega) (by omega) hp, up21_bad v a w (by omega) hp⟩⟩
end Go.Proofs.Ytgoackkmjfgneaa
