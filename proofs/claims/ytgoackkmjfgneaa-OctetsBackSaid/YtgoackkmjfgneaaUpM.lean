/- Raising to a multiple of a power of two, as plain arithmetic on naturals. No condition. -/
import Derived.Laws.BitsAllLaws
namespace Go.Proofs.Ytgoackkmjfgneaa

def IsPow (a : Nat) : Prop := ∃ k, a = 2 ^ k
theorem isPow_pos {a : Nat} (h : IsPow a) : 0 < a := by obtain ⟨k, rfl⟩ := h; exact Nat.two_pow_pos k
theorem isPow_one : IsPow 1 := ⟨0, rfl⟩
theorem isPow_odd {a : Nat} (h : IsPow a) (ho : a % 2 = 1) : a = 1 := by
  obtain ⟨k, rfl⟩ := h
  cases k with
  | zero => rfl
  | succ k => rw [Nat.pow_succ] at ho; omega
theorem isPow_half {a : Nat} (he : a % 2 = 0) (h1 : 1 < a) : IsPow (a / 2) ↔ IsPow a := by
  constructor
  · rintro ⟨k, hk⟩; exact ⟨k + 1, by rw [Nat.pow_succ]; omega⟩
  · rintro ⟨k, rfl⟩
    cases k with
    | zero => simp at h1
    | succ k => exact ⟨k, by rw [Nat.pow_succ]; omega⟩

theorem and_two_mul (b c : Nat) : (2 * b) &&& (2 * c + 1) = 2 * (b &&& c) := by
  apply Nat.eq_of_testBit_eq
  intro i
  cases i with
  | zero => rw [Nat.testBit_and]; simp [Nat.testBit_zero]
  | succ i => rw [Nat.testBit_and, Nat.testBit_succ, Nat.testBit_succ, Nat.testBit_succ, show (2 * c + 1) / 2 = c by omega, show 2 * b / 2 = b by omega, show 2 * (b &&& c) / 2 = b &&& c by omega, Nat.testBit_and]
theorem odd_and (b : Nat) : (2 * b + 1) &&& (2 * b) = 2 * b := by
  apply Nat.eq_of_testBit_eq
  intro i
  cases i with
  | zero => rw [Nat.testBit_and]; simp [Nat.testBit_zero]
  | succ i => rw [Nat.testBit_and, Nat.testBit_succ, Nat.testBit_succ, show (2 * b + 1) / 2 = b by omega, show 2 * b / 2 = b by omega, Bool.and_self]
theorem and_pred : ∀ (n a : Nat), a ≤ n → 0 < a → (a &&& (a - 1) = 0 ↔ IsPow a) := by
  intro n
  induction n with
  | zero => intro a h1 h2; omega
  | succ n ih =>
    intro a h1 h2
    rcases Nat.mod_two_eq_zero_or_one a with h | h
    · obtain ⟨b, rfl⟩ : ∃ b, a = 2 * b := ⟨a / 2, by omega⟩
      have e : 2 * b - 1 = 2 * (b - 1) + 1 := by omega
      rw [e, and_two_mul]
      have := ih b (by omega) (by omega)
      have hh := isPow_half (a := 2 * b) h (by omega)
      rw [show 2 * b / 2 = b by omega] at hh
      rw [← hh, ← this]
      omega
    · obtain ⟨b, rfl⟩ : ∃ b, a = 2 * b + 1 := ⟨a / 2, by omega⟩
      rw [show 2 * b + 1 - 1 = 2 * b by omega, odd_and]
      constructor
      · intro hb; obtain rfl : b = 0 := by omega
        exact isPow_one
      · intro hp; have := isPow_odd hp h; omega

/-- the low bits struck -/
theorem and_high (s k : Nat) (hk : k ≤ 64) (hs : s < 18446744073709551616) : s &&& (18446744073709551615 - (2 ^ k - 1)) = s - s % 2 ^ k := by
  have hp : 2 ^ k ≤ 2 ^ 64 := Nat.pow_le_pow_right (by decide) hk
  have h1 : 1 ≤ 2 ^ k := Nat.two_pow_pos k
  have e : 18446744073709551615 - (2 ^ k - 1) = 2 ^ 64 - ((2 ^ k - 1) + 1) := by
    have : (2 : Nat) ^ 64 = 18446744073709551616 := by decide
    omega
  have e2 : s - s % 2 ^ k = 2 ^ k * (s / 2 ^ k) := by have := Nat.div_add_mod s (2 ^ k); omega
  rw [e, e2]
  apply Nat.eq_of_testBit_eq
  intro i
  rw [Nat.testBit_and, Nat.testBit_two_pow_sub_succ (by omega), Nat.testBit_two_pow_mul, Nat.testBit_two_pow_sub_one, Nat.testBit_div_two_pow]
  by_cases hi : k ≤ i
  · have : k + (i - k) = i := by omega
    by_cases h64 : i < 64
    · simp [hi, h64, Nat.not_lt.2 hi]
    · have hz : s.testBit i = false := Nat.testBit_lt_two_pow (Nat.lt_of_lt_of_le (show s < 2 ^ 64 by simpa using hs) (Nat.pow_le_pow_right (by decide) (by omega)))
      simp [hi, hz]
  · simp [hi, Nat.lt_of_not_le hi]

def upV (v a : Nat) : Nat := if v % a = 0 then v else v + (a - v % a)
/-- what the shifted sum is: no multiple wraps -/
theorem up_fits {v k : Nat} (hk : k ≤ 63) (hv : v < 18446744073709551616) (h : v + (2 ^ k - 1) < 18446744073709551616) : (v + (2 ^ k - 1)) &&& (18446744073709551615 - (2 ^ k - 1)) = upV v (2 ^ k) ∧ v ≤ upV v (2 ^ k) ∧ (v % 2 ^ k ≠ 0 → 2 ^ k - v % 2 ^ k ≤ 18446744073709551615 - v) := by
  rw [and_high _ k (by omega) h]
  have hp := Nat.two_pow_pos k
  generalize 2 ^ k = a at *
  have hd := Nat.div_add_mod v a
  have hm := Nat.mod_lt v hp
  unfold upV
  generalize v % a = r at *
  generalize v / a = q at *
  by_cases hr : r = 0
  · rw [if_pos hr]
    have e : (v + (a - 1)) % a = a - 1 := by
      have : v + (a - 1) = (a - 1) + a * q := by omega
      rw [this, Nat.add_mul_mod_self_left, Nat.mod_eq_of_lt (by omega)]
    rw [e]; omega
  · rw [if_neg hr]
    have e : (v + (a - 1)) % a = r - 1 := by
      have : v + (a - 1) = (r - 1) + a * (q + 1) := by rw [Nat.mul_add, Nat.mul_one]; omega
      rw [this, Nat.add_mul_mod_self_left, Nat.mod_eq_of_lt (by omega)]
    rw [e]; omega
/-- where it wraps, no multiple exists -/
theorem up_over {v k : Nat} (hk : k ≤ 63) (hv : v < 18446744073709551616) (h : 18446744073709551616 ≤ v + (2 ^ k - 1)) : (v + (2 ^ k - 1) - 18446744073709551616) &&& (18446744073709551615 - (2 ^ k - 1)) = 0 ∧ 0 < v ∧ v % 2 ^ k ≠ 0 ∧ 18446744073709551615 - v < 2 ^ k - v % 2 ^ k := by
  have hp2 : 2 ^ k ≤ 2 ^ 63 := Nat.pow_le_pow_right (by decide) hk
  have h63 : (2 : Nat) ^ 63 = 9223372036854775808 := by decide
  rw [and_high _ k (by omega) (by omega)]
  have hp := Nat.two_pow_pos k
  have hdvd : 18446744073709551616 = 2 ^ k * 2 ^ (64 - k) := by rw [← Nat.pow_add, show k + (64 - k) = 64 by omega]
  generalize 2 ^ (64 - k) = m at *
  generalize 2 ^ k = a at *
  have hd := Nat.div_add_mod v a
  have hm := Nat.mod_lt v hp
  generalize v % a = r at *
  generalize v / a = q at *
  have hq : q < m := by
    rcases Nat.lt_or_ge q m with h1 | h1
    · exact h1
    · have := Nat.mul_le_mul_left a h1; omega
  have hq2 : a * (q + 1) ≤ a * m := Nat.mul_le_mul_left a hq
  rw [Nat.mul_add] at hq2
  rw [Nat.mod_eq_of_lt (show v + (a - 1) - 18446744073709551616 < a by omega)]
  have hq3 : m ≤ q + 1 := by
    rcases Nat.lt_or_ge (q + 1) m with h1 | h1
    · have := Nat.mul_le_mul_left a (show q + 2 ≤ m by omega)
      rw [Nat.mul_add] at this
      omega
    · exact h1
  obtain rfl : m = q + 1 := by omega
  rw [Nat.mul_add] at hdvd
  exact ⟨by omega, by omega, by omega, by omega⟩
end Go.Proofs.Ytgoackkmjfgneaa
