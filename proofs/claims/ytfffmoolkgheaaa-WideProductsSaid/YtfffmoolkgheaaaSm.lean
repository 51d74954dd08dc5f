/- Shifts of numbers, word by word, in plain arithmetic. No condition. -/
import Derived.Test.YtfffmoolkgheaaaBt
namespace Go.Proofs.Ytfffmoolkgheaaa
open Go.RowKit
set_option linter.unusedVariables false
set_option linter.unusedSimpArgs false
/-- word j of x, 0 below the lowest -/
def wz (x : Nat) (j : Int) : Nat := if 0 ≤ j then dgt (2 ^ 64) x j.toNat else 0
theorem wz_lt (x : Nat) (j : Int) : wz x j < 2 ^ 64 := by unfold wz; split; exact dgt_lt (by decide) _ _; decide
theorem wz_neg (x : Nat) (j : Int) (h : j < 0) : wz x j = 0 := by unfold wz; rw [if_neg (by omega)]
theorem wz_nat (x j : Nat) : wz x (j : Int) = dgt (2 ^ 64) x j := by unfold wz; rw [if_pos (by omega)]; rfl
theorem dgt_high {B x n j : Nat} (hB : 0 < B) (h : x < B ^ n) (hj : n ≤ j) : dgt B x j = 0 := by
  unfold dgt
  rw [Nat.div_eq_of_lt (Nat.lt_of_lt_of_le h (Nat.pow_le_pow_right hB hj))]; simp
theorem dgt_bit (x j c : Nat) : (dgt (2 ^ 64) x j).testBit c = (decide (c < 64) && x.testBit (64 * j + c)) := by
  unfold dgt
  rw [← Nat.pow_mul, Nat.testBit_mod_two_pow, Nat.testBit_div_two_pow, Nat.add_comm]
theorem wz_bit (x : Nat) (j : Int) (c : Nat) : (wz x j).testBit c = (decide (0 ≤ j) && (decide (c < 64) && x.testBit (64 * j.toNat + c))) := by
  unfold wz
  split
  · rename_i h; rw [dgt_bit]; simp [h]
  · rename_i h; simp [h]
theorem bool_and_congr {P Q : Prop} [Decidable P] [Decidable Q] {a b : Bool} (h1 : P ↔ Q) (h2 : P → a = b) : (decide P && a) = (decide Q && b) := by
  by_cases h : P
  · have hq := h1.1 h; simp [h, hq, h2 h]
  · have hq : ¬ Q := fun q => h (h1.2 q)
    simp [h, hq]
theorem shl_word (x N i : Nat) : dgt (2 ^ 64) (x * 2 ^ N) i = (wz x ((i : Int) - (N / 64 : Nat)) * 2 ^ (N % 64) % 2 ^ 64) ||| (wz x ((i : Int) - (N / 64 : Nat) - 1) / 2 ^ (64 - N % 64)) := by
  apply Nat.eq_of_testBit_eq
  intro b
  simp only [dgt_bit, Nat.testBit_or, Nat.testBit_mod_two_pow, Nat.testBit_mul_two_pow, Nat.testBit_div_two_pow, wz_bit]
  obtain ⟨q, hq⟩ : ∃ q, q = N / 64 := ⟨_, rfl⟩
  obtain ⟨r, hr⟩ : ∃ r, r = N % 64 := ⟨_, rfl⟩
  rw [← hq, ← hr]
  have hN : N = 64 * q + r := by omega
  have hr64 : r < 64 := by omega
  clear hq hr
  obtain ⟨z, hz⟩ : ∃ z, z = (i : Int) - (q : Int) := ⟨_, rfl⟩
  obtain ⟨y, hy⟩ : ∃ y, y = z - 1 := ⟨_, rfl⟩
  rw [← hz, ← hy]
  by_cases hb : b < 64
  · by_cases hbr : r ≤ b
    · have h2 : ¬ (b + (64 - r) < 64) := by omega
      have h3 : b - r < 64 := by omega
      by_cases hi : q ≤ i
      · have h4 : N ≤ 64 * i + b := by omega
        have h5 : (0 : Int) ≤ z := by omega
        have e1 : 64 * z.toNat + (b - r) = 64 * i + b - N := by omega
        simp [hb, hbr, h2, h3, h4, h5, e1]
      · have h4 : ¬ (N ≤ 64 * i + b) := by omega
        have h5 : ¬ ((0 : Int) ≤ z) := by omega
        simp [hb, h2, h4, h5]
    · have h2 : b + (64 - r) < 64 := by omega
      by_cases hi : q + 1 ≤ i
      · have h4 : N ≤ 64 * i + b := by omega
        have h5 : (0 : Int) ≤ y := by omega
        have e1 : 64 * y.toNat + (b + (64 - r)) = 64 * i + b - N := by omega
        simp [hb, hbr, h2, h4, h5, e1]
      · have h4 : ¬ (N ≤ 64 * i + b) := by omega
        have h5 : ¬ ((0 : Int) ≤ y) := by omega
        simp [hb, hbr, h4, h5]
  · have h2 : ¬ (b + (64 - r) < 64) := by omega
    simp [hb, h2]
theorem shr_word (x N i : Nat) : dgt (2 ^ 64) (x / 2 ^ N) i = (wz x ((i : Int) + (N / 64 : Nat)) / 2 ^ (N % 64)) ||| (wz x ((i : Int) + (N / 64 : Nat) + 1) * 2 ^ (64 - N % 64) % 2 ^ 64) := by
  apply Nat.eq_of_testBit_eq
  intro b
  simp only [dgt_bit, Nat.testBit_or, Nat.testBit_mod_two_pow, Nat.testBit_mul_two_pow, Nat.testBit_div_two_pow, wz_bit]
  obtain ⟨q, hq⟩ : ∃ q, q = N / 64 := ⟨_, rfl⟩
  obtain ⟨r, hr⟩ : ∃ r, r = N % 64 := ⟨_, rfl⟩
  rw [← hq, ← hr]
  have hN : N = 64 * q + r := by omega
  have hr64 : r < 64 := by omega
  clear hq hr
  have h5 : (0 : Int) ≤ (i : Int) + (q : Int) := by omega
  have h6 : (0 : Int) ≤ (i : Int) + (q : Int) + 1 := by omega
  by_cases hb : b < 64
  · by_cases hbr : b + r < 64
    · have h2 : ¬ (64 - r ≤ b) := by omega
      have e1 : 64 * ((i : Int) + (q : Int)).toNat + (b + r) = 64 * i + b + N := by omega
      simp [hb, hbr, h2, h5, e1]
    · have h2 : 64 - r ≤ b := by omega
      have h3 : b - (64 - r) < 64 := by omega
      have e1 : 64 * ((i : Int) + (q : Int) + 1).toNat + (b - (64 - r)) = 64 * i + b + N := by omega
      simp [hb, hbr, h2, h3, h5, h6, e1]
  · have h2 : ¬ (b + r < 64) := by omega
    simp [hb, h2]
end Go.Proofs.Ytfffmoolkgheaaa
