/- A digit of a quotient is guessed and mended, in plain arithmetic. No condition. -/
import Derived.Test.YtfffmoolkgheaaaTm
import Derived.Test.YtfffmoolkgheaaaSd
namespace Go.Proofs.Ytfffmoolkgheaaa
open Go.RowKit
set_option linter.unusedVariables false
set_option linter.unusedSimpArgs false
/-- what is so of the quotient's digit while it is mended -/
def DigInv (N m : Nat) (o : Int) (q R : Nat) : Prop := R < 2 ^ 256 ∧ o * 2 ^ 256 + (R : Int) = (N : Int) - ((m * q : Nat) : Int) ∧ N / m ≤ q ∧ q < 4294967296 ∧ -8589934592 ≤ o ∧ o ≤ 8589934592
theorem dig_step {N m : Nat} {o : Int} {q R : Nat} (h : DigInv N m o q R) (ho : o < 0) (hm : m < 2 ^ 256) (hm0 : 0 < m) : 1 ≤ q ∧ DigInv N m (o + (addC R m : Nat)) (q - 1) ((R + m) % 2 ^ 256) := by
  obtain ⟨h1, h2, h3, h4, h5, h6⟩ := h
  have hlt : N < m * q := by
    generalize m * q = mq at *
    omega
  have hq : N / m < q := by rw [Nat.div_lt_iff_lt_mul hm0, Nat.mul_comm]; exact hlt
  have hq1 : 1 ≤ q := Nat.lt_of_le_of_lt (Nat.zero_le _) hq
  obtain ⟨k, rfl⟩ : ∃ k, q = k + 1 := ⟨q - 1, by omega⟩
  rw [Nat.mul_add, Nat.mul_one] at h2
  have hc : addC R m ≤ 1 := by unfold addC; omega
  have hr : (R + m) % 2 ^ 256 + 2 ^ 256 * addC R m = R + m := Nat.mod_add_div _ _
  refine ⟨hq1, Nat.mod_lt _ (by decide), ?_, by omega, by omega, by omega, by omega⟩
  rw [show k + 1 - 1 = k from rfl]
  generalize m * k = mk at *
  generalize addC R m = c at *
  generalize (R + m) % 2 ^ 256 = R' at *
  rw [Int.add_mul]
  clear hlt hq h3
  omega
theorem dig_done {N m : Nat} {o : Int} {q R : Nat} (h : DigInv N m o q R) (ho : ¬ o < 0) (hm : m < 2 ^ 256) (hm0 : 0 < m) : q = N / m ∧ R = N % m := by
  obtain ⟨h1, h2, h3, h4, h5, h6⟩ := h
  have hle : m * q ≤ N := by
    generalize m * q = mq at *
    omega
  have hq : q ≤ N / m := by rw [Nat.le_div_iff_mul_le hm0, Nat.mul_comm]; exact hle
  have he : q = N / m := by omega
  refine ⟨he, ?_⟩
  have hd := Nat.mod_add_div N m
  have hl := Nat.mod_lt N hm0
  rw [← he] at hd
  generalize m * q = mq at *
  generalize N % m = z at *
  clear h3 hq he
  omega
theorem top_word (x : Nat) (hx : x < 2 ^ 256) : dgt (2 ^ 64) x 3 = x / 2 ^ 192 := by
  have := dgt_top (2 ^ 64) x 3 (by decide) (by rw [show (2 ^ 64) ^ (3 + 1) = 2 ^ 256 from pow256]; exact hx)
  rw [this, ← Nat.pow_mul]
theorem guess_hi (r m nx : Nat) (hr : r < m) (hm : m < 2 ^ 256) (hm2 : 2 ^ 255 ≤ m) (hn : nx < 4294967296) : (r * 4294967296 + nx) / m ≤ min (r / 2 ^ 192 / (m / 2 ^ 224)) 4294967295 := by
  have hm0 : 0 < m := by omega
  have h1 : (r * 4294967296 + nx) / m < 4294967296 := by
    rw [Nat.div_lt_iff_lt_mul hm0]; omega
  have hmh : 0 < m / 2 ^ 224 := by omega
  have h2 : (r * 4294967296 + nx) / m ≤ (r * 4294967296 + nx) / (2 ^ 224 * (m / 2 ^ 224)) := Nat.div_le_div_left (Nat.mul_div_le _ _) (Nat.mul_pos (by decide) hmh)
  have h3 : (r * 4294967296 + nx) / (2 ^ 224 * (m / 2 ^ 224)) = r / 2 ^ 192 / (m / 2 ^ 224) := by
    rw [← Nat.div_div_eq_div_mul]
    congr 1
    omega
  rw [h3] at h2
  omega
theorem dig_start (r m nx q : Nat) (hr : r < m) (hm : m < 2 ^ 256) (hm2 : 2 ^ 255 ≤ m) (hn : nx < 4294967296) (hq : q = min (dgt (2 ^ 64) r 3 / (dgt (2 ^ 64) m 3 / 4294967296)) 4294967295) :
    DigInv (r * 4294967296 + nx) m (((dgt (2 ^ 64) r 3 / 4294967296 : Nat) : Int) - (m * q / 2 ^ 256 : Nat) - (lt01 ((r * 4294967296 + nx) % 2 ^ 256) (m * q % 2 ^ 256) : Nat)) q (((r * 4294967296 + nx) % 2 ^ 256 + 2 ^ 256 - m * q % 2 ^ 256) % 2 ^ 256) := by
  have hr2 : r < 2 ^ 256 := by omega
  rw [top_word r hr2, top_word m hm] at hq
  rw [top_word r hr2]
  have e1 : m / 2 ^ 192 / 4294967296 = m / 2 ^ 224 := by omega
  rw [e1] at hq
  have hg := guess_hi r m nx hr hm hm2 hn
  rw [← hq] at hg
  have hq32 : q < 4294967296 := by omega
  have hmq : m * q < 2 ^ 256 * 4294967296 := Nat.mul_lt_mul_of_lt_of_le hm (Nat.le_of_lt hq32) (by decide)
  refine ⟨Nat.mod_lt _ (by decide), ?_, hg, hq32, ?_, ?_⟩
  · clear hg hq
    generalize m * q = mq at *
    unfold lt01
    split <;> omega
  · clear hg hq
    generalize m * q = mq at *
    unfold lt01
    split <;> omega
  · clear hg hq
    generalize m * q = mq at *
    unfold lt01
    split <;> omega
theorem dig_q_lt {N m : Nat} {o : Int} {q R : Nat} (h : DigInv N m o q R) : q < 4294967296 ∧ -8589934592 ≤ o ∧ o ≤ 8589934592 ∧ R < 2 ^ 256 := ⟨h.2.2.2.1, h.2.2.2.2.1, h.2.2.2.2.2, h.1⟩
/-- a word's low half is set where it was 0 -/
theorem low_set (r nx : Nat) (hn : nx < 4294967296) : (wds 4 (r * 2 ^ 32)).set 0 (dgt (2 ^ 64) (r * 2 ^ 32) 0 ||| nx) = wds 4 (r * 2 ^ 32 + nx) := by
  unfold wds
  rw [tell_set]
  have e : r * 2 ^ 32 + nx = r * 2 ^ 32 ||| nx := by
    have := Nat.two_pow_add_eq_or_of_lt (show nx < 2 ^ 32 from hn) r
    rw [Nat.mul_comm] at this; exact this
  refine tell_congr fun i hi => ?_
  rw [e]
  have ho : dgt (2 ^ 64) (r * 2 ^ 32 ||| nx) i = dgt (2 ^ 64) (r * 2 ^ 32) i ||| dgt (2 ^ 64) nx i := by
    apply Nat.eq_of_testBit_eq
    intro b
    simp only [dgt_bit, Nat.testBit_or]
    cases decide (b < 64) <;> simp
  rw [ho]
  by_cases h0 : i = 0
  · subst h0
    rw [if_pos rfl, show dgt (2 ^ 64) nx 0 = nx from by rw [dgt_zero]; omega]
  · rw [if_neg h0]
    have : dgt (2 ^ 64) nx i = 0 := dgt_high (n := 1) (by decide) (by rw [Nat.pow_one]; omega) (by omega)
    rw [this, Nat.or_zero]
end Go.Proofs.Ytfffmoolkgheaaa
