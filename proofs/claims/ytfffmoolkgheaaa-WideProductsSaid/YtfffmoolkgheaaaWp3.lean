/- Plain arithmetic of the document's quotient: bit by bit, from the highest on. No condition. -/
import Derived.Test.YtfffmoolkgheaaaTw
import Derived.Test.YtfffmoolkgheaaaDg
namespace Go.Proofs.Ytfffmoolkgheaaa
set_option linter.unusedVariables false
theorem half_div (X p : Nat) : X / 2 ^ p = 2 * (X / 2 ^ (p + 1)) + X / 2 ^ p % 2 := by
  rw [Nat.pow_succ, ← Nat.div_div_eq_div_mul]; omega
theorem div_swap (X m p : Nat) : X / m / 2 ^ p = X / 2 ^ p / m := by
  rw [Nat.div_div_eq_div_mul, Nat.div_div_eq_div_mul, Nat.mul_comm]
theorem rest_step (X m p : Nat) (hm : 0 < m) : X / 2 ^ p % m = twR (X / 2 ^ (p + 1) % m) (X / 2 ^ p % 2) m := by
  have h := half_div X p
  have hr := Nat.mod_lt (X / 2 ^ (p + 1)) hm
  have hd := Nat.div_add_mod (X / 2 ^ (p + 1)) m
  have hb : X / 2 ^ p % 2 < 2 := Nat.mod_lt _ (by decide)
  generalize X / 2 ^ p % 2 = bit at *
  generalize X / 2 ^ (p + 1) % m = r at *
  generalize X / 2 ^ (p + 1) / m = k at *
  generalize X / 2 ^ (p + 1) = Y at *
  rw [h, ← hd]
  have e : 2 * (m * k + r) + bit = (2 * r + bit) + m * (2 * k) := by rw [Nat.mul_add, Nat.mul_left_comm]; omega
  rw [e, Nat.add_mul_mod_self_left]
  rfl
theorem quo_step (X m p : Nat) (hm : 0 < m) : X / m / 2 ^ p = 2 * (X / m / 2 ^ (p + 1)) + (if m ≤ 2 * (X / 2 ^ (p + 1) % m) + X / 2 ^ p % 2 then 1 else 0) := by
  rw [div_swap, div_swap]
  have h := half_div X p
  have hr := Nat.mod_lt (X / 2 ^ (p + 1)) hm
  have hd := Nat.div_add_mod (X / 2 ^ (p + 1)) m
  have hb : X / 2 ^ p % 2 < 2 := Nat.mod_lt _ (by decide)
  generalize X / 2 ^ p % 2 = bit at *
  generalize X / 2 ^ (p + 1) % m = r at *
  generalize X / 2 ^ (p + 1) / m = k at *
  generalize X / 2 ^ (p + 1) = Y at *
  rw [h, ← hd]
  have e : 2 * (m * k + r) + bit = (2 * r + bit) + m * (2 * k) := by rw [Nat.mul_add, Nat.mul_left_comm]; omega
  rw [e, Nat.add_mul_div_left _ _ hm]
  split
  · rename_i h2
    rw [show (2 * r + bit) / m = 1 from Nat.div_eq_of_lt_le (by omega) (by omega)]; omega
  · rename_i h2
    rw [Nat.div_eq_of_lt (by omega)]; omega
/-- the quotient's words while the bits from p on are known -/
def qL (Q p j : Nat) : Nat := if p ≤ 64 * j then dgt (2 ^ 64) Q j else Q / 2 ^ p % 2 ^ (64 * (j + 1) - p)
theorem qL_at (Q w k : Nat) (hk : k ≤ 64) : qL Q (64 * w + k) w = Q / 2 ^ (64 * w + k) % 2 ^ (64 - k) := by
  unfold qL
  by_cases h : 64 * w + k ≤ 64 * w
  · obtain rfl : k = 0 := by omega
    rw [if_pos h]
    unfold dgt
    rw [← Nat.pow_mul]; rfl
  · rw [if_neg h, show 64 * (w + 1) - (64 * w + k) = 64 - k by omega]
theorem qL_step (Q w k c : Nat) (hk : k < 64) (hc : c < 2) (h : Q / 2 ^ (64 * w + k) = 2 * (Q / 2 ^ (64 * w + k + 1)) + c) : qL Q (64 * w + k) w = 2 * qL Q (64 * w + k + 1) w + c := by
  rw [qL_at Q w k (by omega), Nat.add_assoc, qL_at Q w (k + 1) (by omega), ← Nat.add_assoc, h]
  have e : 2 ^ (64 - k) = 2 * 2 ^ (64 - (k + 1)) := by rw [← Nat.pow_succ']; congr 1; omega
  rw [e]
  generalize 2 ^ (64 - (k + 1)) = M
  generalize Q / 2 ^ (64 * w + k + 1) = Y
  have h1 : (2 * Y + c) % (2 * M) = 2 * (Y % M) + c := by
    have h2 := Nat.div_add_mod Y M
    have e2 : 2 * Y + c = (2 * (Y % M) + c) + (2 * M) * (Y / M) := by
      have : (2 * M) * (Y / M) = 2 * (M * (Y / M)) := Nat.mul_assoc _ _ _
      omega
    rw [e2, Nat.add_mul_mod_self_left]
    rcases Nat.eq_zero_or_pos M with h0 | h0
    · subst h0; simp
    · have := Nat.mod_lt Y h0
      exact Nat.mod_eq_of_lt (by omega)
  exact h1
theorem qL_lt (Q w k : Nat) (hk : k < 64) : qL Q (64 * w + k + 1) w < 9223372036854775808 := by
  rw [Nat.add_assoc, qL_at Q w (k + 1) (by omega)]
  have h1 : 2 ^ (64 - (k + 1)) ≤ 2 ^ 63 := Nat.pow_le_pow_right (by decide) (by omega)
  have h2 := Nat.mod_lt (Q / 2 ^ (64 * w + (k + 1))) (Nat.two_pow_pos (64 - (k + 1)))
  have h3 : (2 : Nat) ^ 63 = 9223372036854775808 := by decide
  rw [h3] at h1
  exact Nat.lt_of_lt_of_le h2 h1
theorem qL_other (Q w k j : Nat) (hk : k < 64) (hj : j ≠ w) : qL Q (64 * w + k + 1) j = qL Q (64 * w + k) j := by
  unfold qL
  rcases Nat.lt_or_ge w j with h | h
  · rw [if_pos (by omega), if_pos (by omega)]
  · rw [if_neg (by omega), if_neg (by omega), show 64 * (j + 1) - (64 * w + k + 1) = 0 by omega, show 64 * (j + 1) - (64 * w + k) = 0 by omega, Nat.pow_zero, Nat.mod_one, Nat.mod_one]
theorem qL_set (Q w k : Nat) (hk : k < 64) (hw : w < 8) : (tell (qL Q (64 * w + k + 1)) 8).set w (qL Q (64 * w + k) w) = tell (qL Q (64 * w + k)) 8 := by
  apply List.ext_getElem
  · simp [tell_length]
  · intro i h1 h2
    rw [List.getElem_set]
    simp only [tell, List.getElem_map, List.getElem_range]
    by_cases h : w = i
    · rw [if_pos h, h]
    · rw [if_neg h]; exact qL_other Q w k i hk (fun e => h e.symm)
theorem qL_zero (Q : Nat) : tell (qL Q 512) 8 = zeros 8 := by
  apply List.ext_getElem
  · simp [tell_length, zeros]
  · intro i h1 h2
    have hi : i < 8 := by simpa [zeros] using h2
    simp only [tell, List.getElem_map, List.getElem_range, zeros, List.getElem_replicate]
    unfold qL
    rw [if_neg (by omega), show 64 * (i + 1) - 512 = 0 by omega, Nat.pow_zero, Nat.mod_one]
theorem qL_all (Q : Nat) : tell (qL Q 0) 8 = wds 8 Q := by
  unfold wds
  apply List.ext_getElem
  · simp [tell_length]
  · intro i h1 h2
    simp only [tell, List.getElem_map, List.getElem_range]
    unfold qL
    rw [if_pos (Nat.zero_le _)]
/-- a bit of a word's digit is a bit of the whole -/
theorem bit_of (X w i e : Nat) (he : e < 16) (hi : i < 4) : dgt (2 ^ 16) (dgt (2 ^ 64) X w) i / 2 ^ e % 2 = X / 2 ^ (64 * w + (16 * i + e)) % 2 := by
  rw [dgt_word X w i hi]
  unfold dgt
  rw [← Nat.pow_mul, show 16 * (4 * w + i) = 64 * w + 16 * i by omega]
  have h16 : (2 : Nat) ^ 16 = 2 ^ e * 2 ^ (16 - e) := by rw [← Nat.pow_add]; congr 1; omega
  have h2 : (2 : Nat) ^ (16 - e) = 2 * 2 ^ (16 - e - 1) := by rw [← Nat.pow_succ']; congr 1; omega
  have hX : X / 2 ^ (64 * w + (16 * i + e)) = X / 2 ^ (64 * w + 16 * i) / 2 ^ e := by
    rw [Nat.div_div_eq_div_mul, ← Nat.pow_add]; congr 2; omega
  rw [hX]
  generalize X / 2 ^ (64 * w + 16 * i) = Y
  rw [h16, Nat.mod_mul_right_div_self, h2, Nat.mod_mul_right_mod]
end Go.Proofs.Ytfffmoolkgheaaa
