/- A quotient word by word, in plain arithmetic. No condition. -/
import Derived.Test.YtfffmoolkgheaaaDm
import Derived.Test.YtfffmoolkgheaaaBl
namespace Go.Proofs.Ytfffmoolkgheaaa
open Go.RowKit
set_option linter.unusedVariables false
set_option linter.unusedSimpArgs false
theorem norm_m (m : Nat) (h0 : m ≠ 0) (hm : m < 2 ^ 256) : 256 - bl m < 256 ∧ bl m ≤ 256 ∧ 2 ^ 255 ≤ m * 2 ^ (256 - bl m) ∧ m * 2 ^ (256 - bl m) < 2 ^ 256 := by
  have h1 := (bl_le_iff 256 m).2 hm
  have h2 : 1 ≤ bl m := by rw [bl_half m h0]; omega
  have h3 : m < 2 ^ bl m := (bl_le_iff (bl m) m).1 (Nat.le_refl _)
  have h4 : 2 ^ (bl m - 1) ≤ m := by
    rcases Nat.lt_or_ge m (2 ^ (bl m - 1)) with h | h
    · have := (bl_le_iff (bl m - 1) m).2 h; omega
    · exact h
  refine ⟨by omega, h1, ?_, ?_⟩
  · have h5 := Nat.mul_le_mul_right (2 ^ (256 - bl m)) h4
    rw [← Nat.pow_add, show bl m - 1 + (256 - bl m) = 255 by omega] at h5
    exact h5
  · have h5 := Nat.mul_lt_mul_of_pos_right h3 (Nat.two_pow_pos (256 - bl m))
    rw [← Nat.pow_add, show bl m + (256 - bl m) = 256 by omega] at h5
    exact h5
/-- what is left where the words from s on have been gone through -/
def remW (W X M s : Nat) : Nat := X / W ^ s % M
theorem step_gen (h W X M i r q1 r1 q0 : Nat) (hM : 0 < M) (hh : 0 < h) (hW : W = h * h) (hr : r = remW W X M (i + 1))
    (h1 : q1 = (r * h + dgt W X i / h) / M) (h2 : r1 = (r * h + dgt W X i / h) % M) (h3 : q0 = (r1 * h + dgt W X i % h) / M) :
    (r1 * h + dgt W X i % h) % M = remW W X M i ∧ q1 < h ∧ q0 < h ∧ q1 * h + q0 = dgt W (X / M) i := by
  have hrM : r < M := by rw [hr]; exact Nat.mod_lt _ hM
  have hr1M : r1 < M := by rw [h2]; exact Nat.mod_lt _ hM
  have hWp : 0 < W := by rw [hW]; exact Nat.mul_pos hh hh
  have hx := dgt_lt hWp X i
  generalize hxi : dgt W X i = x at *
  have hxh : x / h < h := by rw [Nat.div_lt_iff_lt_mul hh, ← hW]; exact hx
  have hxl : x % h < h := Nat.mod_lt _ hh
  have hq1 : q1 < h := by
    rw [h1, Nat.div_lt_iff_lt_mul hM]
    have := Nat.mul_le_mul_right h (show r + 1 ≤ M from hrM)
    rw [Nat.add_mul, Nat.one_mul, Nat.mul_comm M] at this
    omega
  have hq0 : q0 < h := by
    rw [h3, Nat.div_lt_iff_lt_mul hM]
    have := Nat.mul_le_mul_right h (show r1 + 1 ≤ M from hr1M)
    rw [Nat.add_mul, Nat.one_mul, Nat.mul_comm M] at this
    omega
  have e0 : X / W ^ i = X / W ^ (i + 1) * W + x := by
    have g1 := Nat.mod_add_div (X / W ^ i) W
    have g2 : X / W ^ i / W = X / W ^ (i + 1) := by rw [Nat.div_div_eq_div_mul, Nat.pow_succ]
    rw [g2] at g1
    rw [← hxi, Nat.mul_comm (X / W ^ (i + 1))]
    exact g1.symm.trans (Nat.add_comm _ _)
  have e1 := Nat.mod_add_div (X / W ^ (i + 1)) M
  have e2 := Nat.mod_add_div (r * h + x / h) M
  have e3 := Nat.mod_add_div (r1 * h + x % h) M
  have e4 := Nat.mod_add_div x h
  have hr0 := Nat.mod_lt (r1 * h + x % h) hM
  have hrr : X / W ^ (i + 1) % M = r := hr.symm
  rw [hrr] at e1
  rw [← h1, ← h2] at e2
  rw [← h3] at e3
  generalize (r1 * h + x % h) % M = r0 at *
  generalize hK : X / W ^ (i + 1) / M = K at *
  have key : X / W ^ i = r0 + M * (K * W + (q1 * h + q0)) := by
    rw [e0, ← e1, hW]
    have a1 : (r + M * K) * (h * h) + x = (r * h + x / h) * h + x % h + M * K * (h * h) := by
      rw [Nat.add_mul, Nat.add_mul]
      have : r * (h * h) = r * h * h := by rw [Nat.mul_assoc]
      rw [this]
      have : x / h * h = h * (x / h) := Nat.mul_comm _ _
      omega
    rw [a1, ← e2, Nat.add_mul r1]
    have a2 : r1 * h + M * q1 * h + x % h = (r1 * h + x % h) + M * q1 * h := by omega
    rw [a2, ← e3, Nat.mul_add, Nat.mul_add]
    have a3 : M * K * (h * h) = M * (K * (h * h)) := Nat.mul_assoc _ _ _
    have a4 : M * q1 * h = M * (q1 * h) := Nat.mul_assoc _ _ _
    omega
  have hmod : X / W ^ i % M = r0 := by rw [key, Nat.add_mul_mod_self_left, Nat.mod_eq_of_lt hr0]
  have hdiv : X / W ^ i / M = K * W + (q1 * h + q0) := by rw [key, Nat.add_mul_div_left _ _ hM, Nat.div_eq_of_lt hr0, Nat.zero_add]
  refine ⟨hmod.symm, hq1, hq0, ?_⟩
  have hlt : q1 * h + q0 < W := by
    have := Nat.mul_le_mul_right h (show q1 + 1 ≤ h from hq1)
    rw [Nat.add_mul, Nat.one_mul, ← hW] at this
    omega
  have hc : X / M / W ^ i = X / W ^ i / M := by rw [Nat.div_div_eq_div_mul, Nat.div_div_eq_div_mul, Nat.mul_comm]
  unfold dgt
  rw [hc, hdiv, Nat.add_comm (K * W), Nat.add_mul_mod_self_right, Nat.mod_eq_of_lt hlt]
/-- the quotient's words from s on, the others 0 -/
def quoW (Q s : Nat) : List Nat := tell (fun j => if s ≤ j then dgt (2 ^ 64) Q j else 0) 8
theorem quoW_len (Q s : Nat) : (quoW Q s).length = 8 := tell_length _ _
theorem quoW_top (Q : Nat) : quoW Q 8 = zeros 8 := by
  have : quoW Q 8 = tell (fun _ => 0) 8 := tell_congr fun i hi => if_neg (by omega)
  rw [this]; rfl
theorem quoW_all (Q : Nat) : quoW Q 0 = wds 8 Q := tell_congr fun i hi => if_pos (by omega)
theorem quoW_set (Q i : Nat) (hi : i < 8) : (quoW Q (i + 1)).set i (dgt (2 ^ 64) Q i) = quoW Q i := by
  unfold quoW
  rw [tell_set]
  refine tell_congr fun j hj => ?_
  by_cases h : j = i
  · rw [if_pos h, if_pos (by omega), h]
  · rw [if_neg h]
    by_cases h2 : i + 1 ≤ j
    · rw [if_pos h2, if_pos (by omega)]
    · rw [if_neg h2, if_neg (by omega)]
theorem rem_top (X n M : Nat) (hX : X < 2 ^ 256 * 2 ^ 256) (hM : 2 ^ n ≤ M) : X * 2 ^ n / 2 ^ 256 / 2 ^ 256 = remW (2 ^ 64) (X * 2 ^ n) M 8 := by
  unfold remW
  have e : (2 ^ 64) ^ 8 = 2 ^ 256 * 2 ^ 256 := by rw [show (8 : Nat) = 4 + 4 from rfl, Nat.pow_add, pow256]
  rw [e, ← Nat.div_div_eq_div_mul, Nat.mod_eq_of_lt]
  refine Nat.lt_of_lt_of_le ?_ hM
  rw [Nat.div_div_eq_div_mul, Nat.div_lt_iff_lt_mul (Nat.mul_pos (Nat.two_pow_pos 256) (Nat.two_pow_pos 256)), Nat.mul_comm (2 ^ n)]
  exact Nat.mul_lt_mul_of_pos_right hX (Nat.two_pow_pos n)
theorem rem_end (X m n : Nat) : remW (2 ^ 64) (X * 2 ^ n) (m * 2 ^ n) 0 = X % m * 2 ^ n := by
  unfold remW; rw [Nat.pow_zero, Nat.div_one, Nat.mul_mod_mul_right]
theorem quo_end (X m n : Nat) : X * 2 ^ n / (m * 2 ^ n) = X / m := Nat.mul_div_mul_right _ _ (Nat.two_pow_pos n)
theorem pow_le_norm (m n : Nat) (h : m ≠ 0) : 2 ^ n ≤ m * 2 ^ n := Nat.le_mul_of_pos_left _ (by omega)
end Go.Proofs.Ytfffmoolkgheaaa
