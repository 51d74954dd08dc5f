/- Plain arithmetic of Montgomery's reduction, half by half. No condition. -/
import Derived.Test.YtfffmoolkgheaaaFb
import Derived.Test.YtfffmoolkgheaaaMu
namespace Go.Proofs.Ytfffmoolkgheaaa
open Go.RowKit
set_option linter.unusedVariables false
set_option linter.unusedSimpArgs false
theorem row_step (W m c i T j lij lo hi cy d P P' : Nat) (hP : P + W ^ (i + j) * cy = T + W ^ i * (c * (m % W ^ j)))
    (hset : P' + W ^ (i + j) * lij = P + W ^ (i + j) * lo) (hm : lo + W * hi = c * d + lij + cy) (hd : d = dgt W m j) :
    P' + W ^ (i + (j + 1)) * hi = T + W ^ i * (c * (m % W ^ (j + 1))) := by
  have e1 : W ^ (i + (j + 1)) * hi = W ^ (i + j) * (W * hi) := by rw [← Nat.add_assoc, Nat.pow_succ, Nat.mul_assoc]
  have e2 : W ^ i * (c * (m % W ^ (j + 1))) = W ^ i * (c * (m % W ^ j)) + W ^ (i + j) * (c * d) := by
    rw [mod_pow_succ, ← hd, Nat.mul_add, Nat.mul_add, Nat.pow_add]
    congr 1
    ac_rfl
  rw [e1, e2]
  have h3 : W ^ (i + j) * (lo + W * hi) = W ^ (i + j) * (c * d + lij + cy) := by rw [hm]
  rw [Nat.mul_add, Nat.mul_add, Nat.mul_add] at h3
  omega
/-- the halves, j places of row i done: T is what they were ahead of the row, c what m is taken times -/
def RowAt (m c i T j cy : Nat) (l : List Nat) : Prop :=
  l.length = 16 ∧ (∀ y ∈ l, y < 2 ^ 32) ∧ cy < 2 ^ 32 ∧ val (2 ^ 32) l + (2 ^ 32) ^ (i + j) * cy = T + (2 ^ 32) ^ i * (c * (m % (2 ^ 32) ^ j))
theorem fit32 (c d x y : Nat) (hc : c < 4294967296) (hd : d < 4294967296) (hx : x < 4294967296) (hy : y < 4294967296) : c * d + x + y < 18446744073709551616 ∧ c * d < 18446744073709551616 ∧ c * d + x < 18446744073709551616 := by
  have := Nat.mul_le_mul (show c ≤ 4294967295 by omega) (show d ≤ 4294967295 by omega)
  omega
theorem RowAt.next {m c i T j cy : Nat} {l : List Nat} (h : RowAt m c i T j cy l) (hi : i < 8) (hj : j < 8) (hc : c < 2 ^ 32) (s : Nat) (hs : s = c * dgt (2 ^ 32) m j + l.getD (i + j) 0 + cy) :
    s < 18446744073709551616 ∧ RowAt m c i T (j + 1) (s / 4294967296) (l.set (i + j) (s % 4294967296)) := by
  obtain ⟨h1, h2, h3, h4⟩ := h
  have hd := dgt_lt (B := 2 ^ 32) (by decide) m j
  have hp := getD_lt' h2 (by decide) (i + j)
  have hf := fit32 c _ _ cy hc hd hp h3
  refine ⟨by omega, by rw [List.length_set]; exact h1, set_lt h2 (Nat.mod_lt _ (by decide)), by omega, ?_⟩
  exact row_step (2 ^ 32) m c i T j (l.getD (i + j) 0) _ _ cy _ _ _ h4 (val_set (2 ^ 32) l (i + j) _ (by rw [h1]; omega)) (by rw [← hs]; exact Nat.mod_add_div s 4294967296) rfl
/-- the halves, i rows done -/
def RedAt (m X i over : Nat) (l : List Nat) : Prop :=
  l.length = 16 ∧ (∀ y ∈ l, y < 2 ^ 32) ∧ over ≤ 1 ∧ ∃ K, K < (2 ^ 32) ^ i ∧ val (2 ^ 32) l + (2 ^ 32) ^ (8 + i) * over = X + m * K ∧ (X + m * K) % (2 ^ 32) ^ i = 0
theorem RedAt.start (m X : Nat) (hX : X < (2 ^ 32) ^ 16) : RedAt m X 0 0 (tell (dgt (2 ^ 32) X) 16) := by
  refine ⟨tell_length _ _, tell_lt _ _ (fun i => dgt_lt (by decide) X i) 16, by omega, 0, by decide, ?_, by simp [Nat.mod_one]⟩
  rw [val_tell, Nat.mod_eq_of_lt hX]; simp
theorem RedAt.rowStart {m X i over : Nat} {l : List Nat} (h : RedAt m X i over l) (c : Nat) : RowAt m c i (val (2 ^ 32) l) 0 0 l :=
  ⟨h.1, h.2.1, by decide, by simp [Nat.mod_one]⟩
theorem dgt_add_high (W x y i k : Nat) (hW : 0 < W) (h : i < k) : dgt W (x + W ^ k * y) i = dgt W x i := by
  obtain ⟨d, rfl⟩ : ∃ d, k = i + (d + 1) := ⟨k - i - 1, by omega⟩
  unfold dgt
  rw [Nat.pow_add, Nat.mul_assoc, Nat.add_mul_div_left _ _ (Nat.pow_pos hW), Nat.pow_succ, Nat.mul_comm (W ^ d) W, Nat.mul_assoc, Nat.add_mul_mod_self_left]
theorem list_dgt {W : Nat} (hW : 0 < W) (l : List Nat) (h : ∀ y ∈ l, y < W) (i : Nat) (hi : i < l.length) : l.getD i 0 = dgt W (val W l) i := by
  have := tell_val hW l h
  rw [← tell_getD (dgt W (val W l)) l.length i hi, this]
theorem turn0 (W y l f m : Nat) (hl : y % W = l) (hf : (m * f + 1) % W = 0) : (y + l * f % W * m) % W = 0 := by
  rw [Nat.add_mod, mulmod_left, hl]
  have e : l * f * m = l * (m * f) := by ac_rfl
  rw [e]
  have : (l % W + l * (m * f) % W) % W = (l * (m * f + 1)) % W := by rw [← Nat.add_mod, Nat.mul_add, Nat.mul_one, Nat.add_comm]
  have hl2 : l = l % W := by rw [← hl, Nat.mod_mod]
  rw [← hl2] at this
  rw [this, Nat.mul_mod, hf, Nat.mul_zero, Nat.zero_mod]
theorem RowAt.row {m f v X i over cy : Nat} {l0 l : List Nat} (H : Fld m f v) (h0 : RedAt m X i over l0) (hi : i < 8)
    (h : RowAt m (l0.getD i 0 * f % 4294967296) i (val (2 ^ 32) l0) 8 cy l) (s : Nat) (hs : s = l.getD (i + 8) 0 + cy + over) :
    s < 8589934592 ∧ RedAt m X (i + 1) (s / 4294967296) (l.set (i + 8) (s % 4294967296)) := by
  obtain ⟨a1, a2, a3, K, a4, a5, a6⟩ := h0
  obtain ⟨b1, b2, b3, b4⟩ := h
  have hp := getD_lt' b2 (by decide) (i + 8)
  have hm8 : m % (2 ^ 32) ^ 8 = m := Nat.mod_eq_of_lt (by rw [← Nat.pow_mul]; exact H.lt)
  rw [hm8] at b4
  have hd0 : l0.getD i 0 = dgt (2 ^ 32) (val (2 ^ 32) l0) i := list_dgt (by decide) l0 a2 i (by rw [a1]; omega)
  obtain ⟨y, hy⟩ : (2 ^ 32) ^ i ∣ X + m * K := Nat.dvd_of_mod_eq_zero a6
  have hyd : y % 2 ^ 32 = l0.getD i 0 := by
    rw [hd0, ← dgt_add_high (2 ^ 32) _ over i (8 + i) (by decide) (by omega), a5, hy]
    unfold dgt
    rw [Nat.mul_div_cancel_left _ (Nat.pow_pos (by decide))]
  have ht := turn0 (2 ^ 32) y _ f m hyd H.neg
  have hc : l0.getD i 0 * f % 4294967296 < 4294967296 := Nat.mod_lt _ (by decide)
  rw [show (2 ^ 32 : Nat) = 4294967296 from rfl] at ht
  generalize l0.getD i 0 * f % 4294967296 = c at *
  have hset := val_set (2 ^ 32) l (i + 8) (s % 4294967296) (by rw [b1]; omega)
  have hmd := Nat.mod_add_div s 4294967296
  refine ⟨by omega, by rw [List.length_set]; exact b1, set_lt b2 (Nat.mod_lt _ (by decide)), by omega, K + c * (2 ^ 32) ^ i, ?_, ?_, ?_⟩
  · have ep : (2 ^ 32) ^ (i + 1) = (2 ^ 32) ^ i * 4294967296 := Nat.pow_succ _ _
    rw [ep]
    have := Nat.mul_le_mul_right ((2 ^ 32) ^ i) (show c ≤ 4294967295 by omega)
    generalize (2 ^ 32) ^ i = z at *
    omega
  · have e1 : (2 ^ 32) ^ (8 + (i + 1)) * (s / 4294967296) = (2 ^ 32) ^ (i + 8) * (4294967296 * (s / 4294967296)) := by
      rw [show 8 + (i + 1) = (i + 8) + 1 by omega, Nat.pow_succ, Nat.mul_assoc]
    have e2 : m * (K + c * (2 ^ 32) ^ i) = m * K + (2 ^ 32) ^ i * (c * m) := by
      rw [Nat.mul_add]; congr 1; ac_rfl
    rw [e1, e2]
    have h3 : (2 ^ 32) ^ (i + 8) * (s % 4294967296 + 4294967296 * (s / 4294967296)) = (2 ^ 32) ^ (i + 8) * (l.getD (i + 8) 0 + cy + over) := by rw [hmd, hs]
    rw [Nat.mul_add, Nat.mul_add, Nat.mul_add] at h3
    rw [Nat.add_comm 8 i] at a5
    omega
  · have e2 : X + m * (K + c * (2 ^ 32) ^ i) = (2 ^ 32) ^ i * (y + c * m) := by
      rw [Nat.mul_add, ← Nat.add_assoc, hy, Nat.mul_add]; congr 1; ac_rfl
    have ep : (2 ^ 32) ^ (i + 1) = (2 ^ 32) ^ i * 4294967296 := Nat.pow_succ _ _
    rw [e2, ep, Nat.mul_mod_mul_left, ht, Nat.mul_zero]
theorem RedAt.done {m f v X over : Nat} {l : List Nat} (H : Fld m f v) (h : RedAt m X 8 over l) (hX : X < m * 2 ^ 256) :
    ∃ U, U < 2 ^ 256 ∧ (∀ i, i < 8 → l.getD (8 + i) 0 = dgt (2 ^ 32) U i) ∧ U + 2 ^ 256 * over < 2 * m ∧ (U + 2 ^ 256 * over) % m = X * v % m := by
  obtain ⟨a1, a2, a3, K, a4, a5, a6⟩ := h
  have e8 : (2 ^ 32) ^ 8 = 2 ^ 256 := by rw [← Nat.pow_mul]
  have e16 : (2 ^ 32) ^ (8 + 8) = 2 ^ 256 * 2 ^ 256 := by rw [Nat.pow_add, e8]
  have hv : val (2 ^ 32) l < 2 ^ 256 * 2 ^ 256 := by
    have := val_lt l a2
    rw [a1] at this
    rw [← e16]; exact this
  rw [e8] at a4 a6
  rw [e16, Nat.mul_assoc] at a5
  have hS : (val (2 ^ 32) l / 2 ^ 256 + 2 ^ 256 * over) * 2 ^ 256 = X + m * K := by
    have hz : val (2 ^ 32) l % 2 ^ 256 = 0 := by
      rw [← a5, Nat.add_mul_mod_self_left] at a6; exact a6
    have := Nat.mod_add_div (val (2 ^ 32) l) (2 ^ 256)
    rw [Nat.add_mul, Nat.mul_comm _ (2 ^ 256), Nat.mul_comm (2 ^ 256 * over)]
    omega
  refine ⟨val (2 ^ 32) l / 2 ^ 256, by rw [Nat.div_lt_iff_lt_mul (Nat.two_pow_pos 256)]; exact hv, fun i hi => ?_, ?_, ?_⟩
  · rw [list_dgt (by decide) l a2 (8 + i) (by rw [a1]; omega)]
    unfold dgt
    rw [Nat.pow_add, e8, Nat.div_div_eq_div_mul]
  · have hK : m * K ≤ m * 2 ^ 256 := Nat.mul_le_mul_left m (Nat.le_of_lt a4)
    have : (val (2 ^ 32) l / 2 ^ 256 + 2 ^ 256 * over) * 2 ^ 256 < 2 * m * 2 ^ 256 := by rw [hS, Nat.mul_assoc, Nat.two_mul]; omega
    exact Nat.lt_of_mul_lt_mul_right this
  · generalize val (2 ^ 32) l / 2 ^ 256 + 2 ^ 256 * over = S at *
    have h1 : (X + m * K) * v % m = X * v % m := by rw [Nat.add_mul, Nat.mul_assoc, Nat.add_mul_mod_self_left]
    rw [← h1, ← hS, Nat.mul_assoc, Nat.mul_comm (2 ^ 256) v, ← mulmod_right, H.inv, Nat.mul_one]
end Go.Proofs.Ytfffmoolkgheaaa
