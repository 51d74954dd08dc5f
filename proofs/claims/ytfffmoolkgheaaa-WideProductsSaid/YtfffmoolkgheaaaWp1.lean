/- Plain arithmetic of the document's product: sums of places, then carries. No condition. -/
import Derived.Test.YtfffmoolkgheaaaMu
import Derived.Test.YtfffmoolkgheaaaDg
namespace Go.Proofs.Ytfffmoolkgheaaa
set_option linter.unusedVariables false
/-- the product of the places that step t adds -/
def prT (a b t : Nat) : Nat := dgt (2 ^ 16) a (t / 16) * dgt (2 ^ 16) b (t % 16)
/-- the sums of places behind t steps -/
def acc (a b : Nat) : Nat → Nat → Nat
  | 0, _ => 0
  | t + 1, j => if j = t / 16 + t % 16 then acc a b t j + prT a b t else acc a b t j
theorem prT_lt (a b t : Nat) : prT a b t < 4294967296 := by
  unfold prT
  have h1 := dgt_lt (B := 2 ^ 16) (by decide) a (t / 16)
  have h2 := dgt_lt (B := 2 ^ 16) (by decide) b (t % 16)
  calc dgt (2 ^ 16) a (t / 16) * dgt (2 ^ 16) b (t % 16) ≤ (2 ^ 16 - 1) * (2 ^ 16 - 1) := Nat.mul_le_mul (by omega) (by omega)
    _ < 4294967296 := by decide
theorem acc_succ (a b t j : Nat) : acc a b (t + 1) j = if j = t / 16 + t % 16 then acc a b t j + prT a b t else acc a b t j := rfl
theorem acc_le (a b : Nat) (t : Nat) : ∀ j, acc a b t j ≤ t * 4294967296 := by
  induction t with
  | zero =>
    intro j
    have h : acc a b 0 j = 0 := rfl
    rw [h]; exact Nat.zero_le _
  | succ t ih =>
    intro j
    have hp := prT_lt a b t
    have ih := ih j
    rw [acc_succ, Nat.add_mul, Nat.one_mul]
    split
    · exact Nat.add_le_add ih (Nat.le_of_lt hp)
    · exact Nat.le_trans ih (Nat.le_add_right _ _)
theorem acc_step (a b t : Nat) (ht : t < 256) : (tell (acc a b t) 32).set (t / 16 + t % 16) (acc a b t (t / 16 + t % 16) + prT a b t) = tell (acc a b (t + 1)) 32 := by
  apply List.ext_getElem
  · simp [tell_length]
  · intro i h1 h2
    rw [List.getElem_set]
    simp only [tell, List.getElem_map, List.getElem_range]
    rw [acc_succ]
    by_cases h : t / 16 + t % 16 = i
    · rw [if_pos h, if_pos h.symm, h]
    · rw [if_neg h, if_neg (fun k => h k.symm)]
theorem acc_zero (a b : Nat) : tell (acc a b 0) 32 = zeros 32 := by
  apply List.ext_getElem
  · simp [tell_length, zeros]
  · intro i h1 h2; simp only [tell, List.getElem_map, List.getElem_range, zeros, List.getElem_replicate]; rfl
def Vt (a b t : Nat) : Nat := val (2 ^ 16) (tell (acc a b t) 32)
theorem Vt_step (a b t : Nat) (ht : t < 256) : Vt a b (t + 1) = Vt a b t + (2 ^ 16) ^ (t / 16 + t % 16) * prT a b t := by
  unfold Vt
  rw [← acc_step a b t ht]
  have h := val_set (2 ^ 16) (tell (acc a b t) 32) (t / 16 + t % 16) (acc a b t (t / 16 + t % 16) + prT a b t) (by rw [tell_length]; omega)
  rw [tell_getD _ _ _ (by omega), Nat.mul_add] at h
  omega
theorem rowStep {B A c x y k i : Nat} : A + c * x * B ^ i + B ^ (i + k) * (c * y) = A + c * (x + B ^ k * y) * B ^ i := by
  rw [Nat.pow_add, Nat.mul_add, Nat.add_mul]
  have : B ^ i * B ^ k * (c * y) = c * (B ^ k * y) * B ^ i := by ac_rfl
  omega
theorem Vt_is (a b : Nat) (hb : b < 2 ^ 256) : ∀ t, t ≤ 256 → Vt a b t = (a % (2 ^ 16) ^ (t / 16)) * b + dgt (2 ^ 16) a (t / 16) * (b % (2 ^ 16) ^ (t % 16)) * (2 ^ 16) ^ (t / 16)
  | 0, _ => by
    unfold Vt
    rw [acc_zero, val_zeros]; simp [Nat.mod_one]
  | t + 1, ht => by
    rw [Vt_step a b t (by omega), Vt_is a b hb t (by omega)]
    have e : (2 ^ 16) ^ 16 = 2 ^ 256 := by decide
    have hbm : b % (2 ^ 16) ^ 16 = b := by rw [e]; exact Nat.mod_eq_of_lt hb
    unfold prT
    rw [rowStep, ← mod_pow_succ]
    by_cases h : t % 16 = 15
    · rw [show (t + 1) / 16 = t / 16 + 1 by omega, show (t + 1) % 16 = 0 by omega, h, hbm, Nat.pow_zero, Nat.mod_one, Nat.mul_zero, Nat.zero_mul, Nat.add_zero, mod_pow_succ, Nat.add_mul]
      congr 1
      ac_rfl
    · rw [show (t + 1) / 16 = t / 16 by omega, show (t + 1) % 16 = t % 16 + 1 by omega]
theorem Vt_all (a b : Nat) (ha : a < 2 ^ 256) (hb : b < 2 ^ 256) : Vt a b 256 = a * b := by
  rw [Vt_is a b hb 256 (Nat.le_refl _)]
  have e : (2 ^ 16) ^ (256 / 16) = 2 ^ 256 := by decide
  rw [e, Nat.mod_eq_of_lt ha, show 256 % 16 = 0 from rfl, Nat.pow_zero, Nat.mod_one, Nat.mul_zero, Nat.zero_mul, Nat.add_zero]
/-! carries -/
def cyS (S : Nat → Nat) : Nat → Nat
  | 0 => 0
  | i + 1 => (S i + cyS S i) / 2 ^ 16
theorem cyS_lt (S : Nat → Nat) (hS : ∀ j, S j ≤ 1099511627776) (i : Nat) : cyS S i ≤ 1099511627776 := by
  induction i with
  | zero =>
    have h : cyS S 0 = 0 := rfl
    rw [h]; exact Nat.zero_le _
  | succ i h2 =>
    have h1 := hS i
    show (S i + cyS S i) / 65536 ≤ 1099511627776
    exact Nat.div_le_of_le_mul (by omega)
theorem tell_drop (S : Nat → Nat) (n i : Nat) (h : i < n) : (tell S n).drop i = S i :: (tell S n).drop (i + 1) := by
  rw [List.drop_eq_getElem_cons (by rw [tell_length]; exact h)]
  simp [tell]
theorem carry_is (S : Nat → Nat) (X : Nat) (hX : val (2 ^ 16) (tell S 32) = X) : ∀ i, i ≤ 32 → X / (2 ^ 16) ^ i = cyS S i + val (2 ^ 16) ((tell S 32).drop i)
  | 0, _ => by rw [Nat.pow_zero, Nat.div_one, List.drop_zero, hX]; exact (Nat.zero_add _).symm
  | i + 1, h => by
    have ih := carry_is S X hX i (by omega)
    rw [tell_drop S 32 i (by omega)] at ih
    rw [Nat.pow_succ, ← Nat.div_div_eq_div_mul, ih]
    show (cyS S i + (S i + 2 ^ 16 * val (2 ^ 16) ((tell S 32).drop (i + 1)))) / 2 ^ 16 = (S i + cyS S i) / 2 ^ 16 + _
    rw [← Nat.add_assoc, Nat.add_comm (cyS S i), Nat.add_mul_div_left _ _ (by decide)]
theorem carry_dgt (S : Nat → Nat) (X : Nat) (hX : val (2 ^ 16) (tell S 32) = X) (i : Nat) (h : i < 32) : (S i + cyS S i) % 2 ^ 16 = dgt (2 ^ 16) X i := by
  unfold dgt
  rw [carry_is S X hX i (by omega), tell_drop S 32 i h]
  show _ = (cyS S i + (S i + 2 ^ 16 * val (2 ^ 16) ((tell S 32).drop (i + 1)))) % 2 ^ 16
  rw [← Nat.add_assoc, Nat.add_comm (cyS S i), Nat.add_mul_mod_self_left]
end Go.Proofs.Ytfffmoolkgheaaa
