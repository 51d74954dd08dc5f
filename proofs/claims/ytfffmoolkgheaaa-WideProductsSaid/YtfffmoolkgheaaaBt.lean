/- A bit of a number, by the project and by the document. No condition but the sizes of the arguments. -/
import Derived.Test.YtfffmoolkgheaaaBl
namespace Go.Proofs.Ytfffmoolkgheaaa
open Go.RowKit
set_option linter.unusedVariables false
set_option linter.unusedSimpArgs false
/-- the bit that stands for 2^n -/
def bitZ (x : Nat) (n : Int) : Nat := if 0 ≤ n ∧ n < 256 then x / 2 ^ n.toNat % 2 else 0
theorem bitZ_out (x : Nat) (n : Int) (h : n < 0 ∨ 256 ≤ n) : bitZ x n = 0 := by unfold bitZ; rw [if_neg (by omega)]
theorem bitZ_in (x k : Nat) (h : k < 256) : bitZ x (k : Int) = x / 2 ^ k % 2 := by unfold bitZ; rw [if_pos (by omega)]; simp
theorem bitZ_le (x : Nat) (n : Int) : bitZ x n ≤ 1 := by unfold bitZ; split <;> omega
/-- a number's bit is its word's -/
theorem bit_word (x j s : Nat) (hs : s < 64) : dgt (2 ^ 64) x j / 2 ^ s % 2 = x / 2 ^ (64 * j + s) % 2 := by
  have h1 : dgt 2 (x / 2 ^ (64 * j) % 2 ^ 64) s = dgt 2 (x / 2 ^ (64 * j)) s := by
    have := tell_mod 2 (x / 2 ^ (64 * j)) (s + 1) 64 (by omega)
    rw [tell_succ, tell_succ] at this
    have h := List.append_inj_right this (by rw [tell_length, tell_length])
    simpa using h
  unfold dgt at h1 ⊢
  rw [← Nat.pow_mul, h1, Nat.div_div_eq_div_mul, ← Nat.pow_add]
theorem bl_bit (x t : Nat) : bl (x % 2 ^ (t + 1)) = if x / 2 ^ t % 2 = 1 then t + 1 else bl (x % 2 ^ t) := by
  have e : x % 2 ^ (t + 1) = x % 2 ^ t + 2 ^ t * (x / 2 ^ t % 2) := by rw [Nat.pow_succ, Nat.mod_mul]
  have h2 : x / 2 ^ t % 2 = 0 ∨ x / 2 ^ t % 2 = 1 := by omega
  have hlt : x % 2 ^ t < 2 ^ t := Nat.mod_lt _ (Nat.two_pow_pos t)
  rcases h2 with h2 | h2
  · rw [e, h2, if_neg (by decide)]; simp
  · rw [e, h2, if_pos rfl, Nat.mul_one]
    have h3 : (x % 2 ^ t + 2 ^ t) / 2 ^ t = 1 := by
      rw [Nat.add_div_right _ (Nat.two_pow_pos t), Nat.div_eq_of_lt hlt]
    rw [bl_shift t _ (by rw [h3]; decide), h3]
    rfl
theorem and_one (y s : Nat) : bits .and .u64 ((y : Int) / 2 ^ s) 1 = ((y / 2 ^ s % 2 : Nat) : Int) := by
  have h := u64_ba (y / 2 ^ s) 1
  have e : ba 64 (y / 2 ^ s) 1 = y / 2 ^ s % 2 := by
    unfold ba
    rw [show 1 % 2 ^ 64 = 1 from rfl, Nat.and_one_is_mod, Nat.mod_mod_of_dvd _ (by decide)]
  rw [e] at h
  rw [← h]
  congr 1 <;> simp
set_option maxHeartbeats 400000 in
theorem Bit_any (x : Nat) (n : Int) (w : World) (h0 : -9223372036854775808 ≤ n) (h1 : n < 9223372036854775808) : Calls Try.prog 69 #[.agg (natsV .u64 (wds 4 x)).toArray, .int .i64 n] w fun e w' => e = .returned (.int .i64 (bitZ x n : Nat)) ∧ Below w.heap.size w w' := by
  have LA := Lib.hid (wds_len 4 x)
  have AA := Lib.hid (wds_at 4 x)
  generalize wds 4 x = la at *
  have B1 := Lib.hid (Blk.new w 24 (natsV .u64 la))
  have BEL := Lib.hid ((Below.refl w.heap.size w).alloc (Nat.le_refl _) (.cells (natsV .u64 la).toArray 24))
  have hbel := BEL.out
  by_cases hneg : n < 0
  · rw [bitZ_out x n (.inl hneg)]
    go_enter Try.func69, Try.ntmps69
    go_wp2_with fail
    go_ret
    exact ⟨rfl, hbel⟩
  · by_cases hbig : 256 ≤ n
    · rw [bitZ_out x n (.inr hbig)]
      go_enter Try.func69, Try.ntmps69
      go_wp2_with fail
      go_ret
      exact ⟨rfl, hbel⟩
    · obtain ⟨k, rfl⟩ := Int.eq_ofNat_of_zero_le (show 0 ≤ n by omega)
      have hk : k < 256 := by omega
      have HV := Lib.hid (bitZ_in x k hk)
      obtain ⟨j, hj⟩ : ∃ j, j = k / 64 := ⟨_, rfl⟩
      obtain ⟨s, hs⟩ : ∃ s, s = k % 64 := ⟨_, rfl⟩
      have HW := Lib.hid (bit_word x j s (by omega))
      rw [show 64 * j + s = k by omega, ← HV.out] at HW
      have hj4 : j < 4 := by omega
      have hs64 : s < 64 := by omega
      have c0 := B1.out.nat j (by rw [LA.out]; omega)
      rw [AA.out j hj4] at c0
      have HY := dgt_lt (B := 2 ^ 64) (by decide) x j
      generalize dgt (2 ^ 64) x j = y at *
      have hbl := bitZ_le x k
      obtain ⟨bz, hbz⟩ : ∃ bz, bz = bitZ x (k : Int) := ⟨_, rfl⟩
      rw [← hbz] at HW hbl ⊢
      have e1 : (k : Int) / 64 = (j : Int) := by omega
      have e2 : (k : Int) % 64 = (s : Int) := by omega
      have hji : (j : Int) < 4 := by omega
      have HJ := Lib.hid hj
      have HSS := Lib.hid hs
      clear hj hs
      have r2 := u64_ba
      clear HV hbz
      go_enter Try.func69, Try.ntmps69
      go_wp2_with fail
      go_ret
      exact ⟨ret1 (by rw [and_one, HW.out, IntWalk.wrap64_in _ (by omega)]), hbel⟩
end Go.Proofs.Ytfffmoolkgheaaa
