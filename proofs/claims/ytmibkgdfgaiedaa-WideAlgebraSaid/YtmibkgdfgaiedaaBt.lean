/- A bit of a number, by the project and by the document. No condition but the sizes of the arguments. -/
import Derived.Test.YtmibkgdfgaiedaaBl
namespace Go.Proofs.Ytmibkgdfgaiedaa
open Go.RowKit
set_option linter.unusedVariables false
set_option linter.unusedSimpArgs false
/-- the bit that stands for 2^n -/
def bitZ (x : Nat) (n : Int) : Nat := if 0 ≤ n ∧ n < 256 then x / 2 ^ n.toNat % 2 else 0
theorem bitZ_out (x : Nat) (n : Int) (h : n < 0 ∨ 256 ≤ n) : bitZ x n = 0 := by unfold bitZ; rw [if_neg (by omega)]
theorem bitZ_in (x k : Nat) (h : k < 256) : bitZ x (k : Int) = x / 2 ^ k % 2 := by unfold bitZ; rw [if_pos (by omega)]; simp
theorem bitZ_le (x : Nat) (n : Int) : bitZ x n ≤ 1 := by unfold bitZ; split <;> omega
/-- a number's bit is its word's -/
theorem bit_word (x j s : Nat) (hs : s < 64) : dgt (2 ^ 64) x j / 2 ^ s % 2 = x / 2 ^ (64 * j + s) % 2 := by
  have h1 : dgt 2 (x / 2 ^ (64 * j) % 2 ^ 64) s = dgt 2 (x / 2 ^ (64 * j)) s := by
    have := tell_mod 2 (x / 2 ^ (64 * j)) (s + 1) 64 (by omega)
    rw [tell_succ, tell_succ] at this
    have h := List.append_inj_right this (by rw [tell_length, tell_length])
    simpa using h
  unfold dgt at h1 ⊢
  rw [← Nat.pow_mul, h1, Nat.div_div_eq_div_mul, ← Nat.pow_add]
theorem bl_bit (x t : Nat) : bl (x % 2 ^ (t + 1)) = if x / 2 ^ t % 2 = 1 then t + 1 else bl (x % 2 ^ t) := by
  have e : x % 2 ^ (t + 1) = x % 2 ^ t + 2 ^ t * (x / 2 ^ t % 2) := by rw [Nat.pow_succ, Nat.mod_mul]
  have h2 : x / 2 ^ t % 2 = 0 ∨ x / 2 ^ t % 2 = 1 := by omega
  have hlt : x % 2 ^ t < 2 ^ t := Nat.mod_lt _ (Nat.two_pow_pos t)
  rcases h2 with h2 | h2
  · rw [e, h2, if_neg (by decide)]; simp
  · rw [e, h2, if_pos rfl, Nat.mul_one]
    have h3 : (x % 2 ^ t + 2 ^ t) / 2 ^ t = 1 := by
      rw [Nat.add_div_right _ (Nat.two_pow_pos t), Nat.div_eq_of_lt hlt]
    rw [bl_shift t _ (by rw [h3]; decide), h3]
    rfl
theorem and_one (y s : Nat) : bits .and .u64 ((y : Int) / 2 ^ s) 1 = ((y / 2 ^ s % 2 : Nat) : Int) := by
  have h := u64_ba (y / 2 ^ s) 1
  have e : ba 64 (y / 2 ^ s) 1 = y / 2 ^ s % 2 := by
    unfold ba
    rw [show 1 % 2 ^ 64 = 1 from rfl, Nat.and_one_is_mod, Nat.mod_mod_of_dvd _ (by decide)]
  rw [e] at h
  rw [← h]
  congr 1 <;> simp
set_option maxHeartbeats 400000 in
theorem Bit_any (x : Nat) (n : Int) (w : World) (h0 : -9223372036854775808 ≤ n) (h1 : n < 9223372036854775808) : Calls Try.prog 16 #[.agg (natsV .u64 (wds 4 x)).toArray, .int .i64 n] w fun e w' => e = .returned (.int .i64 (bitZ x n : Nat)) ∧ Below w.heap.size w w' := by
  have LA := Lib.hid (wds_len 4 x)
  have AA := Lib.hid (wds_at 4 x)
  generalize wds 4 x = la at *
  have B1 := Lib.hid (Blk.new w 25 (natsV .u64 la))
  have BEL := Lib.hid ((Below.refl w.heap.size w).alloc (Nat.le_refl _) (.cells (natsV .u64 la).toArray 25))
  have hbel := BEL.out
  by_cases hneg : n < 0
  · rw [bitZ_out x n (.inl hneg)]
    go_enter Try.func16, Try.ntmps16
    go_wp2_with fail
    go_ret
    exact ⟨rfl, hbel⟩
  · by_cases hbig : 256 ≤ n
    · rw [bitZ_out x n (.inr hbig)]
      go_enter Try.func16, Try.ntmps16
      go_wp2_with fail
      go_ret
      exact ⟨rfl, hbel⟩
    · obtain ⟨k, rfl⟩ := Int.eq_ofNat_of_zero_le (show 0 ≤ n by omega)
      have hk : k < 256 := by omega
      have HV := Lib.hid (bitZ_in x k hk)
      obtain ⟨j, hj⟩ : ∃ j, j = k / 64 := ⟨_, rfl⟩
      obtain ⟨s, hs⟩ : ∃ s, s = k % 64 := ⟨_, rfl⟩
      have HW := Lib.hid (bit_word x j s (by omega))
      rw [show 64 * j + s = k by omega, ← HV.out] at HW
      have hj4 : j < 4 := by omega
      have hs64 : s < 64 := by omega
      have c0 := B1.out.nat j (by rw [LA.out]; omega)
      rw [AA.out j hj4] at c0
      have HY := dgt_lt (B := 2 ^ 64) (by decide) x j
      generalize dgt (2 ^ 64) x j = y at *
      have hbl := bitZ_le x k
      obtain ⟨bz, hbz⟩ : ∃ bz, bz = bitZ x (k : Int) := ⟨_, rfl⟩
      rw [← hbz] at HW hbl ⊢
      have e1 : (k : Int) / 64 = (j : Int) := by omega
      have e2 : (k : Int) % 64 = (s : Int) := by omega
      have hji : (j : Int) < 4 := by omega
      have HJ := Lib.hid hj
      have HSS := Lib.hid hs
      clear hj hs
      have r2 := u64_ba
      clear HV hbz
      go_enter Try.func16, Try.ntmps16
      go_wp2_with fail
      go_ret
      exact ⟨ret1 (by rw [and_one, HW.out, IntWalk.wrap64_in _ (by omega)]), hbel⟩
set_option maxHeartbeats 400000 in
theorem refBit_any (x : Nat) (n : Int) (w : World) (h0 : -9223372036854775808 ≤ n) (h1 : n < 9223372036854775808) : Calls Try.prog 17 #[.agg (natsV .u64 (wds 4 x)).toArray, .int .i64 n] w fun e w' => e = .returned (.int .i64 (bitZ x n : Nat)) ∧ Below w.heap.size w w' := by
  have LA := Lib.hid (wds_len 4 x)
  have AA := Lib.hid (wds_at 4 x)
  generalize wds 4 x = la at *
  have B1 := Lib.hid (Blk.new w 25 (natsV .u64 la))
  have BEL := Lib.hid ((Below.refl w.heap.size w).alloc (Nat.le_refl _) (.cells (natsV .u64 la).toArray 25))
  have hbel := BEL.out
  by_cases hneg : n < 0
  · rw [bitZ_out x n (.inl hneg)]
    go_enter Try.func17, Try.ntmps17
    go_wp2_with fail
    go_ret
    exact ⟨rfl, hbel⟩
  · by_cases hbig : 256 ≤ n
    · rw [bitZ_out x n (.inr hbig)]
      have hbig2 : 255 < n := by omega
      go_enter Try.func17, Try.ntmps17
      go_wp2_with fail
      go_ret
      exact ⟨rfl, hbel⟩
    · obtain ⟨k, rfl⟩ := Int.eq_ofNat_of_zero_le (show 0 ≤ n by omega)
      have hk : k < 256 := by omega
      have hk2 : ¬ (255 < (k : Int)) := by omega
      have HV := Lib.hid (bitZ_in x k hk)
      obtain ⟨j, hj⟩ : ∃ j, j = k / 64 := ⟨_, rfl⟩
      obtain ⟨s, hs⟩ : ∃ s, s = k % 64 := ⟨_, rfl⟩
      have HW := Lib.hid (bit_word x j s (by omega))
      rw [show 64 * j + s = k by omega, ← HV.out] at HW
      have hj4 : j < 4 := by omega
      have hs64 : s < 64 := by omega
      have c0 := B1.out.nat j (by rw [LA.out]; omega)
      rw [AA.out j hj4] at c0
      have HY := dgt_lt (B := 2 ^ 64) (by decide) x j
      generalize dgt (2 ^ 64) x j = y at *
      have hbl := bitZ_le x k
      obtain ⟨bz, hbz⟩ : ∃ bz, bz = bitZ x (k : Int) := ⟨_, rfl⟩
      rw [← hbz] at HW hbl ⊢
      have e1 : (k : Int) / 64 = (j : Int) := by omega
      have e2 : (k : Int) % 64 = (s : Int) := by omega
      have hji : (j : Int) < 4 := by omega
      clear HV hbz hj hs
      go_enter Try.func17, Try.ntmps17
      go_wp2_with fail
      clear c0 e1
      go_loop [5, 6] (fun v i => ∃ t : Nat, t ≤ s ∧ i = .int .i64 t ∧ v = .int .u64 (y / 2 ^ t : Nat)) (fun _ i => s - (intOf i).toNat)
      case atStart => exact ⟨0, by omega, rfl, by simp⟩
      case round =>
        obtain ⟨t, ht, rfl, rfl⟩ := hrel
        have HN := Lib.hid (show y / 2 ^ t / 2 = y / 2 ^ (t + 1) by rw [Nat.pow_succ, Nat.div_div_eq_div_mul])
        have HZ : y / 2 ^ t < 18446744073709551616 := Nat.lt_of_le_of_lt (Nat.div_le_self _ _) HY
        obtain ⟨z, hz⟩ : ∃ z, z = y / 2 ^ t := ⟨_, rfl⟩
        rw [← hz] at HN HZ ⊢
        have HZD := Lib.hid hz
        clear hz
        by_cases hts : t < s
        · have hti : (t : Int) < (s : Int) := by omega
          go_wp2_with fail
          go_round
          case rel => exact ⟨t + 1, by omega, by go_num, by rw [← HN.out]; go_num⟩
          case measure => simp [intOf] <;> omega
        · obtain rfl : t = s := by omega
          go_wp2_with fail
          go_ret
          exact ⟨ret1 (by have := HW.out; rw [← HZD.out] at this; omega), hbel⟩
set_option maxHeartbeats 400000 in
theorem refBits_any (x : Nat) (w : World) (hx : x < 2 ^ 256) : Calls Try.prog 19 #[.agg (natsV .u64 (wds 4 x)).toArray] w fun e w' => e = .returned (.int .i64 (bl x : Nat)) ∧ Below w.heap.size w w' := by
  have HB := Lib.hid (fun (w : World) (t : Nat) (ht : t < 256) => refBit_any x (t : Int) w (by omega) (by omega))
  have HBI := Lib.hid (fun t (ht : t < 256) => bitZ_in x t ht)
  have H256 := Lib.hid (show bl (x % 2 ^ 256) = bl x by rw [Nat.mod_eq_of_lt hx])
  have LA := Lib.hid (wds_len 4 x)
  have AA := Lib.hid (wds_at 4 x)
  generalize wds 4 x = la at *
  have B1 := Lib.hid (Blk.new w 25 (natsV .u64 la))
  have BEL := Lib.hid ((Below.refl w.heap.size w).alloc (Nat.le_refl _) (.cells (natsV .u64 la).toArray 25))
  have hbel := BEL.out
  go_enter Try.func19, Try.ntmps19
  go_wp2_with fail
  go_loopw [3, 4] (fun v i wr => ∃ t : Nat, t ≤ 256 ∧ i = .int .i64 t ∧ v = .int .i64 (bl (x % 2 ^ t) : Nat) ∧ Blk wr w.heap.size 25 (natsV .u64 la) ∧ Below w.heap.size w wr) (fun _ i _ => 256 - (intOf i).toNat)
  case atStart => exact ⟨0, by omega, rfl, by simp [Nat.mod_one, bl], B1.out, hbel⟩
  case round =>
    clear hbel
    obtain ⟨t, ht, rfl, rfl, k1, hbel⟩ := hrel
    have K1 := Lib.hid k1
    clear k1
    by_cases h5 : t < 256
    · have hti : (t : Int) < 256 := by omega
      have HBT := Lib.hid (fun w => HB.out w t h5)
      have HBV := Lib.hid (HBI.out t h5)
      have hbl := bitZ_le x t
      have HS := Lib.hid (bl_bit x t)
      rw [← HBV.out] at HS
      generalize bitZ x (t : Int) = bz at *
      generalize bl (x % 2 ^ t) = b0 at *
      by_cases hb1 : bz = 1
      · subst hb1
        rw [if_pos rfl] at HS
        go_wp2_with (refine ld25 rfl (.tmp 1) rfl w.heap.size rfl la K1.out LA.out ?_)
        refine (HBT.out _).mono ?_
        rintro e w1 ⟨rfl, hb1⟩
        have K2 := Lib.hid (K1.out.below' hb1)
        have hbel2 := hbel.trans (hb1.mono hbel.size)
        clear K1 hb1 hbel
        go_wp2_with fail
        go_roundw
        case rel => exact ⟨t + 1, by omega, by go_num, by rw [HS.out]; go_num, K2.out, hbel2⟩
        case measure => simp [intOf] <;> omega
      · obtain rfl : bz = 0 := by omega
        rw [if_neg (by decide)] at HS
        go_wp2_with (refine ld25 rfl (.tmp 1) rfl w.heap.size rfl la K1.out LA.out ?_)
        refine (HBT.out _).mono ?_
        rintro e w1 ⟨rfl, hb1⟩
        have K2 := Lib.hid (K1.out.below' hb1)
        have hbel2 := hbel.trans (hb1.mono hbel.size)
        clear K1 hb1 hbel
        go_wp2_with fail
        go_roundw
        case rel => exact ⟨t + 1, by omega, by go_num, by rw [HS.out], K2.out, hbel2⟩
        case measure => simp [intOf] <;> omega
    · obtain rfl : t = 256 := by omega
      rw [show ((256 : Nat) : Int) = 256 from rfl]
      rw [H256.out]
      go_wp2_with fail
      go_ret
      exact ⟨rfl, hbel⟩
end Go.Proofs.Ytmibkgdfgaiedaa
