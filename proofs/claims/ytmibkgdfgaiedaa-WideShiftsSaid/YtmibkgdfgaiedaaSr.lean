/- The document's shifts. Condition: the sizes of the arguments. -/
import Derived.Test.YtmibkgdfgaiedaaSd
namespace Go.Proofs.Ytmibkgdfgaiedaa
open Go.RowKit
set_option linter.unusedVariables false
set_option linter.unusedSimpArgs false
theorem bit_nat (x i : Nat) : x / 2 ^ i % 2 = (x.testBit i).toNat := (Nat.toNat_testBit x i).symm
theorem shl_bits (x N i : Nat) (hi : i < 256) : (x * 2 ^ N) / 2 ^ i % 2 = bitZ x ((i : Int) - (min N 256 : Nat)) := by
  rw [bit_nat, Nat.testBit_mul_two_pow]
  by_cases h : N ≤ i
  · rw [show (i : Int) - (min N 256 : Nat) = ((i - N : Nat) : Int) by omega, bitZ_in x _ (by omega), bit_nat]
    simp [h]
  · rw [bitZ_out x _ (by omega)]
    simp [h]
theorem shr_bits (x N i : Nat) (hx : x < 2 ^ 256) (hi : i < 256) : (x / 2 ^ N) / 2 ^ i % 2 = bitZ x ((i : Int) - (-((min N 256 : Nat) : Int))) := by
  rw [Nat.div_div_eq_div_mul, ← Nat.pow_add]
  by_cases h : N + i < 256
  · rw [show (i : Int) - (-((min N 256 : Nat) : Int)) = ((N + i : Nat) : Int) by omega, bitZ_in x _ h]
  · rw [bitZ_out x _ (by omega), Nat.div_eq_of_lt (Nat.lt_of_lt_of_le hx (Nat.pow_le_pow_right (by decide) (by omega)))]
set_option maxRecDepth 100000 in
set_option maxHeartbeats 800000 in
theorem refShl_any (x : Nat) (n : Int) (w : World) (hx : x < 2 ^ 256) (h0 : -9223372036854775808 ≤ n) (h1 : n < 9223372036854775808) :
    Calls Try.prog 21 #[.agg (natsV .u64 (wds 4 x)).toArray, .int .i64 n] w fun e w' => e = .returned (.agg (natsV .u64 (wds 4 (x * 2 ^ n.toNat))).toArray) ∧ Below w.heap.size w w' := by
  have HC := Lib.hid (fun w => Shifted_any x (x * 2 ^ n.toNat) (((min n.toNat 256 : Nat) : Int)) w (by omega) (by omega) (fun i hi => shl_bits x n.toNat i hi))
  have LS := Lib.hid (wds_len 4 (x * 2 ^ n.toNat))
  have LA := Lib.hid (wds_len 4 x)
  generalize wds 4 (x * 2 ^ n.toNat) = ls at *
  generalize wds 4 x = la at *
  have B1 := Lib.hid ((Blk.new w 25 (natsV .u64 la)).alloc (.cells (natsV .u64 (zeros 4)).toArray 25))
  have B2 := Lib.hid (Blk.new2 w (.cells (natsV .u64 la).toArray 25) 25 (natsV .u64 (zeros 4)))
  have BEL := Lib.hid (((Below.refl w.heap.size w).alloc (Nat.le_refl _) (.cells (natsV .u64 la).toArray 25)).alloc (by simp) (.cells (natsV .u64 (zeros 4)).toArray 25))
  by_cases hneg : n < 0
  · rw [show ((min n.toNat 256 : Nat) : Int) = 0 by omega] at HC
    go_enter Try.func21, Try.ntmps21
    go_wp2_with (refine ld25 rfl (.tmp 2) rfl w.heap.size rfl la B1.out LA.out ?_)
    refine (HC.out _).mono ?_
    rintro e w1 ⟨rfl, hb1⟩
    have J2 := Lib.hid (B2.out.below' hb1)
    have hbel := BEL.out.trans (hb1.mono BEL.out.size)
    clear hb1 B1 B2 BEL
    have j2 := J2.out.setRow (natsV .u64 ls)
    have hb2 := below_setRow' hbel (show w.heap.size ≤ w.heap.size + 1 by omega) (natsV .u64 ls).toArray
    go_wp2_with (refine st25 rfl (.tmp 4) (.tmp 11) rfl (w.heap.size + 1) rfl ls rfl LS.out (zeros 4) J2.out rfl ?_)
    refine bodyPost_ret (v := .agg (natsV .u64 ls).toArray) ?_ rfl ⟨rfl, hb2⟩
    exact ret25 Try.results21 _ _ (w.heap.size + 1) ls rfl j2 LS.out
  · by_cases hbig : 256 < n
    · rw [show ((min n.toNat 256 : Nat) : Int) = 256 by omega] at HC
      go_enter Try.func21, Try.ntmps21
      go_wp2_with (refine ld25 rfl (.tmp 2) rfl w.heap.size rfl la B1.out LA.out ?_)
      refine (HC.out _).mono ?_
      rintro e w1 ⟨rfl, hb1⟩
      have J2 := Lib.hid (B2.out.below' hb1)
      have hbel := BEL.out.trans (hb1.mono BEL.out.size)
      clear hb1 B1 B2 BEL
      have j2 := J2.out.setRow (natsV .u64 ls)
      have hb2 := below_setRow' hbel (show w.heap.size ≤ w.heap.size + 1 by omega) (natsV .u64 ls).toArray
      go_wp2_with (refine st25 rfl (.tmp 4) (.tmp 11) rfl (w.heap.size + 1) rfl ls rfl LS.out (zeros 4) J2.out rfl ?_)
      refine bodyPost_ret (v := .agg (natsV .u64 ls).toArray) ?_ rfl ⟨rfl, hb2⟩
      exact ret25 Try.results21 _ _ (w.heap.size + 1) ls rfl j2 LS.out
    · rw [show ((min n.toNat 256 : Nat) : Int) = n by omega] at HC
      go_enter Try.func21, Try.ntmps21
      go_wp2_with (refine ld25 rfl (.tmp 2) rfl w.heap.size rfl la B1.out LA.out ?_)
      refine (HC.out _).mono ?_
      rintro e w1 ⟨rfl, hb1⟩
      have J2 := Lib.hid (B2.out.below' hb1)
      have hbel := BEL.out.trans (hb1.mono BEL.out.size)
      clear hb1 B1 B2 BEL
      have j2 := J2.out.setRow (natsV .u64 ls)
      have hb2 := below_setRow' hbel (show w.heap.size ≤ w.heap.size + 1 by omega) (natsV .u64 ls).toArray
      go_wp2_with (refine st25 rfl (.tmp 4) (.tmp 11) rfl (w.heap.size + 1) rfl ls rfl LS.out (zeros 4) J2.out rfl ?_)
      refine bodyPost_ret (v := .agg (natsV .u64 ls).toArray) ?_ rfl ⟨rfl, hb2⟩
      exact ret25 Try.results21 _ _ (w.heap.size + 1) ls rfl j2 LS.out
set_option maxRecDepth 100000 in
set_option maxHeartbeats 800000 in
theorem refShr_any (x : Nat) (n : Int) (w : World) (hx : x < 2 ^ 256) (h0 : -9223372036854775808 ≤ n) (h1 : n < 9223372036854775808) :
    Calls Try.prog 23 #[.agg (natsV .u64 (wds 4 x)).toArray, .int .i64 n] w fun e w' => e = .returned (.agg (natsV .u64 (wds 4 (x / 2 ^ n.toNat))).toArray) ∧ Below w.heap.size w w' := by
  have HC := Lib.hid (fun w => Shifted_any x (x / 2 ^ n.toNat) (-((min n.toNat 256 : Nat) : Int)) w (by omega) (by omega) (fun i hi => shr_bits x n.toNat i hx hi))
  have LS := Lib.hid (wds_len 4 (x / 2 ^ n.toNat))
  have LA := Lib.hid (wds_len 4 x)
  generalize wds 4 (x / 2 ^ n.toNat) = ls at *
  generalize wds 4 x = la at *
  have B1 := Lib.hid ((Blk.new w 25 (natsV .u64 la)).alloc (.cells (natsV .u64 (zeros 4)).toArray 25))
  have B2 := Lib.hid (Blk.new2 w (.cells (natsV .u64 la).toArray 25) 25 (natsV .u64 (zeros 4)))
  have BEL := Lib.hid (((Below.refl w.heap.size w).alloc (Nat.le_refl _) (.cells (natsV .u64 la).toArray 25)).alloc (by simp) (.cells (natsV .u64 (zeros 4)).toArray 25))
  by_cases hneg : n < 0
  · rw [show ((min n.toNat 256 : Nat) : Int) = 0 by omega] at HC
    rw [show -(0 : Int) = 0 from rfl] at HC
    go_enter Try.func23, Try.ntmps23
    go_wp2_with (refine ld25 rfl (.tmp 2) rfl w.heap.size rfl la B1.out LA.out ?_)
    refine (HC.out _).mono ?_
    rintro e w1 ⟨rfl, hb1⟩
    have J2 := Lib.hid (B2.out.below' hb1)
    have hbel := BEL.out.trans (hb1.mono BEL.out.size)
    clear hb1 B1 B2 BEL
    have j2 := J2.out.setRow (natsV .u64 ls)
    have hb2 := below_setRow' hbel (show w.heap.size ≤ w.heap.size + 1 by omega) (natsV .u64 ls).toArray
    go_wp2_with (refine st25 rfl (.tmp 4) (.tmp 12) rfl (w.heap.size + 1) rfl ls rfl LS.out (zeros 4) J2.out rfl ?_)
    refine bodyPost_ret (v := .agg (natsV .u64 ls).toArray) ?_ rfl ⟨rfl, hb2⟩
    exact ret25 Try.results23 _ _ (w.heap.size + 1) ls rfl j2 LS.out
  · by_cases hbig : 256 < n
    · rw [show ((min n.toNat 256 : Nat) : Int) = 256 by omega] at HC
      have en : IntKind.i64.wrap (-(256 : Int)) = -256 := rfl
      go_enter Try.func23, Try.ntmps23
      go_wp2_with (refine ld25 rfl (.tmp 2) rfl w.heap.size rfl la B1.out LA.out ?_)
      refine (HC.out _).mono ?_
      rintro e w1 ⟨rfl, hb1⟩
      have J2 := Lib.hid (B2.out.below' hb1)
      have hbel := BEL.out.trans (hb1.mono BEL.out.size)
      clear hb1 B1 B2 BEL
      have j2 := J2.out.setRow (natsV .u64 ls)
      have hb2 := below_setRow' hbel (show w.heap.size ≤ w.heap.size + 1 by omega) (natsV .u64 ls).toArray
      go_wp2_with (refine st25 rfl (.tmp 4) (.tmp 12) rfl (w.heap.size + 1) rfl ls rfl LS.out (zeros 4) J2.out rfl ?_)
      refine bodyPost_ret (v := .agg (natsV .u64 ls).toArray) ?_ rfl ⟨rfl, hb2⟩
      exact ret25 Try.results23 _ _ (w.heap.size + 1) ls rfl j2 LS.out
    · rw [show ((min n.toNat 256 : Nat) : Int) = n by omega] at HC
      go_enter Try.func23, Try.ntmps23
      go_wp2_with (refine ld25 rfl (.tmp 2) rfl w.heap.size rfl la B1.out LA.out ?_)
      refine (HC.out _).mono ?_
      rintro e w1 ⟨rfl, hb1⟩
      have J2 := Lib.hid (B2.out.below' hb1)
      have hbel := BEL.out.trans (hb1.mono BEL.out.size)
      clear hb1 B1 B2 BEL
      have j2 := J2.out.setRow (natsV .u64 ls)
      have hb2 := below_setRow' hbel (show w.heap.size ≤ w.heap.size + 1 by omega) (natsV .u64 ls).toArray
      go_wp2_with (refine st25 rfl (.tmp 4) (.tmp 12) rfl (w.heap.size + 1) rfl ls rfl LS.out (zeros 4) J2.out rfl ?_)
      refine bodyPost_ret (v := .agg (natsV .u64 ls).toArray) ?_ rfl ⟨rfl, hb2⟩
      exact ret25 Try.results23 _ _ (w.heap.size + 1) ls rfl j2 LS.out
end Go.Proofs.Ytmibkgdfgaiedaa
