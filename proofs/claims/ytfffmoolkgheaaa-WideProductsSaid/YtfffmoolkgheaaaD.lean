/- The project adds and subtracts. Condition: what is subtracted has 256 bits at the most. -/
import Derived.Test.YtfffmoolkgheaaaS
namespace Go.Proofs.Ytfffmoolkgheaaa
open Go.RowKit
set_option linter.unusedVariables false
theorem dgt_compl {B : Nat} (hB : 0 < B) (b n i : Nat) (hb : b < B ^ n) (hi : i < n) : dgt B (B ^ n - 1 - b) i = B - 1 - dgt B b i := by
  obtain ⟨d, rfl⟩ : ∃ d, n = i + (d + 1) := ⟨n - i - 1, by omega⟩
  have hM : 0 < B ^ i := Nat.pow_pos hB
  have hD : 0 < B ^ d := Nat.pow_pos hB
  have e0 : B ^ (i + (d + 1)) = B ^ i * (B ^ d * B) := by rw [Nat.pow_add, Nat.pow_succ]
  have hq : b / B ^ i < B ^ d * B := by rw [Nat.div_lt_iff_lt_mul hM, Nat.mul_comm, ← e0]; exact hb
  have hr := Nat.mod_lt b hM
  have hdm := Nat.mod_add_div b (B ^ i)
  have e1 : B ^ (i + (d + 1)) - 1 - b = (B ^ i - 1 - b % B ^ i) + B ^ i * (B ^ d * B - 1 - b / B ^ i) := by
    rw [e0, Nat.mul_sub, Nat.mul_sub, Nat.mul_one]
    have h2 : B ^ i * (b / B ^ i + 1) ≤ B ^ i * (B ^ d * B) := Nat.mul_le_mul_left _ hq
    rw [Nat.mul_add, Nat.mul_one] at h2
    omega
  unfold dgt
  rw [e1, Nat.add_mul_div_left _ _ hM, Nat.div_eq_of_lt (show B ^ i - 1 - b % B ^ i < B ^ i from Nat.lt_of_le_of_lt (Nat.sub_le _ _) (by omega)), Nat.zero_add]
  generalize b / B ^ i = q at *
  have hq2 : q / B < B ^ d := by rw [Nat.div_lt_iff_lt_mul hB]; exact hq
  have hqm := Nat.mod_add_div q B
  have hqr := Nat.mod_lt q hB
  have e2 : B ^ d * B - 1 - q = (B - 1 - q % B) + B * (B ^ d - 1 - q / B) := by
    rw [Nat.mul_sub, Nat.mul_sub, Nat.mul_one, Nat.mul_comm (B ^ d)]
    have h2 : B * (q / B + 1) ≤ B * B ^ d := Nat.mul_le_mul_left _ hq2
    rw [Nat.mul_add, Nat.mul_one] at h2
    omega
  rw [e2, Nat.add_mul_mod_self_left, Nat.mod_eq_of_lt (by omega)]
/-- 1 where a is less than b -/
def lt01 (a b : Nat) : Nat := if a < b then 1 else 0
theorem wds_add_pow (n v k : Nat) : wds n (v + 2 ^ (64 * n) * k) = wds n v := by
  rw [← wds_mod n n _ (Nat.le_refl _), Nat.add_mul_mod_self_left, wds_mod n n _ (Nat.le_refl _)]
theorem pow256 : (2 ^ 64) ^ 4 = 2 ^ 256 := by rw [← Nat.pow_mul]
def addC (a b : Nat) : Nat := (a + b) / 2 ^ 256
theorem sub_cy (a b : Nat) (ha : a < 2 ^ 256) (hb : b < 2 ^ 256) : cyA (2 ^ 64) a (2 ^ 256 - 1 - b) 1 4 = 1 - lt01 a b := by
  rw [cyA_top (by rw [pow256]; exact ha) (by rw [pow256]; omega), pow256]
  unfold lt01
  split <;> omega
set_option maxHeartbeats 400000 in
theorem Add_any (a b : Nat) (w : World) (ha : a < 2 ^ 256) (hb : b < 2 ^ 256) :
    Calls Try.prog 48 #[.agg (natsV .u64 (wds 4 a)).toArray, .agg (natsV .u64 (wds 4 b)).toArray] w fun e w' => e = .returned (.tuple #[.agg (natsV .u64 (wds 4 (a + b))).toArray, .int .i64 (addC a b : Nat)]) ∧ Below w.heap.size w w' := by
  have HC := Lib.hid (fun w => sum_any a b 0 w (by omega))
  rw [show cyA (2 ^ 64) a b 0 4 = addC a b from by rw [cyA_top (by rw [pow256]; exact ha) (by rw [pow256]; exact hb), pow256, Nat.add_zero]; rfl, Nat.add_zero] at HC
  have LS := Lib.hid (wds_len 4 (a + b))
  have LA := Lib.hid (wds_len 4 a)
  have LB := Lib.hid (wds_len 4 b)
  generalize wds 4 (a + b) = ls at *
  generalize addC a b = cc at *
  generalize wds 4 a = la at *
  generalize wds 4 b = lb at *
  have B1 := Lib.hid (((Blk.new w 24 (natsV .u64 la)).alloc (.cells (natsV .u64 lb).toArray 24)).alloc (.cells (natsV .u64 (zeros 4)).toArray 24))
  have B2 := Lib.hid ((Blk.new2 w (.cells (natsV .u64 la).toArray 24) 24 (natsV .u64 lb)).alloc (.cells (natsV .u64 (zeros 4)).toArray 24))
  have B3 := Lib.hid (Blk.new3 w (.cells (natsV .u64 la).toArray 24) (.cells (natsV .u64 lb).toArray 24) 24 (natsV .u64 (zeros 4)))
  have BEL := Lib.hid ((((Below.refl w.heap.size w).alloc (Nat.le_refl _) (.cells (natsV .u64 la).toArray 24)).alloc (by simp) (.cells (natsV .u64 lb).toArray 24)).alloc (by simp; omega) (.cells (natsV .u64 (zeros 4)).toArray 24))
  go_enter Try.func48, Try.ntmps48
  go_wp2_with (first | (refine ld24 rfl (.tmp 2) rfl w.heap.size rfl la B1.out LA.out ?_) | (refine ld24 rfl (.tmp 3) rfl (w.heap.size + 1) rfl lb B2.out LB.out ?_))
  refine (HC.out _).mono ?_
  rintro e w1 ⟨rfl, hb1⟩
  have C3 := Lib.hid (B3.out.below' hb1)
  have hbel1 := BEL.out.trans (hb1.mono BEL.out.size)
  clear B1 B2 B3 BEL hb1
  have j := C3.out.setRow (natsV .u64 ls)
  have hb2 := below_setRow' hbel1 (show w.heap.size ≤ w.heap.size + 1 + 1 by omega) (natsV .u64 ls).toArray
  go_wp2_with (refine st24 rfl (.tmp 4) (.tmp 9) rfl (w.heap.size + 1 + 1) rfl ls rfl LS.out (zeros 4) C3.out rfl ?_)
  refine bodyPost_ret (v := .tuple #[.agg (natsV .u64 ls).toArray, .int .i64 (cc : Nat)]) ?_ rfl ⟨rfl, hb2⟩
  exact ret24x Try.results48 _ _ (w.heap.size + 1 + 1) ls _ rfl rfl j LS.out
set_option maxRecDepth 100000 in
set_option maxHeartbeats 800000 in
theorem Sub_any (a b : Nat) (w : World) (ha : a < 2 ^ 256) (hb : b < 2 ^ 256) :
    Calls Try.prog 47 #[.agg (natsV .u64 (wds 4 a)).toArray, .agg (natsV .u64 (wds 4 b)).toArray] w fun e w' => e = .returned (.tuple #[.agg (natsV .u64 (wds 4 (a + 2 ^ 256 - b))).toArray, .int .i64 (lt01 a b : Nat)]) ∧ Below w.heap.size w w' := by
  have HC := Lib.hid (fun w => sum_any a (2 ^ 256 - 1 - b) 1 w (by omega))
  rw [sub_cy a b ha hb, show a + (2 ^ 256 - 1 - b) + 1 = a + 2 ^ 256 - b by omega] at HC
  have LS := Lib.hid (wds_len 4 (a + 2 ^ 256 - b))
  have LA := Lib.hid (wds_len 4 a)
  have LB := Lib.hid (wds_len 4 b)
  have LC := Lib.hid (wds_len 4 (2 ^ 256 - 1 - b))
  have HAT := Lib.hid (show ∀ i, i < 4 → (wds 4 (2 ^ 256 - 1 - b)).getD i 0 = bn 64 ((wds 4 b).getD i 0) from fun i hi => by
    have := dgt_compl (B := 2 ^ 64) (by decide) b 4 i (by rw [pow256]; exact hb) hi
    rw [pow256] at this
    rw [wds_at _ _ _ hi, wds_at _ _ _ hi, this]
    unfold bn
    rw [Nat.mod_eq_of_lt (dgt_lt (by decide) b i)])
  have HL := Lib.hid (show lt01 a b ≤ 1 by unfold lt01; split <;> omega)
  generalize wds 4 (a + 2 ^ 256 - b) = ls at *
  generalize wds 4 (2 ^ 256 - 1 - b) = lc at *
  generalize lt01 a b = cc at *
  generalize wds 4 a = la at *
  generalize wds 4 b = lb at *
  have B1 := Lib.hid (((Blk.new w 24 (natsV .u64 la)).alloc (.cells (natsV .u64 lb).toArray 24)).alloc (.cells (natsV .u64 (zeros 4)).toArray 24))
  have B2 := Lib.hid ((Blk.new2 w (.cells (natsV .u64 la).toArray 24) 24 (natsV .u64 lb)).alloc (.cells (natsV .u64 (zeros 4)).toArray 24))
  have B3 := Lib.hid (Blk.new3 w (.cells (natsV .u64 la).toArray 24) (.cells (natsV .u64 lb).toArray 24) 24 (natsV .u64 (zeros 4)))
  have BEL := Lib.hid ((((Below.refl w.heap.size w).alloc (Nat.le_refl _) (.cells (natsV .u64 la).toArray 24)).alloc (by simp) (.cells (natsV .u64 lb).toArray 24)).alloc (by simp; omega) (.cells (natsV .u64 (zeros 4)).toArray 24))
  go_enter Try.func47, Try.ntmps47
  go_wp2_with fail
  go_loopw [9] (fun i wr => ∃ t : Nat, t ≤ 4 ∧ i = .int .i64 t ∧ Blk wr w.heap.size 24 (natsV .u64 la) ∧ Blk wr (w.heap.size + 1) 24 (natsV .u64 (lc.take t ++ lb.drop t)) ∧ Blk wr (w.heap.size + 1 + 1) 24 (natsV .u64 (zeros 4)) ∧ Below w.heap.size w wr) (fun i _ => 4 - (intOf i).toNat)
  case atStart => exact ⟨0, by omega, rfl, B1.out, B2.out, B3.out, BEL.out⟩
  case round =>
    clear B1 B2 B3 BEL
    obtain ⟨t, ht, rfl, k1, k2, k3, hbel⟩ := hrel
    have K1 := Lib.hid k1
    have K2 := Lib.hid k2
    have K3 := Lib.hid k3
    clear k1 k2 k3
    by_cases h5 : t < 4
    · as_aux_lemma =>
      have hti : (t : Int) < 4 := by omega
      have c2 := K2.out.nat t (by rw [mix_len lc lb t 4 LC.out LB.out ht]; exact h5)
      have hf := K2.out.free t
      have HX := Lib.hid (mix_get lc lb t 4 LC.out LB.out h5)
      rw [HX.out] at c2
      have HY := Lib.hid (HAT.out t h5)
      have HSET := Lib.hid (mix_set lc lb t 4 LC.out LB.out h5)
      generalize lb.getD t 0 = x at *
      generalize lc.getD t 0 = y at *
      have rx := u64_bn
      have rs : (if IntKind.u64.signed = true then (-1 : Int) else IntKind.u64.max) = IntKind.u64.max := rfl
      have n2 := K2.out.natSet (t) y
      rw [HSET.out] at n2
      have n1 := K1.out.other ⟨w.heap.size + 1, t, none⟩ (.int .u64 (y : Nat)) (by simp)
      have n3 := K3.out.other ⟨w.heap.size + 1, t, none⟩ (.int .u64 (y : Nat)) (by simp)
      have hb2 := hbel.setCell (p := ⟨w.heap.size + 1, t, none⟩) (by simp) (.int .u64 (y : Nat))
      rw [HY.out] at n1 n2 n3 hb2
      have N1 := Lib.hid n1
      have N2 := Lib.hid n2
      have N3 := Lib.hid n3
      clear n1 n2 n3 K1 K2 K3
      go_wp2_with fail
      go_roundw
      case rel => exact ⟨t + 1, by omega, by go_num, N1.out, N2.out, N3.out, hb2⟩
      case measure => simp [intOf]; omega
    · obtain rfl : t = 4 := by omega
      rw [show ((4 : Nat) : Int) = 4 from rfl]
      have LE := Lib.hid (show lc.take 4 ++ lb.drop 4 = lc by rw [List.take_of_length_le (by rw [LC.out]; decide), List.drop_of_length_le (by rw [LB.out]; decide), List.append_nil])
      rw [LE.out] at K2
      go_wp2_with (first | (refine ld24 rfl (.tmp 2) rfl w.heap.size rfl la K1.out LA.out ?_) | (refine ld24 rfl (.tmp 3) rfl (w.heap.size + 1) rfl lc K2.out LC.out ?_))
      refine (HC.out _).mono ?_
      rintro e w1 ⟨rfl, hb1⟩
      have J3 := Lib.hid ((K3.out.below' hb1).alloc (.cells (natsV .u64 (zeros 4)).toArray 24))
      have J4 := Lib.hid (Blk.new w1 24 (natsV .u64 (zeros 4)))
      have hbel1 := (hbel.trans (hb1.mono hbel.size)).alloc (Nat.le_trans hbel.size hb1.size) (.cells (natsV .u64 (zeros 4)).toArray 24)
      have hsz : w.heap.size + 1 + 1 < w1.heap.size := (K3.out.below' hb1).lt
      have HL0 := HL.out
      clear K1 K2 K3 hbel hb1
      have G3 := Lib.hid (J3.out.row (natsV .u64 ls).toArray (show w.heap.size + 1 + 1 ≠ w1.heap.size by omega))
      have G4 := Lib.hid (J4.out.setRow (natsV .u64 ls))
      have hbel2 := below_setRow' hbel1 (show w.heap.size ≤ w1.heap.size by omega) (natsV .u64 ls).toArray
      go_wp2_with (first | (refine st24 rfl (.tmp 7) (.tmp 23) rfl w1.heap.size rfl ls rfl LS.out (zeros 4) J4.out rfl ?_) | (refine ld24 rfl (.tmp 7) rfl w1.heap.size rfl ls G4.out LS.out ?_) | (refine st24 rfl (.tmp 4) (.tmp 25) rfl (w.heap.size + 1 + 1) rfl ls rfl LS.out (zeros 4) G3.out rfl ?_))
      have j := G3.out.setRow (natsV .u64 ls)
      have hb2 := below_setRow' hbel2 (show w.heap.size ≤ w.heap.size + 1 + 1 by omega) (natsV .u64 ls).toArray
      refine bodyPost_ret (v := .tuple #[.agg (natsV .u64 ls).toArray, .int .i64 (cc : Nat)]) ?_ rfl ⟨rfl, hb2⟩
      exact ret24x Try.results47 _ _ (w.heap.size + 1 + 1) ls _ rfl (congrArg (Value.int .i64) (show (1 : Int) - ((1 - cc : Nat) : Int) = ((cc : Nat) : Int) by omega)) j LS.out
end Go.Proofs.Ytfffmoolkgheaaa
