/- Parts of proofs of statements, each text behind those that it stands on. No condition of its own. -/
import Derived.Test.YtfffmoolkgheaaaZ02
namespace Go.Proofs.Ytfffmoolkgheaaa
open Go.RowKit
set_option linter.unusedVariables false
set_option linter.unusedSimpArgs false
def bl (v : Nat) : Nat := if v = 0 then 0 else v.log2 + 1
theorem bl_zero : bl 0 = 0 := rfl
theorem bl_half (v : Nat) (h : v ≠ 0) : bl v = bl (v / 2) + 1 := by
  unfold bl
  rw [if_neg h]
  by_cases h2 : v / 2 = 0
  · have : v = 1 := by omega
    subst this; rfl
  · rw [if_neg h2]
    conv => lhs; rw [Nat.log2_def, if_pos (by omega)]
theorem bl_shift : ∀ (k x : Nat), x / 2 ^ k ≠ 0 → bl x = k + bl (x / 2 ^ k)
  | 0, x, _ => by simp
  | k + 1, x, h => by
    have e : x / 2 ^ (k + 1) = x / 2 / 2 ^ k := by rw [Nat.pow_succ, Nat.mul_comm, Nat.div_div_eq_div_mul]
    rw [e] at h ⊢
    have hx : x ≠ 0 := by rintro rfl; simp at h
    rw [bl_half x hx, bl_shift k (x / 2) h]; omega
theorem bl_le_iff : ∀ (n v : Nat), bl v ≤ n ↔ v < 2 ^ n
  | 0, v => by
    constructor
    · intro h
      by_cases h0 : v = 0
      · subst h0; simp
      · rw [bl_half v h0] at h; omega
    · intro h
      have : v = 0 := by simpa using h
      subst this; simp [bl]
  | n + 1, v => by
    by_cases h0 : v = 0
    · subst h0; simp [bl, Nat.two_pow_pos]
    · rw [bl_half v h0, Nat.add_le_add_iff_right, bl_le_iff n (v / 2), Nat.pow_succ]; omega
set_option maxHeartbeats 400000 in
theorem bitsOf_any (v : Nat) (w : World) (hv : v < 2 ^ 64) : Calls Try.prog 91 #[.int .u64 (v : Nat)] w fun e w' => e = .returned (.int .i64 (bl v : Nat)) ∧ w = w' := by
  have hbl := (bl_le_iff 64 v).2 hv
  obtain ⟨r, hr⟩ : ∃ r, r = bl v := ⟨_, rfl⟩
  rw [← hr] at hbl ⊢
  have HR := Lib.hid hr
  clear hr
  go_enter Try.func91, Try.ntmps91
  go_wp2_with fail
  go_loop [0, 3] (fun x n => ∃ q k : Nat, x = .int .u64 q ∧ n = .int .i64 k ∧ q < 2 ^ 64 ∧ r = k + bl q) (fun x _ => (intOf x).toNat)
  case atStart => exact ⟨v, 0, rfl, rfl, hv, by rw [HR.out]; simp⟩
  case round =>
    obtain ⟨q, k, rfl, rfl, hq, hrel⟩ := hrel
    by_cases h0 : q = 0
    · subst h0
      have hk : r = k := by rw [hrel, bl_zero]; rfl
      subst hk
      clear hrel
      go_wp2_with fail
      go_ret
      exact ⟨rfl, rfl⟩
    · have h1 : ((q : Int) != 0) = true := by simpa using h0
      have HB := Lib.hid (bl_half q h0)
      have HREL := Lib.hid hrel
      have hk : k ≤ 64 := by omega
      clear hrel
      go_wp2_with fail
      go_round
      case rel => exact ⟨q / 2, k + 1, by go_num, by go_num, by omega, by rw [HREL.out, HB.out]; omega⟩
      case measure => simp [intOf] <;> omega
theorem dgt_top (B x s : Nat) (hB : 0 < B) (h : x < B ^ (s + 1)) : dgt B x s = x / B ^ s := by
  unfold dgt
  rw [Nat.mod_eq_of_lt]
  rw [Nat.div_lt_iff_lt_mul (Nat.pow_pos hB), Nat.mul_comm, ← Nat.pow_succ]; exact h
theorem lt_of_top (B x s : Nat) (hB : 0 < B) (h : x / B ^ s = 0) : x < B ^ s := by
  rcases Nat.div_eq_zero_iff.1 h with h | h
  · have := Nat.pow_pos (n := s) hB; omega
  · exact h
set_option maxRecDepth 100000 in
set_option maxHeartbeats 400000 in
theorem Bits_any (x : Nat) (w : World) (hx : x < 2 ^ 256) : Calls Try.prog 49 #[.agg (natsV .u64 (wds 4 x)).toArray] w fun e w' => e = .returned (.int .i64 (bl x : Nat)) ∧ Below w.heap.size w w' := by
  have hbl := (bl_le_iff 256 x).2 hx
  obtain ⟨r, hr⟩ : ∃ r, r = bl x := ⟨_, rfl⟩
  rw [← hr] at hbl ⊢
  have HR := Lib.hid hr
  clear hr
  have LA := Lib.hid (wds_len 4 x)
  have AA := Lib.hid (wds_at 4 x)
  have HX4 : x < (2 ^ 64) ^ 4 := by rw [← Nat.pow_mul]; exact hx
  generalize wds 4 x = la at *
  have B1 := Lib.hid (Blk.new w 24 (natsV .u64 la))
  have BEL := Lib.hid ((Below.refl w.heap.size w).alloc (Nat.le_refl _) (.cells (natsV .u64 la).toArray 24))
  go_enter Try.func49, Try.ntmps49
  go_wp2_with fail
  go_loop [3] (fun i => ∃ t : Nat, t ≤ 4 ∧ i = .int .i64 ((t : Int) - 1) ∧ x < (2 ^ 64) ^ t) (fun i => (intOf i + 1).toNat)
  case atStart => exact ⟨4, by omega, rfl, HX4⟩
  case round =>
    obtain ⟨t, ht, rfl, hxt⟩ := hrel
    rcases t with _ | s
    · obtain rfl : x = 0 := by simpa using hxt
      rw [show ((0 : Nat) : Int) - 1 = -1 from rfl]
      have h0 : r = 0 := HR.out
      subst h0
      have hbel := BEL.out
      go_wp2_with fail
      go_ret
      exact ⟨rfl, hbel⟩
    · rw [show ((s + 1 : Nat) : Int) - 1 = (s : Int) by omega]
      have hs : s < 4 := by omega
      have hsi : (s : Int) < 4 := by omega
      have c0 := B1.out.nat s (by rw [LA.out]; exact hs)
      rw [AA.out s hs] at c0
      have HT := Lib.hid (dgt_top (2 ^ 64) x s (by decide) hxt)
      have HQ := dgt_lt (B := 2 ^ 64) (by decide) x s
      have HXT := Lib.hid hxt
      clear hxt
      generalize dgt (2 ^ 64) x s = q at *
      by_cases h0 : q = 0
      · subst h0
        have hlt := Lib.hid (lt_of_top (2 ^ 64) x s (by decide) HT.out.symm)
        go_wp2_with fail
        go_round
        case rel => exact ⟨s, by omega, rfl, hlt.out⟩
        case measure => simp [intOf] <;> omega
      · have h1 : ((q : Int) != 0) = true := by simpa using h0
        have HB := Lib.hid (show r = 64 * s + bl q by
          rw [HR.out, HT.out, ← Nat.pow_mul]
          exact bl_shift (64 * s) x (by rw [Nat.pow_mul, ← HT.out]; exact h0))
        have HBO := Lib.hid (fun w => bitsOf_any q w HQ)
        have hq2 := (bl_le_iff 64 q).2 HQ
        generalize bl q = bq at *
        have hbel := BEL.out
        go_wp2_with fail
        refine (HBO.out _).mono ?_
        rintro e w1 ⟨rfl, rfl⟩
        go_wp2_with fail
        go_ret
        exact ⟨ret1 (by rw [HB.out]; omega), hbel⟩
end Go.Proofs.Ytfffmoolkgheaaa
namespace Go.Proofs.Ytfffmoolkgheaaa
open Go.RowKit
set_option linter.unusedVariables false
set_option linter.unusedSimpArgs false
def bitZ (x : Nat) (n : Int) : Nat := if 0 ≤ n ∧ n < 256 then x / 2 ^ n.toNat % 2 else 0
theorem bitZ_out (x : Nat) (n : Int) (h : n < 0 ∨ 256 ≤ n) : bitZ x n = 0 := by unfold bitZ; rw [if_neg (by omega)]
theorem bitZ_in (x k : Nat) (h : k < 256) : bitZ x (k : Int) = x / 2 ^ k % 2 := by unfold bitZ; rw [if_pos (by omega)]; simp
theorem bitZ_le (x : Nat) (n : Int) : bitZ x n ≤ 1 := by unfold bitZ; split <;> omega
theorem bit_word (x j s : Nat) (hs : s < 64) : dgt (2 ^ 64) x j / 2 ^ s % 2 = x / 2 ^ (64 * j + s) % 2 := by
  have h1 : dgt 2 (x / 2 ^ (64 * j) % 2 ^ 64) s = dgt 2 (x / 2 ^ (64 * j)) s := by
    have := tell_mod 2 (x / 2 ^ (64 * j)) (s + 1) 64 (by omega)
    rw [tell_succ, tell_succ] at this
    have h := List.append_inj_right this (by rw [tell_length, tell_length])
    simpa using h
  unfold dgt at h1 ⊢
  rw [← Nat.pow_mul, h1, Nat.div_div_eq_div_mul, ← Nat.pow_add]
theorem and_one (y s : Nat) : bits .and .u64 ((y : Int) / 2 ^ s) 1 = ((y / 2 ^ s % 2 : Nat) : Int) := by
  have h := u64_ba (y / 2 ^ s) 1
  have e : ba 64 (y / 2 ^ s) 1 = y / 2 ^ s % 2 := by
    unfold ba
    rw [show 1 % 2 ^ 64 = 1 from rfl, Nat.and_one_is_mod, Nat.mod_mod_of_dvd _ (by decide)]
  rw [e] at h
  rw [← h]
  congr 1 <;> simp
set_option maxHeartbeats 400000 in
theorem Bit_any (x : Nat) (n : Int) (w : World) (h0 : -9223372036854775808 ≤ n) (h1 : n < 9223372036854775808) : Calls Try.prog 69 #[.agg (natsV .u64 (wds 4 x)).toArray, .int .i64 n] w fun e w' => e = .returned (.int .i64 (bitZ x n : Nat)) ∧ Below w.heap.size w w' := by
  have LA := Lib.hid (wds_len 4 x)
  have AA := Lib.hid (wds_at 4 x)
  generalize wds 4 x = la at *
  have B1 := Lib.hid (Blk.new w 24 (natsV .u64 la))
  have BEL := Lib.hid ((Below.refl w.heap.size w).alloc (Nat.le_refl _) (.cells (natsV .u64 la).toArray 24))
  have hbel := BEL.out
  by_cases hneg : n < 0
  · rw [bitZ_out x n (.inl hneg)]
    go_enter Try.func69, Try.ntmps69
    go_wp2_with fail
    go_ret
    exact ⟨rfl, hbel⟩
  · by_cases hbig : 256 ≤ n
    · rw [bitZ_out x n (.inr hbig)]
      go_enter Try.func69, Try.ntmps69
      go_wp2_with fail
      go_ret
      exact ⟨rfl, hbel⟩
    · obtain ⟨k, rfl⟩ := Int.eq_ofNat_of_zero_le (show 0 ≤ n by omega)
      have hk : k < 256 := by omega
      have HV := Lib.hid (bitZ_in x k hk)
      obtain ⟨j, hj⟩ : ∃ j, j = k / 64 := ⟨_, rfl⟩
      obtain ⟨s, hs⟩ : ∃ s, s = k % 64 := ⟨_, rfl⟩
      have HW := Lib.hid (bit_word x j s (by omega))
      rw [show 64 * j + s = k by omega, ← HV.out] at HW
      have hj4 : j < 4 := by omega
      have hs64 : s < 64 := by omega
      have c0 := B1.out.nat j (by rw [LA.out]; omega)
      rw [AA.out j hj4] at c0
      have HY := dgt_lt (B := 2 ^ 64) (by decide) x j
      generalize dgt (2 ^ 64) x j = y at *
      have hbl := bitZ_le x k
      obtain ⟨bz, hbz⟩ : ∃ bz, bz = bitZ x (k : Int) := ⟨_, rfl⟩
      rw [← hbz] at HW hbl ⊢
      have e1 : (k : Int) / 64 = (j : Int) := by omega
      have e2 : (k : Int) % 64 = (s : Int) := by omega
      have hji : (j : Int) < 4 := by omega
      have HJ := Lib.hid hj
      have HSS := Lib.hid hs
      clear hj hs
      have r2 := u64_ba
      clear HV hbz
      go_enter Try.func69, Try.ntmps69
      go_wp2_with fail
      go_ret
      exact ⟨ret1 (by rw [and_one, HW.out, IntWalk.wrap64_in _ (by omega)]), hbel⟩
end Go.Proofs.Ytfffmoolkgheaaa
namespace Go.Proofs.Ytfffmoolkgheaaa
open Go.RowKit
set_option linter.unusedVariables false
set_option linter.unusedSimpArgs false
def wz (x : Nat) (j : Int) : Nat := if 0 ≤ j then dgt (2 ^ 64) x j.toNat else 0
theorem wz_lt (x : Nat) (j : Int) : wz x j < 2 ^ 64 := by unfold wz; split; exact dgt_lt (by decide) _ _; decide
theorem wz_neg (x : Nat) (j : Int) (h : j < 0) : wz x j = 0 := by unfold wz; rw [if_neg (by omega)]
theorem wz_nat (x j : Nat) : wz x (j : Int) = dgt (2 ^ 64) x j := by unfold wz; rw [if_pos (by omega)]; rfl
theorem dgt_high {B x n j : Nat} (hB : 0 < B) (h : x < B ^ n) (hj : n ≤ j) : dgt B x j = 0 := by
  unfold dgt
  rw [Nat.div_eq_of_lt (Nat.lt_of_lt_of_le h (Nat.pow_le_pow_right hB hj))]; simp
theorem dgt_bit (x j c : Nat) : (dgt (2 ^ 64) x j).testBit c = (decide (c < 64) && x.testBit (64 * j + c)) := by
  unfold dgt
  rw [← Nat.pow_mul, Nat.testBit_mod_two_pow, Nat.testBit_div_two_pow, Nat.add_comm]
theorem wz_bit (x : Nat) (j : Int) (c : Nat) : (wz x j).testBit c = (decide (0 ≤ j) && (decide (c < 64) && x.testBit (64 * j.toNat + c))) := by
  unfold wz
  split
  · rename_i h; rw [dgt_bit]; simp [h]
  · rename_i h; simp [h]
theorem shl_word (x N i : Nat) : dgt (2 ^ 64) (x * 2 ^ N) i = (wz x ((i : Int) - (N / 64 : Nat)) * 2 ^ (N % 64) % 2 ^ 64) ||| (wz x ((i : Int) - (N / 64 : Nat) - 1) / 2 ^ (64 - N % 64)) := by
  apply Nat.eq_of_testBit_eq
  intro b
  simp only [dgt_bit, Nat.testBit_or, Nat.testBit_mod_two_pow, Nat.testBit_mul_two_pow, Nat.testBit_div_two_pow, wz_bit]
  obtain ⟨q, hq⟩ : ∃ q, q = N / 64 := ⟨_, rfl⟩
  obtain ⟨r, hr⟩ : ∃ r, r = N % 64 := ⟨_, rfl⟩
  rw [← hq, ← hr]
  have hN : N = 64 * q + r := by omega
  have hr64 : r < 64 := by omega
  clear hq hr
  obtain ⟨z, hz⟩ : ∃ z, z = (i : Int) - (q : Int) := ⟨_, rfl⟩
  obtain ⟨y, hy⟩ : ∃ y, y = z - 1 := ⟨_, rfl⟩
  rw [← hz, ← hy]
  by_cases hb : b < 64
  · by_cases hbr : r ≤ b
    · have h2 : ¬ (b + (64 - r) < 64) := by omega
      have h3 : b - r < 64 := by omega
      by_cases hi : q ≤ i
      · have h4 : N ≤ 64 * i + b := by omega
        have h5 : (0 : Int) ≤ z := by omega
        have e1 : 64 * z.toNat + (b - r) = 64 * i + b - N := by omega
        simp [hb, hbr, h2, h3, h4, h5, e1]
      · have h4 : ¬ (N ≤ 64 * i + b) := by omega
        have h5 : ¬ ((0 : Int) ≤ z) := by omega
        simp [hb, h2, h4, h5]
    · have h2 : b + (64 - r) < 64 := by omega
      by_cases hi : q + 1 ≤ i
      · have h4 : N ≤ 64 * i + b := by omega
        have h5 : (0 : Int) ≤ y := by omega
        have e1 : 64 * y.toNat + (b + (64 - r)) = 64 * i + b - N := by omega
        simp [hb, hbr, h2, h4, h5, e1]
      · have h4 : ¬ (N ≤ 64 * i + b) := by omega
        have h5 : ¬ ((0 : Int) ≤ y) := by omega
        simp [hb, hbr, h4, h5]
  · have h2 : ¬ (b + (64 - r) < 64) := by omega
    simp [hb, h2]
theorem shr_word (x N i : Nat) : dgt (2 ^ 64) (x / 2 ^ N) i = (wz x ((i : Int) + (N / 64 : Nat)) / 2 ^ (N % 64)) ||| (wz x ((i : Int) + (N / 64 : Nat) + 1) * 2 ^ (64 - N % 64) % 2 ^ 64) := by
  apply Nat.eq_of_testBit_eq
  intro b
  simp only [dgt_bit, Nat.testBit_or, Nat.testBit_mod_two_pow, Nat.testBit_mul_two_pow, Nat.testBit_div_two_pow, wz_bit]
  obtain ⟨q, hq⟩ : ∃ q, q = N / 64 := ⟨_, rfl⟩
  obtain ⟨r, hr⟩ : ∃ r, r = N % 64 := ⟨_, rfl⟩
  rw [← hq, ← hr]
  have hN : N = 64 * q + r := by omega
  have hr64 : r < 64 := by omega
  clear hq hr
  have h5 : (0 : Int) ≤ (i : Int) + (q : Int) := by omega
  have h6 : (0 : Int) ≤ (i : Int) + (q : Int) + 1 := by omega
  by_cases hb : b < 64
  · by_cases hbr : b + r < 64
    · have h2 : ¬ (64 - r ≤ b) := by omega
      have e1 : 64 * ((i : Int) + (q : Int)).toNat + (b + r) = 64 * i + b + N := by omega
      simp [hb, hbr, h2, h5, e1]
    · have h2 : 64 - r ≤ b := by omega
      have h3 : b - (64 - r) < 64 := by omega
      have e1 : 64 * ((i : Int) + (q : Int) + 1).toNat + (b - (64 - r)) = 64 * i + b + N := by omega
      simp [hb, hbr, h2, h3, h5, h6, e1]
  · have h2 : ¬ (b + r < 64) := by omega
    simp [hb, h2]
end Go.Proofs.Ytfffmoolkgheaaa
namespace Go.Proofs.Ytfffmoolkgheaaa
open Go.RowKit
set_option linter.unusedVariables false
set_option linter.unusedSimpArgs false
theorem range_keep {w w' : World} {g : Nat} {l : List Nat} (h : w.rangeAt g 0 (natsV .u64 l)) (hb : Below w.heap.size w w') : w'.rangeAt g 0 (natsV .u64 l) := by
  intro j v hv
  have h1 := h j v hv
  exact (hb.cell (World.block_lt_of_cell? w _ h1)).trans h1
theorem blk_range {w : World} {G : Nat} {t : TypeId} {l : List Nat} (h : Blk w G t (natsV .u64 l)) : w.rangeAt G 0 (natsV .u64 l) := by
  intro j v hv
  rw [Nat.zero_add, h.cell, hv]
theorem tell_set (f : Nat → Nat) (n p v : Nat) : (tell f n).set p v = tell (fun i => if i = p then v else f i) n := by
  apply List.ext_getElem?
  intro i
  rw [List.getElem?_set]
  simp only [tell, List.getElem?_map, List.length_map, List.length_range]
  by_cases hi : i < n
  · rw [List.getElem?_range hi]
    by_cases hp : p = i
    · subst hp; simp [hi]
    · rw [if_neg hp]; simp [Ne.symm hp, fun h : i = p => hp h.symm]
  · rw [List.getElem?_eq_none (by simpa using hi)]
    by_cases hp : p = i
    · subst hp; simp [hi]
    · simp [hp]
end Go.Proofs.Ytfffmoolkgheaaa
namespace Go.Proofs.Ytfffmoolkgheaaa
open Go.RowKit
set_option linter.unusedVariables false
set_option linter.unusedSimpArgs false
def cmpZ (a b : Nat) : Int := if a < b then -1 else if a = b then 0 else 1
end Go.Proofs.Ytfffmoolkgheaaa
namespace Go.Proofs.Ytfffmoolkgheaaa
open Go.RowKit
set_option linter.unusedVariables false
set_option linter.unusedSimpArgs false
def Rd (w : World) (g n V : Nat) : Prop := ∀ i, i < n → w.cell? ⟨g, i, none⟩ = some (.int .u64 (dgt (2 ^ 64) V i : Nat))
theorem Rd.below {w w' : World} {g n V : Nat} (h : Rd w g n V) (hb : Below w.heap.size w w') : Rd w' g n V := fun i hi => (hb.cell (World.block_lt_of_cell? w _ (h i hi))).trans (h i hi)
end Go.Proofs.Ytfffmoolkgheaaa
namespace Go.Proofs.Ytfffmoolkgheaaa
open Go.RowKit
set_option linter.unusedVariables false
set_option linter.unusedSimpArgs false
def Rd16 (w : World) (g n V : Nat) : Prop := ∀ i, i < n → w.cell? ⟨g, i, none⟩ = some (.int .u32 (dgt (2 ^ 16) V i : Nat))
theorem Rd16.below {w w' : World} {g n V : Nat} (h : Rd16 w g n V) (hb : Below w.heap.size w w') : Rd16 w' g n V := fun i hi => (hb.cell (World.block_lt_of_cell? w _ (h i hi))).trans (h i hi)
theorem Rd16.keep {w w' : World} {B g n V : Nat} (h : Rd16 w g n V) (hb : Below B w w') (hg : g < B) : Rd16 w' g n V := fun i hi => (hb.cell (p := ⟨g, i, none⟩) hg).trans (h i hi)
end Go.Proofs.Ytfffmoolkgheaaa
namespace Go.Proofs.Ytfffmoolkgheaaa
open Go.RowKit
set_option linter.unusedVariables false
set_option maxRecDepth 100000 in
set_option maxHeartbeats 1000000 in
theorem sum_any (a b c : Nat) (w : World) (hc1 : c ≤ 1) :
    Calls Try.prog 90 #[.agg (natsV .u64 (wds 4 a)).toArray, .agg (natsV .u64 (wds 4 b)).toArray, .int .u64 (c : Nat)] w fun e w' => e = .returned (.tuple #[.agg (natsV .u64 (wds 4 (a + b + c))).toArray, .int .i64 (cyA (2 ^ 64) a b c 4 : Nat)]) ∧ Below w.heap.size w w' := by
  have LA := Lib.hid (wds_len 4 a)
  have LB := Lib.hid (wds_len 4 b)
  have AA := Lib.hid (wds_at 4 a)
  have AB := Lib.hid (wds_at 4 b)
  have LS := Lib.hid (wds_len 4 (a + b + c))
  have HS := Lib.hid (show wds 4 (a + b + c) = tell (dgt (2 ^ 64) (a + b + c)) 4 from rfl)
  generalize wds 4 (a + b + c) = ls at *
  generalize wds 4 a = la at *
  generalize wds 4 b = lb at *
  have B1 := Lib.hid (((Blk.new w 24 (natsV .u64 la)).alloc (.cells (natsV .u64 lb).toArray 24)).alloc (.cells (natsV .u64 (zeros 4)).toArray 24) |>.alloc (.cells (natsV .u64 (zeros 4)).toArray 24))
  have B2 := Lib.hid ((Blk.new2 w (.cells (natsV .u64 la).toArray 24) 24 (natsV .u64 lb)).alloc (.cells (natsV .u64 (zeros 4)).toArray 24) |>.alloc (.cells (natsV .u64 (zeros 4)).toArray 24))
  have B3 := Lib.hid ((Blk.new3 w (.cells (natsV .u64 la).toArray 24) (.cells (natsV .u64 lb).toArray 24) 24 (natsV .u64 (zeros 4))).alloc (.cells (natsV .u64 (zeros 4)).toArray 24))
  have B4 := Lib.hid (Blk.new4 w (.cells (natsV .u64 la).toArray 24) (.cells (natsV .u64 lb).toArray 24) (.cells (natsV .u64 (zeros 4)).toArray 24) 24 (natsV .u64 (zeros 4)))
  have BEL := Lib.hid ((((Below.refl w.heap.size w).alloc (Nat.le_refl _) (.cells (natsV .u64 la).toArray 24)).alloc (by simp) (.cells (natsV .u64 lb).toArray 24)).alloc (by simp; omega) (.cells (natsV .u64 (zeros 4)).toArray 24) |>.alloc (by simp; omega) (.cells (natsV .u64 (zeros 4)).toArray 24))
  have C0 := Lib.hid (cyA_zero (2 ^ 64) a b c)
  obtain ⟨cf, hcf⟩ : ∃ cf, cf = cyA (2 ^ 64) a b c 4 := ⟨_, rfl⟩
  rw [← hcf]
  have HCF := Lib.hid hcf
  clear hcf
  go_enter Try.func90, Try.ntmps90
  go_wp2_with fail
  go_loopw [2, 10] (fun cc i wr => ∃ t : Nat, t ≤ 4 ∧ i = .int .i64 t ∧ cc = .int .u64 (cyA (2 ^ 64) a b c t : Nat) ∧ Blk wr w.heap.size 24 (natsV .u64 la) ∧ Blk wr (w.heap.size + 1) 24 (natsV .u64 lb) ∧ Blk wr (w.heap.size + 1 + 1) 24 (natsV .u64 (zeros 4)) ∧ Blk wr (w.heap.size + 1 + 1 + 1) 24 (natsV .u64 (tell (dgt (2 ^ 64) (a + b + c)) t ++ zeros (4 - t))) ∧ Below w.heap.size w wr) (fun _ i _ => 4 - (intOf i).toNat)
  case atStart => exact ⟨0, by omega, rfl, by rw [C0.out], B1.out, B2.out, B3.out, B4.out, BEL.out⟩
  case round =>
    clear B1 B2 B3 B4 BEL
    obtain ⟨t, ht, rfl, rfl, k1, k2, k3, k4, hbel⟩ := hrel
    have K1 := Lib.hid k1
    have K2 := Lib.hid k2
    have K3 := Lib.hid k3
    have K4 := Lib.hid k4
    clear k1 k2 k3 k4
    by_cases h5 : t < 4
    · as_aux_lemma =>
      have hti : (t : Int) < 4 := by omega
      have c0 := K1.out.nat t (by rw [LA.out]; omega)
      have c1 := K2.out.nat t (by rw [LB.out]; omega)
      have c2 := K4.out.nat t (by simp [tell_length, zeros]; omega)
      have hf := K4.out.free t
      rw [AA.out t h5] at c0
      rw [AB.out t h5] at c1
      have CL := cyA_le (B := 2 ^ 64) (by decide) a b c t hc1
      have HD := Lib.hid (dgt_sum (B := 2 ^ 64) (by decide) a b c t)
      have HCY := Lib.hid (cyA_succ (B := 2 ^ 64) (by decide) a b c t)
      have HX := dgt_lt (B := 2 ^ 64) (by decide) a t
      have HY := dgt_lt (B := 2 ^ 64) (by decide) b t
      have HXT := Lib.hid (show la.getD t 0 = dgt (2 ^ 64) a t from AA.out t h5)
      have HYT := Lib.hid (show lb.getD t 0 = dgt (2 ^ 64) b t from AB.out t h5)
      have HF := Lib.hid (fill_tell (dgt (2 ^ 64) (a + b + c)) 4 t h5)
      generalize dgt (2 ^ 64) a t = x at *
      generalize dgt (2 ^ 64) b t = y at *
      generalize cyA (2 ^ 64) a b c t = cy at *
      have rx := u64_add
      go_wp2_with fail
      go_region
      all_goals
        clear rx
        have n4 := K4.out.natSet t (add 64 (add 64 x y) cy)
        have n1 := K1.out.other ⟨w.heap.size + 1 + 1 + 1, t, none⟩ (.int .u64 (add 64 (add 64 x y) cy : Nat)) (by simp; omega)
        have n2 := K2.out.other ⟨w.heap.size + 1 + 1 + 1, t, none⟩ (.int .u64 (add 64 (add 64 x y) cy : Nat)) (by simp)
        have n3 := K3.out.other ⟨w.heap.size + 1 + 1 + 1, t, none⟩ (.int .u64 (add 64 (add 64 x y) cy : Nat)) (by simp)
        have hb2 := hbel.setCell (p := ⟨w.heap.size + 1 + 1 + 1, t, none⟩) (by simp; omega) (.int .u64 (add 64 (add 64 x y) cy : Nat))
        have HADD := Lib.hid (show add 64 (add 64 x y) cy = dgt (2 ^ 64) (a + b + c) t by rw [HD.out]; unfold add; omega)
        generalize wr.setCell ⟨w.heap.size + 1 + 1 + 1, t, none⟩ (.int .u64 (add 64 (add 64 x y) cy : Nat)) = W0 at *
        rw [HADD.out] at n4
        rw [HADD.out]
        rw [HF.out] at n4
        have HST := Lib.hid (show (tell (dgt (2 ^ 64) (a + b + c)) (t + 1) ++ zeros (4 - (t + 1))).getD t 0 = dgt (2 ^ 64) (a + b + c) t from fill_get _ _ _ (by omega) _)
        have HCW := Lib.hid (cyW_eq x y cy (dgt (2 ^ 64) (a + b + c) t) HX HY CL HD.out)
        rw [← HCY.out] at HCW
        generalize dgt (2 ^ 64) (a + b + c) t = sv at *
        have N1 := Lib.hid n1.drew
        have N2 := Lib.hid n2.drew
        have N3 := Lib.hid n3.drew
        have N4 := Lib.hid n4.drew
        have hb3 := hb2.drew
        clear n1 n2 n3 n4 hb2 HF c2 hf c0 c1 K1 K2 K3 K4 hbel
        generalize W0.drew = W1 at *
        have c0 := N1.out.nat t (by rw [LA.out]; omega)
        have c1 := N2.out.nat t (by rw [LB.out]; omega)
        have c2 := N4.out.nat t (by simp [tell_length, zeros]; omega)
        have r1 := u64_bo
        have r2 := u64_ba
        have r3 := u64_bd
        rw [HXT.out] at c0
        rw [HYT.out] at c1
        rw [HST.out] at c2
        go_wp2_with fail
        go_quiet (fail)
        clear r1 r2 r3
        go_wp2_with fail
        go_roundw
        case rel => exact ⟨t + 1, by omega, by go_num, by rw [← HCW.out]; unfold cyW; simp, N1.out.drewN _, N2.out.drewN _, N3.out.drewN _, N4.out.drewN _, below_drewN hb3 _⟩
        case measure => simp [intOf]; omega
    · obtain rfl : t = 4 := by omega
      rw [show ((4 : Nat) : Int) = 4 from rfl]
      have LE := Lib.hid (show tell (dgt (2 ^ 64) (a + b + c)) 4 ++ zeros (4 - 4) = ls by rw [HS.out]; simp [zeros])
      rw [LE.out] at K4
      have j2 := K3.out.setRow (natsV .u64 ls)
      have hb2 := below_setRow' hbel (show w.heap.size ≤ w.heap.size + 1 + 1 by omega) (natsV .u64 ls).toArray
      have CL := cyA_le (B := 2 ^ 64) (by decide) a b c 4 hc1
      rw [← HCF.out] at CL ⊢
      go_wp2_with (first | (refine ld24 rfl (.tmp 8) rfl (w.heap.size + 1 + 1 + 1) rfl ls K4.out LS.out ?_) | (refine st24 rfl (.tmp 6) (.tmp 45) rfl (w.heap.size + 1 + 1) rfl ls rfl LS.out (zeros 4) K3.out rfl ?_))
      refine bodyPost_ret (v := .tuple #[.agg (natsV .u64 ls).toArray, .int .i64 (cf : Nat)]) ?_ rfl ⟨rfl, hb2⟩
      exact ret24x Try.results90 _ _ (w.heap.size + 1 + 1) ls _ rfl rfl j2 LS.out
end Go.Proofs.Ytfffmoolkgheaaa
namespace Go.Proofs.Ytfffmoolkgheaaa
open Go.RowKit
set_option linter.unusedVariables false
theorem dgt_compl {B : Nat} (hB : 0 < B) (b n i : Nat) (hb : b < B ^ n) (hi : i < n) : dgt B (B ^ n - 1 - b) i = B - 1 - dgt B b i := by
  obtain ⟨d, rfl⟩ : ∃ d, n = i + (d + 1) := ⟨n - i - 1, by omega⟩
  have hM : 0 < B ^ i := Nat.pow_pos hB
  have hD : 0 < B ^ d := Nat.pow_pos hB
  have e0 : B ^ (i + (d + 1)) = B ^ i * (B ^ d * B) := by rw [Nat.pow_add, Nat.pow_succ]
  have hq : b / B ^ i < B ^ d * B := by rw [Nat.div_lt_iff_lt_mul hM, Nat.mul_comm, ← e0]; exact hb
  have hr := Nat.mod_lt b hM
  have hdm := Nat.mod_add_div b (B ^ i)
  have e1 : B ^ (i + (d + 1)) - 1 - b = (B ^ i - 1 - b % B ^ i) + B ^ i * (B ^ d * B - 1 - b / B ^ i) := by
    rw [e0, Nat.mul_sub, Nat.mul_sub, Nat.mul_one]
    have h2 : B ^ i * (b / B ^ i + 1) ≤ B ^ i * (B ^ d * B) := Nat.mul_le_mul_left _ hq
    rw [Nat.mul_add, Nat.mul_one] at h2
    omega
  unfold dgt
  rw [e1, Nat.add_mul_div_left _ _ hM, Nat.div_eq_of_lt (show B ^ i - 1 - b % B ^ i < B ^ i from Nat.lt_of_le_of_lt (Nat.sub_le _ _) (by omega)), Nat.zero_add]
  generalize b / B ^ i = q at *
  have hq2 : q / B < B ^ d := by rw [Nat.div_lt_iff_lt_mul hB]; exact hq
  have hqm := Nat.mod_add_div q B
  have hqr := Nat.mod_lt q hB
  have e2 : B ^ d * B - 1 - q = (B - 1 - q % B) + B * (B ^ d - 1 - q / B) := by
    rw [Nat.mul_sub, Nat.mul_sub, Nat.mul_one, Nat.mul_comm (B ^ d)]
    have h2 : B * (q / B + 1) ≤ B * B ^ d := Nat.mul_le_mul_left _ hq2
    rw [Nat.mul_add, Nat.mul_one] at h2
    omega
  rw [e2, Nat.add_mul_mod_self_left, Nat.mod_eq_of_lt (by omega)]
def lt01 (a b : Nat) : Nat := if a < b then 1 else 0
theorem wds_add_pow (n v k : Nat) : wds n (v + 2 ^ (64 * n) * k) = wds n v := by
  rw [← wds_mod n n _ (Nat.le_refl _), Nat.add_mul_mod_self_left, wds_mod n n _ (Nat.le_refl _)]
theorem pow256 : (2 ^ 64) ^ 4 = 2 ^ 256 := by rw [← Nat.pow_mul]
def addC (a b : Nat) : Nat := (a + b) / 2 ^ 256
theorem sub_cy (a b : Nat) (ha : a < 2 ^ 256) (hb : b < 2 ^ 256) : cyA (2 ^ 64) a (2 ^ 256 - 1 - b) 1 4 = 1 - lt01 a b := by
  rw [cyA_top (by rw [pow256]; exact ha) (by rw [pow256]; omega), pow256]
  unfold lt01
  split <;> omega
set_option maxHeartbeats 400000 in
theorem Add_any (a b : Nat) (w : World) (ha : a < 2 ^ 256) (hb : b < 2 ^ 256) :
    Calls Try.prog 48 #[.agg (natsV .u64 (wds 4 a)).toArray, .agg (natsV .u64 (wds 4 b)).toArray] w fun e w' => e = .returned (.tuple #[.agg (natsV .u64 (wds 4 (a + b))).toArray, .int .i64 (addC a b : Nat)]) ∧ Below w.heap.size w w' := by
  have HC := Lib.hid (fun w => sum_any a b 0 w (by omega))
  rw [show cyA (2 ^ 64) a b 0 4 = addC a b from by rw [cyA_top (by rw [pow256]; exact ha) (by rw [pow256]; exact hb), pow256, Nat.add_zero]; rfl, Nat.add_zero] at HC
  have LS := Lib.hid (wds_len 4 (a + b))
  have LA := Lib.hid (wds_len 4 a)
  have LB := Lib.hid (wds_len 4 b)
  generalize wds 4 (a + b) = ls at *
  generalize addC a b = cc at *
  generalize wds 4 a = la at *
  generalize wds 4 b = lb at *
  have B1 := Lib.hid (((Blk.new w 24 (natsV .u64 la)).alloc (.cells (natsV .u64 lb).toArray 24)).alloc (.cells (natsV .u64 (zeros 4)).toArray 24))
  have B2 := Lib.hid ((Blk.new2 w (.cells (natsV .u64 la).toArray 24) 24 (natsV .u64 lb)).alloc (.cells (natsV .u64 (zeros 4)).toArray 24))
  have B3 := Lib.hid (Blk.new3 w (.cells (natsV .u64 la).toArray 24) (.cells (natsV .u64 lb).toArray 24) 24 (natsV .u64 (zeros 4)))
  have BEL := Lib.hid ((((Below.refl w.heap.size w).alloc (Nat.le_refl _) (.cells (natsV .u64 la).toArray 24)).alloc (by simp) (.cells (natsV .u64 lb).toArray 24)).alloc (by simp; omega) (.cells (natsV .u64 (zeros 4)).toArray 24))
  go_enter Try.func48, Try.ntmps48
  go_wp2_with (first | (refine ld24 rfl (.tmp 2) rfl w.heap.size rfl la B1.out LA.out ?_) | (refine ld24 rfl (.tmp 3) rfl (w.heap.size + 1) rfl lb B2.out LB.out ?_))
  refine (HC.out _).mono ?_
  rintro e w1 ⟨rfl, hb1⟩
  have C3 := Lib.hid (B3.out.below' hb1)
  have hbel1 := BEL.out.trans (hb1.mono BEL.out.size)
  clear B1 B2 B3 BEL hb1
  have j := C3.out.setRow (natsV .u64 ls)
  have hb2 := below_setRow' hbel1 (show w.heap.size ≤ w.heap.size + 1 + 1 by omega) (natsV .u64 ls).toArray
  go_wp2_with (refine st24 rfl (.tmp 4) (.tmp 9) rfl (w.heap.size + 1 + 1) rfl ls rfl LS.out (zeros 4) C3.out rfl ?_)
  refine bodyPost_ret (v := .tuple #[.agg (natsV .u64 ls).toArray, .int .i64 (cc : Nat)]) ?_ rfl ⟨rfl, hb2⟩
  exact ret24x Try.results48 _ _ (w.heap.size + 1 + 1) ls _ rfl rfl j LS.out
set_option maxRecDepth 100000 in
set_option maxHeartbeats 800000 in
theorem Sub_any (a b : Nat) (w : World) (ha : a < 2 ^ 256) (hb : b < 2 ^ 256) :
    Calls Try.prog 47 #[.agg (natsV .u64 (wds 4 a)).toArray, .agg (natsV .u64 (wds 4 b)).toArray] w fun e w' => e = .returned (.tuple #[.agg (natsV .u64 (wds 4 (a + 2 ^ 256 - b))).toArray, .int .i64 (lt01 a b : Nat)]) ∧ Below w.heap.size w w' := by
  have HC := Lib.hid (fun w => sum_any a (2 ^ 256 - 1 - b) 1 w (by omega))
  rw [sub_cy a b ha hb, show a + (2 ^ 256 - 1 - b) + 1 = a + 2 ^ 256 - b by omega] at HC
  have LS := Lib.hid (wds_len 4 (a + 2 ^ 256 - b))
  have LA := Lib.hid (wds_len 4 a)
  have LB := Lib.hid (wds_len 4 b)
  have LC := Lib.hid (wds_len 4 (2 ^ 256 - 1 - b))
  have HAT := Lib.hid (show ∀ i, i < 4 → (wds 4 (2 ^ 256 - 1 - b)).getD i 0 = bn 64 ((wds 4 b).getD i 0) from fun i hi => by
    have := dgt_compl (B := 2 ^ 64) (by decide) b 4 i (by rw [pow256]; exact hb) hi
    rw [pow256] at this
    rw [wds_at _ _ _ hi, wds_at _ _ _ hi, this]
    unfold bn
    rw [Nat.mod_eq_of_lt (dgt_lt (by decide) b i)])
  have HL := Lib.hid (show lt01 a b ≤ 1 by unfold lt01; split <;> omega)
  generalize wds 4 (a + 2 ^ 256 - b) = ls at *
  generalize wds 4 (2 ^ 256 - 1 - b) = lc at *
  generalize lt01 a b = cc at *
  generalize wds 4 a = la at *
  generalize wds 4 b = lb at *
  have B1 := Lib.hid (((Blk.new w 24 (natsV .u64 la)).alloc (.cells (natsV .u64 lb).toArray 24)).alloc (.cells (natsV .u64 (zeros 4)).toArray 24))
  have B2 := Lib.hid ((Blk.new2 w (.cells (natsV .u64 la).toArray 24) 24 (natsV .u64 lb)).alloc (.cells (natsV .u64 (zeros 4)).toArray 24))
  have B3 := Lib.hid (Blk.new3 w (.cells (natsV .u64 la).toArray 24) (.cells (natsV .u64 lb).toArray 24) 24 (natsV .u64 (zeros 4)))
  have BEL := Lib.hid ((((Below.refl w.heap.size w).alloc (Nat.le_refl _) (.cells (natsV .u64 la).toArray 24)).alloc (by simp) (.cells (natsV .u64 lb).toArray 24)).alloc (by simp; omega) (.cells (natsV .u64 (zeros 4)).toArray 24))
  go_enter Try.func47, Try.ntmps47
  go_wp2_with fail
  go_loopw [9] (fun i wr => ∃ t : Nat, t ≤ 4 ∧ i = .int .i64 t ∧ Blk wr w.heap.size 24 (natsV .u64 la) ∧ Blk wr (w.heap.size + 1) 24 (natsV .u64 (lc.take t ++ lb.drop t)) ∧ Blk wr (w.heap.size + 1 + 1) 24 (natsV .u64 (zeros 4)) ∧ Below w.heap.size w wr) (fun i _ => 4 - (intOf i).toNat)
  case atStart => exact ⟨0, by omega, rfl, B1.out, B2.out, B3.out, BEL.out⟩
  case round =>
    clear B1 B2 B3 BEL
    obtain ⟨t, ht, rfl, k1, k2, k3, hbel⟩ := hrel
    have K1 := Lib.hid k1
    have K2 := Lib.hid k2
    have K3 := Lib.hid k3
    clear k1 k2 k3
    by_cases h5 : t < 4
    · as_aux_lemma =>
      have hti : (t : Int) < 4 := by omega
      have c2 := K2.out.nat t (by rw [mix_len lc lb t 4 LC.out LB.out ht]; exact h5)
      have hf := K2.out.free t
      have HX := Lib.hid (mix_get lc lb t 4 LC.out LB.out h5)
      rw [HX.out] at c2
      have HY := Lib.hid (HAT.out t h5)
      have HSET := Lib.hid (mix_set lc lb t 4 LC.out LB.out h5)
      generalize lb.getD t 0 = x at *
      generalize lc.getD t 0 = y at *
      have rx := u64_bn
      have rs : (if IntKind.u64.signed = true then (-1 : Int) else IntKind.u64.max) = IntKind.u64.max := rfl
      have n2 := K2.out.natSet (t) y
      rw [HSET.out] at n2
      have n1 := K1.out.other ⟨w.heap.size + 1, t, none⟩ (.int .u64 (y : Nat)) (by simp)
      have n3 := K3.out.other ⟨w.heap.size + 1, t, none⟩ (.int .u64 (y : Nat)) (by simp)
      have hb2 := hbel.setCell (p := ⟨w.heap.size + 1, t, none⟩) (by simp) (.int .u64 (y : Nat))
      rw [HY.out] at n1 n2 n3 hb2
      have N1 := Lib.hid n1
      have N2 := Lib.hid n2
      have N3 := Lib.hid n3
      clear n1 n2 n3 K1 K2 K3
      go_wp2_with fail
      go_roundw
      case rel => exact ⟨t + 1, by omega, by go_num, N1.out, N2.out, N3.out, hb2⟩
      case measure => simp [intOf]; omega
    · obtain rfl : t = 4 := by omega
      rw [show ((4 : Nat) : Int) = 4 from rfl]
      have LE := Lib.hid (show lc.take 4 ++ lb.drop 4 = lc by rw [List.take_of_length_le (by rw [LC.out]; decide), List.drop_of_length_le (by rw [LB.out]; decide), List.append_nil])
      rw [LE.out] at K2
      go_wp2_with (first | (refine ld24 rfl (.tmp 2) rfl w.heap.size rfl la K1.out LA.out ?_) | (refine ld24 rfl (.tmp 3) rfl (w.heap.size + 1) rfl lc K2.out LC.out ?_))
      refine (HC.out _).mono ?_
      rintro e w1 ⟨rfl, hb1⟩
      have J3 := Lib.hid ((K3.out.below' hb1).alloc (.cells (natsV .u64 (zeros 4)).toArray 24))
      have J4 := Lib.hid (Blk.new w1 24 (natsV .u64 (zeros 4)))
      have hbel1 := (hbel.trans (hb1.mono hbel.size)).alloc (Nat.le_trans hbel.size hb1.size) (.cells (natsV .u64 (zeros 4)).toArray 24)
      have hsz : w.heap.size + 1 + 1 < w1.heap.size := (K3.out.below' hb1).lt
      have HL0 := HL.out
      clear K1 K2 K3 hbel hb1
      have G3 := Lib.hid (J3.out.row (natsV .u64 ls).toArray (show w.heap.size + 1 + 1 ≠ w1.heap.size by omega))
      have G4 := Lib.hid (J4.out.setRow (natsV .u64 ls))
      have hbel2 := below_setRow' hbel1 (show w.heap.size ≤ w1.heap.size by omega) (natsV .u64 ls).toArray
      go_wp2_with (first | (refine st24 rfl (.tmp 7) (.tmp 23) rfl w1.heap.size rfl ls rfl LS.out (zeros 4) J4.out rfl ?_) | (refine ld24 rfl (.tmp 7) rfl w1.heap.size rfl ls G4.out LS.out ?_) | (refine st24 rfl (.tmp 4) (.tmp 25) rfl (w.heap.size + 1 + 1) rfl ls rfl LS.out (zeros 4) G3.out rfl ?_))
      have j := G3.out.setRow (natsV .u64 ls)
      have hb2 := below_setRow' hbel2 (show w.heap.size ≤ w.heap.size + 1 + 1 by omega) (natsV .u64 ls).toArray
      refine bodyPost_ret (v := .tuple #[.agg (natsV .u64 ls).toArray, .int .i64 (cc : Nat)]) ?_ rfl ⟨rfl, hb2⟩
      exact ret24x Try.results47 _ _ (w.heap.size + 1 + 1) ls _ rfl (congrArg (Value.int .i64) (show (1 : Int) - ((1 - cc : Nat) : Int) = ((cc : Nat) : Int) by omega)) j LS.out
end Go.Proofs.Ytfffmoolkgheaaa
namespace Go.Proofs.Ytfffmoolkgheaaa
open Go.RowKit
set_option linter.unusedVariables false
set_option linter.unusedSimpArgs false
theorem Rd16.set {w : World} {g n V : Nat} (h : Rd16 w g n V) (a : Addr) (v : Value) (hne : g ≠ a.block) : Rd16 (w.setCell a v) g n V := fun i hi => by
  rw [World.cell?_setCell_other w a ⟨g, i, none⟩ v (fun e => hne (by rw [e]))]; exact h i hi
theorem Rd16.lt {w : World} {g n V : Nat} (h : Rd16 w g n V) (hn : 0 < n) : g < w.heap.size := World.block_lt_of_cell? w _ (h 0 hn)
end Go.Proofs.Ytfffmoolkgheaaa
namespace Go.Proofs.Ytfffmoolkgheaaa
open Go.RowKit
set_option linter.unusedVariables false
set_option linter.unusedSimpArgs false
theorem cmpZ_self (a : Nat) : cmpZ a a = 0 := by unfold cmpZ; rw [if_neg (Nat.lt_irrefl a), if_pos rfl]
theorem cmpZ_lt {a b : Nat} (h : a < b) : cmpZ a b = -1 := if_pos h
theorem cmpZ_gt {a b : Nat} (h : b < a) : cmpZ a b = 1 := by unfold cmpZ; rw [if_neg (by omega), if_neg (by omega)]
set_option maxRecDepth 100000 in
set_option maxHeartbeats 800000 in
theorem Cmp_any (a b : Nat) (w : World) (ha : a < 2 ^ 256) (hb : b < 2 ^ 256) : Calls Try.prog 100 #[.agg (natsV .u64 (wds 4 a)).toArray, .agg (natsV .u64 (wds 4 b)).toArray] w fun e w' => e = .returned (.int .i64 (cmpZ a b)) ∧ Below w.heap.size w w' := by
  have HS := Lib.hid (fun w => Sub_any a b w ha hb)
  have LS := Lib.hid (wds_len 4 (a + 2 ^ 256 - b))
  have LA := Lib.hid (wds_len 4 a)
  have LB := Lib.hid (wds_len 4 b)
  have HI := wds_inj 4 a b ha hb
  have q := (fun w => eql24 (wds 4 a) (wds 4 b) LA.out LB.out w)
  rw [HI] at q
  clear HI
  generalize wds 4 (a + 2 ^ 256 - b) = ls at *
  generalize wds 4 a = la at *
  generalize wds 4 b = lb at *
  have B1 := Lib.hid ((Blk.new w 24 (natsV .u64 la)).alloc (.cells (natsV .u64 lb).toArray 24))
  have B2 := Lib.hid (Blk.new2 w (.cells (natsV .u64 la).toArray 24) 24 (natsV .u64 lb))
  have BEL := Lib.hid (((Below.refl w.heap.size w).alloc (Nat.le_refl _) (.cells (natsV .u64 la).toArray 24)).alloc (by simp) (.cells (natsV .u64 lb).toArray 24))
  have hbel := BEL.out
  by_cases hab : a = b
  · rw [decide_eq_true hab] at q
    subst hab
    rw [cmpZ_self]
    go_enter Try.func100, Try.ntmps100
    go_wp2_with (first | (refine ld24 rfl (.tmp 2) rfl w.heap.size rfl la B1.out LA.out ?_) | (refine ld24 rfl (.tmp 3) rfl (w.heap.size + 1) rfl lb B2.out LB.out ?_))
    go_ret
    exact ⟨rfl, hbel⟩
  · rw [decide_eq_false hab] at q
    by_cases hlt : a < b
    · rw [cmpZ_lt hlt]
      rw [show lt01 a b = 1 from if_pos hlt] at HS
      go_enter Try.func100, Try.ntmps100
      go_wp2_with (first | (refine ld24 rfl (.tmp 2) rfl w.heap.size rfl la B1.out LA.out ?_) | (refine ld24 rfl (.tmp 3) rfl (w.heap.size + 1) rfl lb B2.out LB.out ?_))
      refine (HS.out _).mono ?_
      rintro e w1 ⟨rfl, hb1⟩
      have hbel2 := below_setRow' ((hbel.trans (hb1.mono hbel.size)).alloc (Nat.le_trans hbel.size hb1.size) (.cells (natsV .u64 (zeros 4)).toArray 24)) (show w.heap.size ≤ w1.heap.size from Nat.le_trans hbel.size hb1.size |> Nat.le_trans (by simp)) (natsV .u64 ls).toArray
      have Z := Lib.hid (Blk.new w1 24 (natsV .u64 (zeros 4)))
      clear q
      go_wp2_with (refine st24 rfl (.tmp 5) (.tmp 14) rfl w1.heap.size rfl ls rfl LS.out (zeros 4) Z.out rfl ?_)
      go_ret
      exact ⟨rfl, hbel2⟩
    · rw [cmpZ_gt (show b < a by omega)]
      rw [show lt01 a b = 0 from if_neg hlt] at HS
      go_enter Try.func100, Try.ntmps100
      go_wp2_with (first | (refine ld24 rfl (.tmp 2) rfl w.heap.size rfl la B1.out LA.out ?_) | (refine ld24 rfl (.tmp 3) rfl (w.heap.size + 1) rfl lb B2.out LB.out ?_))
      refine (HS.out _).mono ?_
      rintro e w1 ⟨rfl, hb1⟩
      have hbel2 := below_setRow' ((hbel.trans (hb1.mono hbel.size)).alloc (Nat.le_trans hbel.size hb1.size) (.cells (natsV .u64 (zeros 4)).toArray 24)) (show w.heap.size ≤ w1.heap.size from Nat.le_trans hbel.size hb1.size |> Nat.le_trans (by simp)) (natsV .u64 ls).toArray
      have Z := Lib.hid (Blk.new w1 24 (natsV .u64 (zeros 4)))
      clear q
      go_wp2_with (refine st24 rfl (.tmp 5) (.tmp 14) rfl w1.heap.size rfl ls rfl LS.out (zeros 4) Z.out rfl ?_)
      go_ret
      exact ⟨rfl, hbel2⟩
theorem cmp_words {B a b s : Nat} (hB : 0 < B) (h : a / B ^ (s + 1) = b / B ^ (s + 1)) :
    (dgt B a s < dgt B b s → a < b) ∧ (dgt B b s < dgt B a s → b < a) ∧ (dgt B a s = dgt B b s → a / B ^ s = b / B ^ s) := by
  have hM := Nat.pow_pos (n := s) hB
  have e1 : ∀ v, v / B ^ (s + 1) = v / B ^ s / B := fun v => by rw [Nat.pow_succ, Nat.div_div_eq_div_mul]
  have key : ∀ u v, u / B ^ s / B = v / B ^ s / B → dgt B u s < dgt B v s → u < v := by
    intro u v he hd
    have h1 : u / B ^ s < v / B ^ s := by
      have h2 := Nat.mod_add_div (u / B ^ s) B
      have h3 := Nat.mod_add_div (v / B ^ s) B
      unfold dgt at hd
      rw [he] at h2
      omega
    have h4 := Nat.mod_add_div u (B ^ s)
    have h5 := Nat.mod_add_div v (B ^ s)
    have h6 := Nat.mod_lt u hM
    have h7 := Nat.mul_le_mul_left (B ^ s) (show u / B ^ s + 1 ≤ v / B ^ s from h1)
    rw [Nat.mul_add, Nat.mul_one] at h7
    have h8 := Nat.mod_lt v hM
    generalize B ^ s * (u / B ^ s) = P at *
    generalize B ^ s * (v / B ^ s) = Q at *
    generalize u % B ^ s = r at *
    generalize v % B ^ s = r2 at *
    generalize B ^ s = M at *
    clear he hd h1 e1 h
    omega
  rw [e1, e1] at h
  refine ⟨key a b h, key b a h.symm, fun hd => ?_⟩
  have h2 := Nat.mod_add_div (a / B ^ s) B
  have h3 := Nat.mod_add_div (b / B ^ s) B
  unfold dgt at hd
  rw [← h2, ← h3, hd, h]
end Go.Proofs.Ytfffmoolkgheaaa
