/- How many bits a number has, by the project. Condition: 256 bits at the most. -/
import Derived.Test.YtfffmoolkgheaaaA
namespace Go.Proofs.Ytfffmoolkgheaaa
open Go.RowKit
set_option linter.unusedVariables false
set_option linter.unusedSimpArgs false
/-- the least n of which v is below 2^n -/
def bl (v : Nat) : Nat := if v = 0 then 0 else v.log2 + 1
theorem bl_zero : bl 0 = 0 := rfl
theorem bl_half (v : Nat) (h : v ≠ 0) : bl v = bl (v / 2) + 1 := by
  unfold bl
  rw [if_neg h]
  by_cases h2 : v / 2 = 0
  · have : v = 1 := by omega
    subst this; rfl
  · rw [if_neg h2]
    conv => lhs; rw [Nat.log2_def, if_pos (by omega)]
theorem bl_shift : ∀ (k x : Nat), x / 2 ^ k ≠ 0 → bl x = k + bl (x / 2 ^ k)
  | 0, x, _ => by simp
  | k + 1, x, h => by
    have e : x / 2 ^ (k + 1) = x / 2 / 2 ^ k := by rw [Nat.pow_succ, Nat.mul_comm, Nat.div_div_eq_div_mul]
    rw [e] at h ⊢
    have hx : x ≠ 0 := by rintro rfl; simp at h
    rw [bl_half x hx, bl_shift k (x / 2) h]; omega
theorem bl_le_iff : ∀ (n v : Nat), bl v ≤ n ↔ v < 2 ^ n
  | 0, v => by
    constructor
    · intro h
      by_cases h0 : v = 0
      · subst h0; simp
      · rw [bl_half v h0] at h; omega
    · intro h
      have : v = 0 := by simpa using h
      subst this; simp [bl]
  | n + 1, v => by
    by_cases h0 : v = 0
    · subst h0; simp [bl, Nat.two_pow_pos]
    · rw [bl_half v h0, Nat.add_le_add_iff_right, bl_le_iff n (v / 2), Nat.pow_succ]; omega
set_option maxHeartbeats 400000 in
theorem bitsOf_any (v : Nat) (w : World) (hv : v < 2 ^ 64) : Calls Try.prog 91 #[.int .u64 (v : Nat)] w fun e w' => e = .returned (.int .i64 (bl v : Nat)) ∧ w = w' := by
  have hbl := (bl_le_iff 64 v).2 hv
  obtain ⟨r, hr⟩ : ∃ r, r = bl v := ⟨_, rfl⟩
  rw [← hr] at hbl ⊢
  have HR := Lib.hid hr
  clear hr
  go_enter Try.func91, Try.ntmps91
  go_wp2_with fail
  go_loop [0, 3] (fun x n => ∃ q k : Nat, x = .int .u64 q ∧ n = .int .i64 k ∧ q < 2 ^ 64 ∧ r = k + bl q) (fun x _ => (intOf x).toNat)
  case atStart => exact ⟨v, 0, rfl, rfl, hv, by rw [HR.out]; simp⟩
  case round =>
    obtain ⟨q, k, rfl, rfl, hq, hrel⟩ := hrel
    by_cases h0 : q = 0
    · subst h0
      have hk : r = k := by rw [hrel, bl_zero]; rfl
      subst hk
      clear hrel
      go_wp2_with fail
      go_ret
      exact ⟨rfl, rfl⟩
    · have h1 : ((q : Int) != 0) = true := by simpa using h0
      have HB := Lib.hid (bl_half q h0)
      have HREL := Lib.hid hrel
      have hk : k ≤ 64 := by omega
      clear hrel
      go_wp2_with fail
      go_round
      case rel => exact ⟨q / 2, k + 1, by go_num, by go_num, by omega, by rw [HREL.out, HB.out]; omega⟩
      case measure => simp [intOf] <;> omega
theorem dgt_top (B x s : Nat) (hB : 0 < B) (h : x < B ^ (s + 1)) : dgt B x s = x / B ^ s := by
  unfold dgt
  rw [Nat.mod_eq_of_lt]
  rw [Nat.div_lt_iff_lt_mul (Nat.pow_pos hB), Nat.mul_comm, ← Nat.pow_succ]; exact h
theorem lt_of_top (B x s : Nat) (hB : 0 < B) (h : x / B ^ s = 0) : x < B ^ s := by
  rcases Nat.div_eq_zero_iff.1 h with h | h
  · have := Nat.pow_pos (n := s) hB; omega
  · exact h
set_option maxRecDepth 100000 in
set_option maxHeartbeats 400000 in
theorem Bits_any (x : Nat) (w : World) (hx : x < 2 ^ 256) : Calls Try.prog 49 #[.agg (natsV .u64 (wds 4 x)).toArray] w fun e w' => e = .returned (.int .i64 (bl x : Nat)) ∧ Below w.heap.size w w' := by
  have hbl := (bl_le_iff 256 x).2 hx
  obtain ⟨r, hr⟩ : ∃ r, r = bl x := ⟨_, rfl⟩
  rw [← hr] at hbl ⊢
  have HR := Lib.hid hr
  clear hr
  have LA := Lib.hid (wds_len 4 x)
  have AA := Lib.hid (wds_at 4 x)
  have HX4 : x < (2 ^ 64) ^ 4 := by rw [← Nat.pow_mul]; exact hx
  generalize wds 4 x = la at *
  have B1 := Lib.hid (Blk.new w 24 (natsV .u64 la))
  have BEL := Lib.hid ((Below.refl w.heap.size w).alloc (Nat.le_refl _) (.cells (natsV .u64 la).toArray 24))
  go_enter Try.func49, Try.ntmps49
  go_wp2_with fail
  go_loop [3] (fun i => ∃ t : Nat, t ≤ 4 ∧ i = .int .i64 ((t : Int) - 1) ∧ x < (2 ^ 64) ^ t) (fun i => (intOf i + 1).toNat)
  case atStart => exact ⟨4, by omega, rfl, HX4⟩
  case round =>
    obtain ⟨t, ht, rfl, hxt⟩ := hrel
    rcases t with _ | s
    · obtain rfl : x = 0 := by simpa using hxt
      rw [show ((0 : Nat) : Int) - 1 = -1 from rfl]
      have h0 : r = 0 := HR.out
      subst h0
      have hbel := BEL.out
      go_wp2_with fail
      go_ret
      exact ⟨rfl, hbel⟩
    · rw [show ((s + 1 : Nat) : Int) - 1 = (s : Int) by omega]
      have hs : s < 4 := by omega
      have hsi : (s : Int) < 4 := by omega
      have c0 := B1.out.nat s (by rw [LA.out]; exact hs)
      rw [AA.out s hs] at c0
      have HT := Lib.hid (dgt_top (2 ^ 64) x s (by decide) hxt)
      have HQ := dgt_lt (B := 2 ^ 64) (by decide) x s
      have HXT := Lib.hid hxt
      clear hxt
      generalize dgt (2 ^ 64) x s = q at *
      by_cases h0 : q = 0
      · subst h0
        have hlt := Lib.hid (lt_of_top (2 ^ 64) x s (by decide) HT.out.symm)
        go_wp2_with fail
        go_round
        case rel => exact ⟨s, by omega, rfl, hlt.out⟩
        case measure => simp [intOf] <;> omega
      · have h1 : ((q : Int) != 0) = true := by simpa using h0
        have HB := Lib.hid (show r = 64 * s + bl q by
          rw [HR.out, HT.out, ← Nat.pow_mul]
          exact bl_shift (64 * s) x (by rw [Nat.pow_mul, ← HT.out]; exact h0))
        have HBO := Lib.hid (fun w => bitsOf_any q w HQ)
        have hq2 := (bl_le_iff 64 q).2 HQ
        generalize bl q = bq at *
        have hbel := BEL.out
        go_wp2_with fail
        refine (HBO.out _).mono ?_
        rintro e w1 ⟨rfl, rfl⟩
        go_wp2_with fail
        go_ret
        exact ⟨ret1 (by rw [HB.out]; omega), hbel⟩
end Go.Proofs.Ytfffmoolkgheaaa
