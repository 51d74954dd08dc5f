/- The functions of the numbers with a sign: the project's and the document's give one answer. -/
import Derived.Test.YtgoackkmjfgneaaProg
import Derived.WalkKit
import Derived.ProofKit
import Derived.Lib.Hide
import Derived.Handy
namespace Go.Proofs.Ytgoackkmjfgneaa
open Go.RowKit
set_option linter.unusedVariables false

theorem div_pow_zero {v b : Nat} (h : v < 2 ^ b) : ((v : Int) / 2 ^ b == 0) = true := by
  rw [beq_iff_eq]
  have : ((v / 2 ^ b : Nat) : Int) = 0 := by rw [Nat.div_eq_of_lt h]; rfl
  simpa using this
theorem div_pow_pos {v b : Nat} (h : 2 ^ b ≤ v) : ((v : Int) / 2 ^ b == 0) = false := by
  rw [beq_eq_false_iff_ne]
  have h1 : 0 < v / 2 ^ b := Nat.div_pos h (Nat.two_pow_pos b)
  have h2 : ((v / 2 ^ b : Nat) : Int) ≠ 0 := by omega
  simpa using h2

set_option maxHeartbeats 400000 in
theorem hasRoom_yes (v b : Nat) (hb : b ≤ 64) (w : World) (h : v < 2 ^ b) (hv : v ≤ 18446744073709551615) :
    Calls Try.prog 36 #[.int .u64 (v : Nat), .int .i64 (b : Nat)] w fun e w' => e = .returned (.bool true) ∧ w = w' := by
  have hd := div_pow_zero h
  clear h
  go_enter Try.func36, Try.ntmps36
  go_wp2
  go_ret
  exact ⟨rfl, rfl⟩
set_option maxHeartbeats 400000 in
theorem hasRoom_no (v b : Nat) (hb : b ≤ 64) (w : World) (h : 2 ^ b ≤ v) (hv : v ≤ 18446744073709551615) :
    Calls Try.prog 36 #[.int .u64 (v : Nat), .int .i64 (b : Nat)] w fun e w' => e = .returned (.bool false) ∧ w = w' := by
  have hd := div_pow_pos h
  clear h
  go_enter Try.func36, Try.ntmps36
  go_wp2
  go_ret
  exact ⟨rfl, rfl⟩
set_option maxHeartbeats 400000 in
theorem isWidth_yes (b : Int) (w : World) (h1 : 1 ≤ b) (h2 : b ≤ 64) :
    Calls Try.prog 39 #[.int .i64 b] w fun e w' => e = .returned (.bool true) ∧ w = w' := by
  go_enter Try.func39, Try.ntmps39
  go_wp2
  go_ret
  exact ⟨rfl, rfl⟩
set_option maxHeartbeats 400000 in
theorem isWidth_no (b : Int) (w : World) (h : b < 1 ∨ 64 < b) :
    Calls Try.prog 39 #[.int .i64 b] w fun e w' => e = .returned (.bool false) ∧ w = w' := by
  rcases h with h | h
  · go_enter Try.func39, Try.ntmps39
    go_wp2
    go_ret
    exact ⟨rfl, rfl⟩
  · have h1 : 1 ≤ b := by omega
    have h2 : decide (b ≤ 64) = false := by simpa using h
    go_enter Try.func39, Try.ntmps39
    go_wp2
    go_ret
    exact ⟨rfl, rfl⟩
set_option maxHeartbeats 400000 in
theorem power_any (x : Int) (b : Nat) (hx : x = (b : Nat)) (hb : b ≤ 63) (w : World) :
    Calls Try.prog 40 #[.int .i64 x] w fun e w' => e = .returned (.int .u64 ((2 ^ b : Nat) : Int)) ∧ w = w' := by
  subst hx
  go_enter Try.func40, Try.ntmps40
  go_wp2
  go_loop [3, 4] (fun p i => ∃ k : Nat, k ≤ b ∧ i = .int .i64 k ∧ p = .int .u64 ((2 ^ k : Nat) : Int)) (fun _ i => b - (intOf i).toNat)
  case atStart => exact ⟨0, Nat.zero_le _, rfl, rfl⟩
  case round =>
    obtain ⟨k, hk, rfl, rfl⟩ := hrel
    by_cases hlt : k < b
    · have hp : 2 ^ k ≤ 2 ^ 62 := Nat.pow_le_pow_right (by decide) (by omega)
      have hp2 : 2 ^ (k + 1) = 2 ^ k * 2 := Nat.pow_succ ..
      have H2 := Lib.hid hp2
      clear hp2
      generalize 2 ^ k = q at *
      go_wp2
      go_round
      case rel => exact ⟨k + 1, by omega, by go_num, by rw [H2.out]; go_num⟩
      case measure => simp [intOf]; omega
    · obtain rfl : k = b := by omega
      go_wp2
      go_ret
      exact ⟨rfl, rfl⟩

/-! ### Sign -/
set_option maxHeartbeats 400000 in
theorem sign26_arg (v : Int) (b : Int) (w : World) (h : b < 1 ∨ 64 < b) :
    Calls Try.prog 26 #[.int .u64 v, .int .i64 b] w fun e w' => e = .returned (.tuple #[.int .i64 0, .int .i64 1]) ∧ w = w' := by
  have H := Lib.hid h
  clear h
  go_enter Try.func26, Try.ntmps26
  go_wp2_with (go_at_call 39; refine (isWidth_no b _ H.out).mono ?_; rintro e w' ⟨rfl, rfl⟩)
  go_ret2
  exact ⟨rfl, rfl⟩
set_option maxHeartbeats 400000 in
theorem sign26_range (v b : Nat) (w : World) (h1 : 1 ≤ b) (h2 : b ≤ 64) (h : 2 ^ b ≤ v) (hv : v ≤ 18446744073709551615) :
    Calls Try.prog 26 #[.int .u64 (v : Nat), .int .i64 (b : Nat)] w fun e w' => e = .returned (.tuple #[.int .i64 0, .int .i64 12]) ∧ w = w' := by
  have H := Lib.hid h
  clear h
  go_enter Try.func26, Try.ntmps26
  go_wp2_with (first | (go_at_call 39; refine (isWidth_yes _ _ (by omega) (by omega)).mono ?_; rintro e w' ⟨rfl, rfl⟩) | (go_at_call 36; refine (hasRoom_no v b h2 _ H.out hv).mono ?_; rintro e w' ⟨rfl, rfl⟩))
  go_ret2
  exact ⟨rfl, rfl⟩
theorem div_pow_one {v c : Nat} (h1 : 2 ^ c ≤ v) (h2 : v < 2 ^ (c + 1)) : ((v : Int) / 2 ^ c == 1) = true := by
  rw [beq_iff_eq]
  have : v / 2 ^ c = 1 := by
    apply Nat.div_eq_of_lt_le <;> rw [Nat.pow_succ] at * <;> omega
  have : ((v / 2 ^ c : Nat) : Int) = 1 := by rw [this]; rfl
  simpa using this
theorem div_pow_not_one {v c : Nat} (h : v < 2 ^ c) : ((v : Int) / 2 ^ c == 1) = false := by
  rw [beq_eq_false_iff_ne]
  have : ((v / 2 ^ c : Nat) : Int) ≠ 1 := by rw [Nat.div_eq_of_lt h]; decide
  simpa using this

set_option maxHeartbeats 400000 in
theorem sign26_low (v c : Nat) (w : World) (h2 : c ≤ 63) (h : v < 2 ^ c) (hv : v ≤ 9223372036854775807) :
    Calls Try.prog 26 #[.int .u64 (v : Nat), .int .i64 ((c + 1 : Nat) : Int)] w fun e w' => e = .returned (.tuple #[.int .i64 v, .int .i64 0]) ∧ w = w' := by
  have hq := div_pow_not_one h
  have H := Lib.hid h
  clear h
  go_enter Try.func26, Try.ntmps26
  go_wp2_with (first | (go_at_call 39; refine (isWidth_yes _ _ (by omega) (by omega)).mono ?_; rintro e w' ⟨rfl, rfl⟩) | (go_at_call 36; refine (hasRoom_yes v (c + 1) (by omega) _ (by have := H.out; rw [Nat.pow_succ]; omega) (by omega)).mono ?_; rintro e w' ⟨rfl, rfl⟩))
  go_ret2
  exact ⟨rfl, rfl⟩
theorem ret2_congr {k1 k2 : IntKind} {a b c d : Int} (h1 : a = b) (h2 : c = d) : Ending.returned (.tuple #[.int k1 a, .int k2 c]) = .returned (.tuple #[.int k1 b, .int k2 d]) := by rw [h1, h2]
theorem two_pow_c {c : Nat} (h2 : c ≤ 63) : 1 ≤ 2 ^ c ∧ 2 ^ c ≤ 9223372036854775808 :=
  ⟨Nat.two_pow_pos c, Nat.pow_le_pow_right (n := 2) (by decide) h2⟩
theorem cast_pow (c : Nat) : (2 : Int) ^ c = ((2 ^ c : Nat) : Int) := by simp
theorem high_num {v c : Nat} (h2 : c ≤ 63) (h : 2 ^ c ≤ v) (h' : v < 2 ^ (c + 1)) : wrap64 (IntKind.u64.wrap ((v : Int) - IntKind.u64.wrap (2 ^ (c + 1)))) = (v : Int) - ((2 ^ (c + 1) : Nat) : Int) := by
  have hp := two_pow_c h2
  rw [cast_pow (c + 1)]
  rw [Nat.pow_succ] at h' ⊢
  generalize 2 ^ c = q at *
  unfold wrap64
  rw [IntKind.wrap_u64, IntKind.wrap_u64]
  omega

set_option maxHeartbeats 400000 in
theorem sign26_high (v c : Nat) (w : World) (h2 : c ≤ 63) (h : 2 ^ c ≤ v) (h' : v < 2 ^ (c + 1)) (hv : v ≤ 18446744073709551615) :
    Calls Try.prog 26 #[.int .u64 (v : Nat), .int .i64 ((c + 1 : Nat) : Int)] w fun e w' => e = .returned (.tuple #[.int .i64 ((v : Int) - ((2 ^ (c + 1) : Nat) : Int)), .int .i64 0]) ∧ w = w' := by
  have hq := div_pow_one h h'
  have HN := Lib.hid (high_num h2 h h')
  have H' := Lib.hid h'
  clear h h'
  go_enter Try.func26, Try.ntmps26
  go_wp2_with (first | (go_at_call 39; refine (isWidth_yes _ _ (by omega) (by omega)).mono ?_; rintro e w' ⟨rfl, rfl⟩) | (go_at_call 36; refine (hasRoom_yes v (c + 1) (by omega) _ H'.out (by omega)).mono ?_; rintro e w' ⟨rfl, rfl⟩))
  go_ret2
  exact ⟨ret2_congr HN.out rfl, rfl⟩

set_option maxHeartbeats 400000 in
theorem sign28_arg (v : Int) (b : Int) (w : World) (h : b < 1 ∨ 64 < b) :
    Calls Try.prog 28 #[.int .u64 v, .int .i64 b] w fun e w' => e = .returned (.tuple #[.int .i64 0, .int .i64 1]) ∧ w = w' := by
  rcases h with h | h
  · go_enter Try.func28, Try.ntmps28
    go_wp2
    go_ret2
    exact ⟨rfl, rfl⟩
  · have h1 : decide (b < 1) = false := by simp; omega
    go_enter Try.func28, Try.ntmps28
    go_wp2
    go_ret2
    exact ⟨rfl, rfl⟩
theorem power_q (x : Int) (b q : Nat) (hx : x = (b : Nat)) (hq : q = 2 ^ b) (hb : b ≤ 63) (w : World) :
    Calls Try.prog 40 #[.int .i64 x] w fun e w' => e = .returned (.int .u64 (q : Int)) ∧ w = w' := by
  subst hq; exact power_any x b hx hb w
set_option maxHeartbeats 400000 in
theorem sign28_range (v b : Nat) (w : World) (h1 : 1 ≤ b) (h2 : b ≤ 64) (h : 2 ^ b ≤ v) (hv : v ≤ 18446744073709551615) :
    Calls Try.prog 28 #[.int .u64 (v : Nat), .int .i64 (b : Nat)] w fun e w' => e = .returned (.tuple #[.int .i64 0, .int .i64 12]) ∧ w = w' := by
  have hb : b ≤ 63 := by
    rcases Nat.lt_or_ge 63 b with h3 | h3
    · obtain rfl : b = 64 := by omega
      have : (2 : Nat) ^ 64 = 18446744073709551616 := by decide
      omega
    · exact h3
  have hd1 : decide ((b : Int) < 1) = false := by simp; omega
  have hd2 : decide ((64 : Int) < b) = false := by simp; omega
  have hd3 : decide ((b : Int) < 64) = true := by simp; omega
  obtain ⟨q, hq⟩ : ∃ q, q = 2 ^ b := ⟨_, rfl⟩
  have HQ := Lib.hid hq
  rw [← hq] at h
  clear hq
  have hd4 : decide (q ≤ v) = true := by simpa using h
  go_enter Try.func28, Try.ntmps28
  go_wp2_with (go_at_call 40; refine (power_q _ b q rfl HQ.out hb _).mono ?_; rintro e w' ⟨rfl, rfl⟩)
  go_ret2
  exact ⟨rfl, rfl⟩
set_option maxHeartbeats 400000 in
theorem sign28_low (v c : Nat) (w : World) (h2 : c ≤ 63) (h : v < 2 ^ c) (hv : v ≤ 9223372036854775807) :
    Calls Try.prog 28 #[.int .u64 (v : Nat), .int .i64 ((c + 1 : Nat) : Int)] w fun e w' => e = .returned (.tuple #[.int .i64 v, .int .i64 0]) ∧ w = w' := by
  obtain ⟨q, hq⟩ : ∃ q, q = 2 ^ c := ⟨_, rfl⟩
  have HQ := Lib.hid hq
  rw [← hq] at h
  clear hq
  have hd4 : decide (v < q) = true := by simpa using h
  have hd5 : decide (q + q ≤ v) = false := by simp; omega
  by_cases hc : c < 63
  · go_enter Try.func28, Try.ntmps28
    go_wp2_with fail
    refine (power_q _ (c + 1) (q + q) (by omega) (by have := HQ.out; rw [this, Nat.pow_succ]; omega) (by omega) _).mono ?_
    rintro e w' ⟨rfl, rfl⟩
    go_wp2_with fail
    refine (power_q _ c q (by omega) HQ.out (by omega) _).mono ?_
    rintro e w' ⟨rfl, rfl⟩
    go_wp2
    go_ret2
    exact ⟨rfl, rfl⟩
  · go_enter Try.func28, Try.ntmps28
    go_wp2_with fail
    refine (power_q _ c q (by omega) HQ.out (by omega) _).mono ?_
    rintro e w' ⟨rfl, rfl⟩
    go_wp2
    go_ret2
    exact ⟨rfl, rfl⟩
set_option maxHeartbeats 400000 in
theorem sign28_high (v c : Nat) (w : World) (h2 : c ≤ 63) (h : 2 ^ c ≤ v) (h' : v < 2 ^ (c + 1)) (hv : v ≤ 18446744073709551615) :
    Calls Try.prog 28 #[.int .u64 (v : Nat), .int .i64 ((c + 1 : Nat) : Int)] w fun e w' => e = .returned (.tuple #[.int .i64 ((v : Int) - ((2 ^ (c + 1) : Nat) : Int)), .int .i64 0]) ∧ w = w' := by
  obtain ⟨q, hq⟩ : ∃ q, q = 2 ^ c := ⟨_, rfl⟩
  have HQ := Lib.hid hq
  have hp := two_pow_c h2
  rw [Nat.pow_succ] at h' ⊢
  rw [← hq] at h h' hp ⊢
  clear hq
  have hd4 : decide (v < q) = false := by simpa using h
  have hd5 : decide (q + q ≤ v) = false := by simp; omega
  by_cases hc : c < 63
  · go_enter Try.func28, Try.ntmps28
    go_wp2_with fail
    refine (power_q _ (c + 1) (q + q) (by omega) (by have := HQ.out; rw [this, Nat.pow_succ]; omega) (by omega) _).mono ?_
    rintro e w' ⟨rfl, rfl⟩
    go_wp2_with fail
    refine (power_q _ c q (by omega) HQ.out (by omega) _).mono ?_
    rintro e w' ⟨rfl, rfl⟩
    go_wp2
    go_ret2
    exact ⟨ret2_congr (by go_arith) rfl, rfl⟩
  · go_enter Try.func28, Try.ntmps28
    go_wp2_with fail
    refine (power_q _ c q (by omega) HQ.out (by omega) _).mono ?_
    rintro e w' ⟨rfl, rfl⟩
    go_wp2
    go_ret2
    exact ⟨ret2_congr (by go_arith) rfl, rfl⟩

/-! ### Narrow -/
theorem least_num {c q : Nat} (hq : q = 2 ^ c) (h2 : c ≤ 63) : wrap64 (-2 ^ c) = -(q : Int) := by
  have hp := two_pow_c h2
  rw [cast_pow c, ← hq]
  rw [← hq] at hp
  unfold wrap64; omega
set_option maxHeartbeats 400000 in
theorem narrow27_arg (n : Int) (b : Int) (w : World) (h : b < 1 ∨ 64 < b) :
    Calls Try.prog 27 #[.int .i64 n, .int .i64 b] w fun e w' => e = .returned (.tuple #[.int .u64 0, .int .i64 1]) ∧ w = w' := by
  have H := Lib.hid h
  clear h
  go_enter Try.func27, Try.ntmps27
  go_wp2_with (go_at_call 39; refine (isWidth_no b _ H.out).mono ?_; rintro e w' ⟨rfl, rfl⟩)
  go_ret2
  exact ⟨rfl, rfl⟩
set_option maxHeartbeats 400000 in
theorem narrow27_range (n : Int) (c q : Nat) (w : World) (h2 : c ≤ 63) (hq : q = 2 ^ c) (h : n < -(q : Int) ∨ (q : Int) ≤ n) (hn : -9223372036854775808 ≤ n) (hn' : n ≤ 9223372036854775807) :
    Calls Try.prog 27 #[.int .i64 n, .int .i64 ((c + 1 : Nat) : Int)] w fun e w' => e = .returned (.tuple #[.int .u64 0, .int .i64 12]) ∧ w = w' := by
  have hl := least_num hq h2
  have hp := two_pow_c h2
  rw [← hq] at hp
  clear hq
  rcases h with h | h
  · go_enter Try.func27, Try.ntmps27
    go_wp2_with (go_at_call 39; refine (isWidth_yes _ _ (by omega) (by omega)).mono ?_; rintro e w' ⟨rfl, rfl⟩)
    go_ret2
    exact ⟨rfl, rfl⟩
  · have hd : decide (n < -(q : Int)) = false := by simp; omega
    have hd' : decide (-(q : Int) ≤ n) = true := by simp; omega
    go_enter Try.func27, Try.ntmps27
    go_wp2_with (go_at_call 39; refine (isWidth_yes _ _ (by omega) (by omega)).mono ?_; rintro e w' ⟨rfl, rfl⟩)
    go_ret2
    exact ⟨rfl, rfl⟩
set_option maxHeartbeats 400000 in
theorem narrow27_pos (n : Int) (c q : Nat) (w : World) (h2 : c ≤ 63) (hq : q = 2 ^ c) (h0 : 0 ≤ n) (h : n < (q : Int)) (hn' : n ≤ 9223372036854775807) :
    Calls Try.prog 27 #[.int .i64 n, .int .i64 ((c + 1 : Nat) : Int)] w fun e w' => e = .returned (.tuple #[.int .u64 n, .int .i64 0]) ∧ w = w' := by
  have hl := least_num hq h2
  have hp := two_pow_c h2
  rw [← hq] at hp
  clear hq
  go_enter Try.func27, Try.ntmps27
  go_wp2_with (go_at_call 39; refine (isWidth_yes _ _ (by omega) (by omega)).mono ?_; rintro e w' ⟨rfl, rfl⟩)
  all_goals (go_ret2; exact ⟨rfl, rfl⟩)
theorem neg_num {n : Int} {c q : Nat} (h2 : c ≤ 63) (hq : q = 2 ^ c) (h0 : n < 0) (h : -(q : Int) ≤ n) :
    IntKind.u64.wrap (IntKind.u64.wrap n + IntKind.u64.wrap (2 ^ (c + 1))) = n + ((q * 2 : Nat) : Int) := by
  have hp := two_pow_c h2
  rw [cast_pow (c + 1), Nat.pow_succ, ← hq]
  rw [← hq] at hp
  rw [IntKind.wrap_u64, IntKind.wrap_u64, IntKind.wrap_u64]
  omega
set_option maxHeartbeats 400000 in
theorem narrow27_neg (n : Int) (c q : Nat) (w : World) (h2 : c ≤ 63) (hq : q = 2 ^ c) (h0 : n < 0) (h : -(q : Int) ≤ n) :
    Calls Try.prog 27 #[.int .i64 n, .int .i64 ((c + 1 : Nat) : Int)] w fun e w' => e = .returned (.tuple #[.int .u64 (n + ((q * 2 : Nat) : Int)), .int .i64 0]) ∧ w = w' := by
  have HN := Lib.hid (neg_num h2 hq h0 h)
  have hl := least_num hq h2
  have hp := two_pow_c h2
  rw [← hq] at hp
  clear hq
  go_enter Try.func27, Try.ntmps27
  go_wp2_with (go_at_call 39; refine (isWidth_yes _ _ (by omega) (by omega)).mono ?_; rintro e w' ⟨rfl, rfl⟩)
  go_ret2
  exact ⟨ret2_congr HN.out rfl, rfl⟩

set_option maxHeartbeats 400000 in
theorem narrow29_arg (n : Int) (b : Int) (w : World) (h : b < 1 ∨ 64 < b) :
    Calls Try.prog 29 #[.int .i64 n, .int .i64 b] w fun e w' => e = .returned (.tuple #[.int .u64 0, .int .i64 1]) ∧ w = w' := by
  rcases h with h | h
  · go_enter Try.func29, Try.ntmps29
    go_wp2
    go_ret2
    exact ⟨rfl, rfl⟩
  · have h1 : decide (b < 1) = false := by simp; omega
    go_enter Try.func29, Try.ntmps29
    go_wp2
    go_ret2
    exact ⟨rfl, rfl⟩
set_option maxHeartbeats 400000 in
theorem narrow29_range (n : Int) (c q : Nat) (w : World) (h2 : c ≤ 63) (hq : q = 2 ^ c) (h : n < -(q : Int) ∨ (q : Int) ≤ n) (hn : -9223372036854775808 ≤ n) (hn' : n ≤ 9223372036854775807) :
    Calls Try.prog 29 #[.int .i64 n, .int .i64 ((c + 1 : Nat) : Int)] w fun e w' => e = .returned (.tuple #[.int .u64 0, .int .i64 12]) ∧ w = w' := by
  have hp := two_pow_c h2
  rw [← hq] at hp
  have HQ := Lib.hid hq
  clear hq
  rcases h with h | h
  · have hd : decide ((0 : Int) ≤ n) = false := by simp; omega
    go_enter Try.func29, Try.ntmps29
    go_wp2_with (go_at_call 40; refine (power_q _ c q (by omega) HQ.out h2 _).mono ?_; rintro e w' ⟨rfl, rfl⟩)
    go_ret2
    exact ⟨rfl, rfl⟩
  · have hd : decide ((0 : Int) ≤ n) = true := by simp; omega
    go_enter Try.func29, Try.ntmps29
    go_wp2_with (go_at_call 40; refine (power_q _ c q (by omega) HQ.out h2 _).mono ?_; rintro e w' ⟨rfl, rfl⟩)
    go_ret2
    exact ⟨rfl, rfl⟩
set_option maxHeartbeats 400000 in
theorem narrow29_pos (n : Int) (c q : Nat) (w : World) (h2 : c ≤ 63) (hq : q = 2 ^ c) (h0 : 0 ≤ n) (h : n < (q : Int)) (hn' : n ≤ 9223372036854775807) :
    Calls Try.prog 29 #[.int .i64 n, .int .i64 ((c + 1 : Nat) : Int)] w fun e w' => e = .returned (.tuple #[.int .u64 n, .int .i64 0]) ∧ w = w' := by
  have hp := two_pow_c h2
  rw [← hq] at hp
  have HQ := Lib.hid hq
  clear hq
  go_enter Try.func29, Try.ntmps29
  go_wp2_with (go_at_call 40; refine (power_q _ c q (by omega) HQ.out h2 _).mono ?_; rintro e w' ⟨rfl, rfl⟩)
  go_ret2
  exact ⟨rfl, rfl⟩
set_option maxHeartbeats 400000 in
theorem narrow29_neg (n : Int) (c q : Nat) (w : World) (h2 : c ≤ 63) (hq : q = 2 ^ c) (h0 : n < 0) (h : -(q : Int) ≤ n) :
    Calls Try.prog 29 #[.int .i64 n, .int .i64 ((c + 1 : Nat) : Int)] w fun e w' => e = .returned (.tuple #[.int .u64 (n + ((q * 2 : Nat) : Int)), .int .i64 0]) ∧ w = w' := by
  have hp := two_pow_c h2
  rw [← hq] at hp
  have HQ := Lib.hid hq
  clear hq
  have hd : decide ((0 : Int) ≤ n) = false := by simp; omega
  go_enter Try.func29, Try.ntmps29
  go_wp2_with (go_at_call 40; refine (power_q _ c q (by omega) HQ.out h2 _).mono ?_; rintro e w' ⟨rfl, rfl⟩)
  go_ret2
  exact ⟨ret2_congr (by go_arith) rfl, rfl⟩
end Go.Proofs.Ytgoackkmjfgneaa
