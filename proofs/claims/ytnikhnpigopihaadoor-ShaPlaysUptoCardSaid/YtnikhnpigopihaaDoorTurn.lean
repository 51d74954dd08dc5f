/- The document's turn, cut, and xor of three turns. Condition: the word fits its bits. -/
import Derived.Test.YtnikhnpigopihaaDoorSmall
namespace Go.Proofs.YtnikhnpigopihaaDoor
open Go.RowKit
set_option linter.unusedVariables false
theorem u64_cast (p : Nat) (h : p < 2 ^ 64) : IntKind.u64.wrap (p : Int) = (p : Int) := by rw [IntKind.wrap_u64]; omega
set_option maxHeartbeats 400000 in
theorem turn_any (x n W : Nat) (hn : n < W) (h0 : 0 < n) (hW : W ≤ 64) (hx : x < 2 ^ W) (w : World) :
    Calls Tryd.prog 61 #[.int .u64 (x : Nat), .int .u64 (n : Nat), .int .u64 (W : Nat)] w fun e w' => e = .returned (.int .u64 (rot W n x : Nat)) ∧ w = w' := by
  have hx64 : x < 2 ^ 64 := Nat.lt_of_lt_of_le hx (Nat.pow_le_pow_right (by decide) hW)
  have hr := rot_lt (W := W) (n := n) (by omega) hx
  have hr64 : rot W n x < 2 ^ 64 := Nat.lt_of_lt_of_le hr (Nat.pow_le_pow_right (by decide) hW)
  have hp64 : 2 ^ n < 2 ^ 64 := Nat.pow_lt_pow_right (by decide) (by omega)
  have e1 : IntKind.u64.wrap (2 ^ n) = ((2 ^ n : Nat) : Int) := by rw [cast_pow]; exact u64_cast _ hp64
  have hp : 0 < 2 ^ n := Nat.two_pow_pos n
  have hrot : x / 2 ^ n + x % 2 ^ n * 2 ^ (W - n) = rot W n x := rfl
  have e5 : ((2 : Int) ^ (W - n)) = ((2 ^ (W - n) : Nat) : Int) := cast_pow _
  generalize 2 ^ n = p at *
  have e2 : min n 64 = n := by omega
  have e3 : min (W - n) 64 = W - n := by omega
  have d1 : (x : Int) / (p : Int) = ((x / p : Nat) : Int) := (Int.natCast_ediv x p).symm
  have d2 : (x : Int) % (p : Int) = ((x % p : Nat) : Int) := (Int.natCast_emod x p).symm
  have hd : x / p ≤ rot W n x := by rw [← hrot]; exact Nat.le_add_right _ _
  have hm : x % p * 2 ^ (W - n) ≤ rot W n x := by rw [← hrot]; exact Nat.le_add_left _ _
  have e6 : IntKind.u64.wrap (((x % p : Nat) : Int) * ((2 ^ (W - n) : Nat) : Int)) = ((x % p * 2 ^ (W - n) : Nat) : Int) := by
    rw [← Int.natCast_mul]; exact u64_cast _ (by omega)
  generalize x % p * 2 ^ (W - n) = m at *
  generalize x % p = lo at *
  generalize 2 ^ (W - n) = q at *
  generalize x / p = hi at *
  generalize rot W n x = r at *
  have e7 : IntKind.u64.wrap ((hi : Int) + (m : Int)) = (r : Int) := by rw [← Int.natCast_add, hrot]; exact u64_cast _ hr64
  have e8 : (hi : Int) + (m : Int) = (r : Int) := by omega
  have HR := Lib.hid hrot
  clear hrot
  have hpI : (p : Int) ≠ 0 := by omega
  go_enter Tryd.func61, Tryd.ntmps61
  go_wp2_with fail
  go_ret
  exact ⟨rfl, rfl⟩
set_option maxHeartbeats 400000 in
theorem cut_64 (x : Nat) (w : World) : Calls Tryd.prog 58 #[.int .u64 (x : Nat), .int .u64 64] w fun e w' => e = .returned (.int .u64 (x : Nat)) ∧ w = w' := by
  go_enter Tryd.func58, Tryd.ntmps58
  go_wp2_with fail
  go_ret
  exact ⟨rfl, rfl⟩
set_option maxHeartbeats 400000 in
theorem cut_32 (x : Nat) (w : World) : Calls Tryd.prog 58 #[.int .u64 (x : Nat), .int .u64 32] w fun e w' => e = .returned (.int .u64 (x % 4294967296 : Nat)) ∧ w = w' := by
  go_enter Tryd.func58, Tryd.ntmps58
  go_wp2_with fail
  go_ret
  exact ⟨ret1 (by simp), rfl⟩
theorem cut_any (W x : Nat) (hW : W = 32 ∨ W = 64) (hx : x < 2 ^ 64) (w : World) : Calls Tryd.prog 58 #[.int .u64 (x : Nat), .int .u64 (W : Nat)] w fun e w' => e = .returned (.int .u64 (x % 2 ^ W : Nat)) ∧ w = w' := by
  rcases hW with rfl | rfl
  · exact cut_32 x w
  · rw [Nat.mod_eq_of_lt hx]; exact cut_64 x w
set_option maxHeartbeats 400000 in
theorem three_turn (x W a b c : Nat) (hW : W ≤ 64) (ha : 0 < a ∧ a < W) (hb : 0 < b ∧ b < W) (hc : 0 < c ∧ c < W) (hx : x < 2 ^ W) (w : World) :
    Calls Tryd.prog 57 #[.int .u64 (x : Nat), .int .u64 (W : Nat), .int .u64 (a : Nat), .int .u64 (b : Nat), .int .u64 (c : Nat), .bool false] w
      fun e w' => e = .returned (.int .u64 (bx 64 (bx 64 (rot W a x) (rot W b x)) (rot W c x) : Nat)) ∧ w = w' := by
  have rx := u64_bx
  have A := Lib.hid (turn_any x a W ha.2 ha.1 hW hx)
  have B := Lib.hid (turn_any x b W hb.2 hb.1 hW hx)
  have C := Lib.hid (turn_any x c W hc.2 hc.1 hW hx)
  clear hW ha hb hc hx
  go_enter Tryd.func57, Tryd.ntmps57
  go_wp2_with fail
  refine (C.out _).mono ?_
  rintro e w' ⟨rfl, rfl⟩
  go_wp2_with fail
  refine (A.out _).mono ?_
  rintro e w' ⟨rfl, rfl⟩
  go_wp2_with fail
  refine (B.out _).mono ?_
  rintro e w' ⟨rfl, rfl⟩
  go_wp2_with fail
  go_ret
  exact ⟨rfl, rfl⟩
set_option maxHeartbeats 400000 in
theorem three_shift (x W a b c : Nat) (hW : W ≤ 64) (ha : 0 < a ∧ a < W) (hb : 0 < b ∧ b < W) (hc' : 0 < c ∧ c < W) (hx : x < 2 ^ W) (w : World) :
    Calls Tryd.prog 57 #[.int .u64 (x : Nat), .int .u64 (W : Nat), .int .u64 (a : Nat), .int .u64 (b : Nat), .int .u64 (c : Nat), .bool true] w
      fun e w' => e = .returned (.int .u64 (bx 64 (bx 64 (rot W a x) (rot W b x)) (shr c x) : Nat)) ∧ w = w' := by
  have rx := u64_bx
  have A := Lib.hid (turn_any x a W ha.2 ha.1 hW hx)
  have B := Lib.hid (turn_any x b W hb.2 hb.1 hW hx)
  have C := Lib.hid (turn_any x c W hc'.2 hc'.1 hW hx)
  have hc : c < 64 := by omega
  have hx64 : x < 2 ^ 64 := Nat.lt_of_lt_of_le hx (Nat.pow_le_pow_right (by decide) hW)
  have hp64 : 2 ^ c < 2 ^ 64 := Nat.pow_lt_pow_right (by decide) hc
  have e1 : IntKind.u64.wrap (2 ^ c) = ((2 ^ c : Nat) : Int) := by rw [cast_pow]; exact u64_cast _ hp64
  have hp : 0 < 2 ^ c := Nat.two_pow_pos c
  have hs := shr_eq c x
  have HS := Lib.hid hs
  clear hs hW ha hb hx hc'
  have hle : x / 2 ^ c ≤ x := Nat.div_le_self _ _
  generalize 2 ^ c = p at *
  have d1 : (x : Int) / (p : Int) = ((x / p : Nat) : Int) := (Int.natCast_ediv x p).symm
  generalize x / p = y at *
  have e2 : min c 64 = c := by omega
  have hpI : (p : Int) ≠ 0 := by omega
  go_enter Tryd.func57, Tryd.ntmps57
  go_wp2_with fail
  refine (C.out _).mono ?_
  rintro e w' ⟨rfl, rfl⟩
  go_wp2_with fail
  refine (A.out _).mono ?_
  rintro e w' ⟨rfl, rfl⟩
  go_wp2_with fail
  refine (B.out _).mono ?_
  rintro e w' ⟨rfl, rfl⟩
  go_wp2_with fail
  go_ret
  exact ⟨by rw [HS.out]; rfl, rfl⟩
end Go.Proofs.YtnikhnpigopihaaDoor
