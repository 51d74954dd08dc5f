/- A new list of words, all noughts; the document's turns by more bits than a word has. No condition. -/
import Derived.Test.YtnikhnpigopihaaDoorRefB
import Derived.Test.YtnikhnpigopihaaDoorTurn
import Derived.Deep.OwnRows
namespace Go.Proofs.YtnikhnpigopihaaDoor
open Go.RowKit
set_option linter.unusedVariables false
theorem info48m : (Tryd.prog.info? 48).map (fun i => (i.zero, i.size, i.bytes)) = some (some (.int .u64 0), 1, 8) := by kernel_rfl
theorem made_zeros (n : Nat) : madeCells #[Value.int .u64 0] n = (natsV .u64 (zeros n)).toArray := by
  apply Array.ext
  · simp [madeCells, natsV, zeros]
  · intro i h1 h2
    simp [madeCells, natsV, zeros, Nat.mod_one]
theorem mk_u64 (n : Nat) (hn : n ≤ 1000) (w : World) : (Instr.makeSlice 86 (.int .i64 (n : Int)) (.int .i64 (n : Int))).run Tryd.prog w = .ok (.slice (some ⟨w.heap.size, 0, none⟩) n n) (w.alloc (.cells (natsV .u64 (zeros n)).toArray 48)) := by
  rw [← made_zeros]
  exact run_make_row' 86 48 (.int .u64 0) 8 Tryd.underlying86 info48m rfl .i64 .i64 n (by omega) (by omega) w
theorem set_zero (m : List Nat) (n t : Nat) (hm : m.length = t) : (m ++ zeros n).set t 0 = m ++ zeros n := by
  subst hm
  rw [List.set_append_right (h := Nat.le_refl _), Nat.sub_self]
  cases n with
  | zero => rfl
  | succ n => rfl
theorem set_getD (l : List Nat) (t x : Nat) (h : t < l.length) : (l.set t x).getD t 0 = x := by
  rw [List.getD_eq_getElem?_getD, List.getElem?_set_self (by simpa using h)]; rfl
set_option maxHeartbeats 400000 in
/-- within 32 bits, turned by more than 32 -/
theorem turn_over (x n : Nat) (hn : 32 < n) (hn2 : n < 64) (hx : x < 2 ^ 32) (w : World) :
    Calls Tryd.prog 61 #[.int .u64 (x : Nat), .int .u64 (n : Nat), .int .u64 32] w fun e w' => e = .returned (.int .u64 0) ∧ w = w' := by
  have hp64 : 2 ^ n < 2 ^ 64 := Nat.pow_lt_pow_right (by decide) (by omega)
  have hp32 : 2 ^ 32 < 2 ^ n := Nat.pow_lt_pow_right (by decide) hn
  have e1 : IntKind.u64.wrap (2 ^ n) = ((2 ^ n : Nat) : Int) := by rw [cast_pow]; exact u64_cast _ hp64
  generalize 2 ^ n = p at *
  have d1 : (x : Int) / (p : Int) = 0 := Int.ediv_eq_zero_of_lt (by omega) (by omega)
  have e2 : min n 64 = n := by omega
  have hpI : (p : Int) ≠ 0 := by omega
  go_enter Tryd.func61, Tryd.ntmps61
  go_wp2_with fail
  go_ret
  have e3 : min (IntKind.u64.wrap (32 - (n : Int))).toNat 64 = 64 := by
    have : IntKind.u64.wrap (32 - (n : Int)) = 32 - (n : Int) + 18446744073709551616 := by rw [IntKind.wrap_u64]; omega
    rw [this]; omega
  refine ⟨ret1 ?_, rfl⟩
  rw [e3, IntKind.wrap_u64, IntKind.wrap_u64]
  omega
theorem u64_sum (x y : Nat) : IntKind.u64.wrap ((x : Int) + (y : Int)) = (((x + y) % 2 ^ 64 : Nat) : Int) := by rw [IntKind.wrap_u64]; omega
theorem cut32_is (x z : Nat) (h : x % 2 ^ 32 = z) (hx : x < 2 ^ 64) (w : World) : Calls Tryd.prog 58 #[.int .u64 (x : Nat), .int .u64 32] w fun e w' => e = .returned (.int .u64 (z : Nat)) ∧ w = w' := by
  subst h; exact cut_32 x w
theorem cut64_is (x z : Nat) (h : x % 2 ^ 64 = z) (hx : x < 2 ^ 64) (w : World) : Calls Tryd.prog 58 #[.int .u64 (x : Nat), .int .u64 64] w fun e w' => e = .returned (.int .u64 (z : Nat)) ∧ w = w' := by
  rw [Nat.mod_eq_of_lt hx] at h; subst h; exact cut_64 x w
theorem tri_s (x z W a b c : Nat) (V A B C : Int) (hW : W ≤ 64) (hx : x < 2 ^ W) (ha : 0 < a ∧ a < W) (hb : 0 < b ∧ b < W) (hc : 0 < c ∧ c < W) (e : V = W ∧ A = a ∧ B = b ∧ C = c) (hz : bx 64 (bx 64 (rot W a x) (rot W b x)) (shr c x) = z) (w : World) :
    Calls Tryd.prog 57 #[.int .u64 (x : Nat), .int .u64 V, .int .u64 A, .int .u64 B, .int .u64 C, .bool true] w fun e w' => e = .returned (.int .u64 (z : Nat)) ∧ w = w' := by
  obtain ⟨rfl, rfl, rfl, rfl⟩ := e; subst hz; exact three_shift x W a b c hW ha hb hc hx w
theorem tri_t (x z W a b c : Nat) (V A B C : Int) (hW : W ≤ 64) (hx : x < 2 ^ W) (ha : 0 < a ∧ a < W) (hb : 0 < b ∧ b < W) (hc : 0 < c ∧ c < W) (e : V = W ∧ A = a ∧ B = b ∧ C = c) (hz : bx 64 (bx 64 (rot W a x) (rot W b x)) (rot W c x) = z) (w : World) :
    Calls Tryd.prog 57 #[.int .u64 (x : Nat), .int .u64 V, .int .u64 A, .int .u64 B, .int .u64 C, .bool false] w fun e w' => e = .returned (.int .u64 (z : Nat)) ∧ w = w' := by
  obtain ⟨rfl, rfl, rfl, rfl⟩ := e; subst hz; exact three_turn x W a b c hW ha hb hc hx w
theorem call_smE32 (x : Nat) (hx : x < 2 ^ 32) (w : World) : Calls Tryd.prog 57 #[.int .u64 (x : Nat), .int .u64 32, .int .u64 17, .int .u64 19, .int .u64 10, .bool true] w fun e w' => e = .returned (.int .u64 (smE 32 x : Nat)) ∧ w = w' :=
  tri_s x _ 32 17 19 10 32 17 19 10 (by decide) hx (by decide) (by decide) (by decide) ⟨rfl, rfl, rfl, rfl⟩ (ref_smE32 x hx) w
theorem call_smA32 (x : Nat) (hx : x < 2 ^ 32) (w : World) : Calls Tryd.prog 57 #[.int .u64 (x : Nat), .int .u64 32, .int .u64 7, .int .u64 18, .int .u64 3, .bool true] w fun e w' => e = .returned (.int .u64 (smA 32 x : Nat)) ∧ w = w' :=
  tri_s x _ 32 7 18 3 32 7 18 3 (by decide) hx (by decide) (by decide) (by decide) ⟨rfl, rfl, rfl, rfl⟩ (ref_smA32 x hx) w
theorem call_smE64 (x : Nat) (hx : x < 2 ^ 64) (w : World) : Calls Tryd.prog 57 #[.int .u64 (x : Nat), .int .u64 64, .int .u64 19, .int .u64 61, .int .u64 6, .bool true] w fun e w' => e = .returned (.int .u64 (smE 64 x : Nat)) ∧ w = w' :=
  tri_s x _ 64 19 61 6 64 19 61 6 (by decide) hx (by decide) (by decide) (by decide) ⟨rfl, rfl, rfl, rfl⟩ (ref_smE64 x) w
theorem call_smA64 (x : Nat) (hx : x < 2 ^ 64) (w : World) : Calls Tryd.prog 57 #[.int .u64 (x : Nat), .int .u64 64, .int .u64 1, .int .u64 8, .int .u64 7, .bool true] w fun e w' => e = .returned (.int .u64 (smA 64 x : Nat)) ∧ w = w' :=
  tri_s x _ 64 1 8 7 64 1 8 7 (by decide) hx (by decide) (by decide) (by decide) ⟨rfl, rfl, rfl, rfl⟩ (ref_smA64 x) w
theorem call_jE64 (x : Nat) (hx : x < 2 ^ 64) (w : World) : Calls Tryd.prog 57 #[.int .u64 (x : Nat), .int .u64 64, .int .u64 17, .int .u64 19, .int .u64 10, .bool true] w fun e w' => (∃ v : Nat, e = .returned (.int .u64 (v : Nat))) ∧ w = w' :=
  (tri_s x _ 64 17 19 10 64 17 19 10 (by decide) hx (by decide) (by decide) (by decide) ⟨rfl, rfl, rfl, rfl⟩ rfl w).mono fun _ _ h => ⟨⟨_, h.1⟩, h.2⟩
theorem call_jA64 (x : Nat) (hx : x < 2 ^ 64) (w : World) : Calls Tryd.prog 57 #[.int .u64 (x : Nat), .int .u64 64, .int .u64 7, .int .u64 18, .int .u64 3, .bool true] w fun e w' => (∃ v : Nat, e = .returned (.int .u64 (v : Nat))) ∧ w = w' :=
  (tri_s x _ 64 7 18 3 64 7 18 3 (by decide) hx (by decide) (by decide) (by decide) ⟨rfl, rfl, rfl, rfl⟩ rfl w).mono fun _ _ h => ⟨⟨_, h.1⟩, h.2⟩
theorem call_bigE32 (x : Nat) (hx : x < 2 ^ 32) (w : World) : Calls Tryd.prog 57 #[.int .u64 (x : Nat), .int .u64 32, .int .u64 6, .int .u64 11, .int .u64 25, .bool false] w fun e w' => e = .returned (.int .u64 (bigE 32 x : Nat)) ∧ w = w' :=
  tri_t x _ 32 6 11 25 32 6 11 25 (by decide) hx (by decide) (by decide) (by decide) ⟨rfl, rfl, rfl, rfl⟩ (ref_bigE32 x hx) w
theorem call_bigA32 (x : Nat) (hx : x < 2 ^ 32) (w : World) : Calls Tryd.prog 57 #[.int .u64 (x : Nat), .int .u64 32, .int .u64 2, .int .u64 13, .int .u64 22, .bool false] w fun e w' => e = .returned (.int .u64 (bigA 32 x : Nat)) ∧ w = w' :=
  tri_t x _ 32 2 13 22 32 2 13 22 (by decide) hx (by decide) (by decide) (by decide) ⟨rfl, rfl, rfl, rfl⟩ (ref_bigA32 x hx) w
theorem call_bigE64 (x : Nat) (hx : x < 2 ^ 64) (w : World) : Calls Tryd.prog 57 #[.int .u64 (x : Nat), .int .u64 64, .int .u64 14, .int .u64 18, .int .u64 41, .bool false] w fun e w' => e = .returned (.int .u64 (bigE 64 x : Nat)) ∧ w = w' :=
  tri_t x _ 64 14 18 41 64 14 18 41 (by decide) hx (by decide) (by decide) (by decide) ⟨rfl, rfl, rfl, rfl⟩ (ref_bigE64 x) w
theorem call_bigA64 (x : Nat) (hx : x < 2 ^ 64) (w : World) : Calls Tryd.prog 57 #[.int .u64 (x : Nat), .int .u64 64, .int .u64 28, .int .u64 34, .int .u64 39, .bool false] w fun e w' => e = .returned (.int .u64 (bigA 64 x : Nat)) ∧ w = w' :=
  tri_t x _ 64 28 34 39 64 28 34 39 (by decide) hx (by decide) (by decide) (by decide) ⟨rfl, rfl, rfl, rfl⟩ (ref_bigA64 x) w
theorem turn_lit (x n W : Nat) (A V : Int) (e : A = n ∧ V = W) (hn : n < W) (h0 : 0 < n) (hW : W ≤ 64) (hx : x < 2 ^ W) (w : World) : Calls Tryd.prog 61 #[.int .u64 (x : Nat), .int .u64 A, .int .u64 V] w fun e w' => (∃ v : Nat, e = .returned (.int .u64 (v : Nat))) ∧ w = w' := by
  obtain ⟨rfl, rfl⟩ := e; exact (turn_any x n W hn h0 hW hx w).mono fun _ _ h => ⟨⟨_, h.1⟩, h.2⟩
theorem over_lit (x n : Nat) (A : Int) (e : A = n) (hn : 32 < n) (hn2 : n < 64) (hx : x < 2 ^ 32) (w : World) : Calls Tryd.prog 61 #[.int .u64 (x : Nat), .int .u64 A, .int .u64 32] w fun e w' => (∃ v : Nat, e = .returned (.int .u64 (v : Nat))) ∧ w = w' := by
  subst e; exact (turn_over x n hn hn2 hx w).mono fun _ _ h => ⟨⟨0, h.1⟩, h.2⟩
/-- some word -/
def SomeW (w : World) (e : Ending) (w' : World) : Prop := (∃ v : Nat, e = .returned (.int .u64 (v : Nat))) ∧ w = w'
set_option maxHeartbeats 400000 in
theorem call_j1 (x : Nat) (hx : x < 2 ^ 32) (w : World) : Calls Tryd.prog 57 #[.int .u64 (x : Nat), .int .u64 32, .int .u64 14, .int .u64 18, .int .u64 41, .bool false] w (SomeW w) := by
  have rx := u64_bx
  have A := Lib.hid (turn_lit x 14 32 14 32 ⟨rfl, rfl⟩ (by decide) (by decide) (by decide) hx)
  have B := Lib.hid (turn_lit x 18 32 18 32 ⟨rfl, rfl⟩ (by decide) (by decide) (by decide) hx)
  have C := Lib.hid (over_lit x 41 41 rfl (by decide) (by decide) hx)
  clear hx
  go_enter Tryd.func57, Tryd.ntmps57
  go_wp2_with fail
  refine (C.out _).mono ?_
  rintro e w' ⟨⟨v, rfl⟩, rfl⟩
  go_wp2_with fail
  refine (A.out _).mono ?_
  rintro e w' ⟨⟨v, rfl⟩, rfl⟩
  go_wp2_with fail
  refine (B.out _).mono ?_
  rintro e w' ⟨⟨v, rfl⟩, rfl⟩
  go_wp2_with fail
  go_ret
  exact ⟨⟨_, rfl⟩, rfl⟩
set_option maxHeartbeats 400000 in
theorem call_j2 (x : Nat) (hx : x < 2 ^ 32) (w : World) : Calls Tryd.prog 57 #[.int .u64 (x : Nat), .int .u64 32, .int .u64 28, .int .u64 34, .int .u64 39, .bool false] w (SomeW w) := by
  have rx := u64_bx
  have A := Lib.hid (turn_lit x 28 32 28 32 ⟨rfl, rfl⟩ (by decide) (by decide) (by decide) hx)
  have B := Lib.hid (over_lit x 34 34 rfl (by decide) (by decide) hx)
  have C := Lib.hid (over_lit x 39 39 rfl (by decide) (by decide) hx)
  clear hx
  go_enter Tryd.func57, Tryd.ntmps57
  go_wp2_with fail
  refine (C.out _).mono ?_
  rintro e w' ⟨⟨v, rfl⟩, rfl⟩
  go_wp2_with fail
  refine (A.out _).mono ?_
  rintro e w' ⟨⟨v, rfl⟩, rfl⟩
  go_wp2_with fail
  refine (B.out _).mono ?_
  rintro e w' ⟨⟨v, rfl⟩, rfl⟩
  go_wp2_with fail
  go_ret
  exact ⟨⟨_, rfl⟩, rfl⟩
theorem built66n (a b c d e f g h : Nat) : Tryd.prog.built 66 [(0, .int .u64 (a : Nat)), (1, .int .u64 (b : Nat)), (2, .int .u64 (c : Nat)), (3, .int .u64 (d : Nat)), (4, .int .u64 (e : Nat)), (5, .int .u64 (f : Nat)), (6, .int .u64 (g : Nat)), (7, .int .u64 (h : Nat))] = some (natsV .u64 [a, b, c, d, e, f, g, h]).toArray := built66 a b c d e f g h
theorem size8 (k : IntKind) (a b c d e f g h : Nat) : (natsV k [a, b, c, d, e, f, g, h]).toArray.size = 8 := rfl
theorem zip_swap (W : Nat) (a b : List Nat) : List.zipWith (add W) a b = List.zipWith (add W) b a := by
  rw [List.zipWith_comm]; congr 1; funext x y; exact add_swap W y x
end Go.Proofs.YtnikhnpigopihaaDoor
