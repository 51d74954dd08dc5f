/- Digits of naturals to any base, and the carries of schoolbook sums, differences and products. No condition. -/
import Derived.Test.YtfffmoolkgheaaaMem
namespace Go.Proofs.Ytfffmoolkgheaaa
set_option linter.unusedVariables false

/-- digit i of v to the base B -/
def dgt (B v i : Nat) : Nat := v / B ^ i % B
/-- what digits stand for, the lowest first -/
def val (B : Nat) : List Nat → Nat
  | [] => 0
  | x :: l => x + B * val B l
/-- the lowest n words of v -/
def wds (n v : Nat) : List Nat := tell (dgt (2 ^ 64) v) n
theorem dgt_lt {B : Nat} (hB : 0 < B) (v i : Nat) : dgt B v i < B := Nat.mod_lt _ hB
theorem mod_pow_succ (B v k : Nat) : v % B ^ (k + 1) = v % B ^ k + B ^ k * dgt B v k := by
  rw [Nat.pow_succ, Nat.mod_mul]; rfl
theorem tell_zero (f : Nat → Nat) : tell f 0 = [] := rfl
theorem tell_getD (f : Nat → Nat) (n i : Nat) (h : i < n) : (tell f n).getD i 0 = f i := by
  simp [tell, List.getD_eq_getElem?_getD, List.getElem?_map, List.getElem?_range h]
theorem val_append (B : Nat) (a b : List Nat) : val B (a ++ b) = val B a + B ^ a.length * val B b := by
  induction a with
  | nil => simp [val]
  | cons x l ih => simp only [List.cons_append, val, ih, List.length_cons, Nat.pow_succ]; rw [Nat.mul_add, Nat.add_assoc, Nat.mul_comm (B ^ l.length) B, Nat.mul_assoc]
theorem val_tell (B v n : Nat) : val B (tell (dgt B v) n) = v % B ^ n := by
  induction n with
  | zero => simp [tell_zero, val, Nat.mod_one]
  | succ n ih => rw [tell_succ, val_append, ih, tell_length, mod_pow_succ]; simp [val]
theorem val_lt {B : Nat} : ∀ (l : List Nat), (∀ x ∈ l, x < B) → val B l < B ^ l.length
  | [], _ => by simp [val]
  | x :: l, h => by
    have h1 := val_lt l (fun y hy => h y (by simp [hy]))
    have h2 := h x (by simp)
    simp only [val, List.length_cons, Nat.pow_succ]
    have : B * (val B l + 1) ≤ B * B ^ l.length := Nat.mul_le_mul_left _ h1
    rw [Nat.mul_add, Nat.mul_one] at this
    rw [Nat.mul_comm (B ^ l.length)]; omega
theorem dgt_zero (B v : Nat) : dgt B v 0 = v % B := by simp [dgt]
theorem dgt_succ (B v i : Nat) : dgt B v (i + 1) = dgt B (v / B) i := by
  simp only [dgt, Nat.pow_succ, Nat.mul_comm (B ^ i) B, ← Nat.div_div_eq_div_mul]
theorem tell_cons (f : Nat → Nat) (n : Nat) : tell f (n + 1) = f 0 :: tell (fun i => f (i + 1)) n := by
  simp [tell, List.range_succ_eq_map, List.map_map, Function.comp_def]
theorem tell_congr {f g : Nat → Nat} {n : Nat} (h : ∀ i, i < n → f i = g i) : tell f n = tell g n := by
  unfold tell; exact List.map_congr_left fun i hi => h i (List.mem_range.1 hi)
theorem tell_val {B : Nat} (hB : 0 < B) : ∀ (l : List Nat), (∀ x ∈ l, x < B) → tell (dgt B (val B l)) l.length = l
  | [], _ => rfl
  | x :: l, h => by
    have ih := tell_val hB l (fun y hy => h y (by simp [hy]))
    have h2 := h x (by simp)
    rw [List.length_cons, tell_cons, dgt_zero]
    have e1 : val B (x :: l) % B = x := by simp only [val]; rw [Nat.add_mul_mod_self_left, Nat.mod_eq_of_lt h2]
    have e2 : val B (x :: l) / B = val B l := by simp only [val]; rw [Nat.add_mul_div_left _ _ hB, Nat.div_eq_of_lt h2, Nat.zero_add]
    rw [e1]
    congr 1
    refine (tell_congr (g := dgt B (val B l)) fun i _ => ?_).trans ih
    rw [dgt_succ, e2]
theorem tell_mod (B v n m : Nat) (h : n ≤ m) : tell (dgt B (v % B ^ m)) n = tell (dgt B v) n := by
  refine tell_congr fun i hi => ?_
  unfold dgt
  obtain ⟨d, rfl⟩ : ∃ d, m = i + 1 + d := ⟨m - (i + 1), by omega⟩
  have e : B ^ (i + 1 + d) = B ^ i * (B * B ^ d) := by rw [Nat.pow_add, Nat.pow_succ, Nat.mul_assoc]
  rw [e, Nat.mod_mul_right_div_self, Nat.mod_mul_right_mod]
theorem tell_inj (B a b n : Nat) (ha : a < B ^ n) (hb : b < B ^ n) (h : tell (dgt B a) n = tell (dgt B b) n) : a = b := by
  have := val_tell B a n
  rw [h, val_tell, Nat.mod_eq_of_lt ha, Nat.mod_eq_of_lt hb] at this
  exact this.symm
theorem wds_len (n v : Nat) : (wds n v).length = n := tell_length _ _
theorem wds_lt (n v : Nat) : ∀ x ∈ wds n v, x < 2 ^ 64 := tell_lt _ _ (fun i => dgt_lt (by decide) v i) n
theorem wds_at (n v i : Nat) (h : i < n) : (wds n v).getD i 0 = dgt (2 ^ 64) v i := tell_getD _ _ _ h
theorem wds_of (l : List Nat) (h : ∀ x ∈ l, x < 2 ^ 64) : wds l.length (val (2 ^ 64) l) = l := tell_val (by decide) l h
theorem wds_inj (n a b : Nat) (ha : a < 2 ^ (64 * n)) (hb : b < 2 ^ (64 * n)) : decide (wds n a = wds n b) = decide (a = b) := by
  rw [decide_eq_decide]
  exact ⟨fun h => tell_inj (2 ^ 64) a b n (by rwa [← Nat.pow_mul]) (by rwa [← Nat.pow_mul]) h, fun h => by rw [h]⟩
theorem wds_mod (n m v : Nat) (h : n ≤ m) : wds n (v % 2 ^ (64 * m)) = wds n v := by
  have := tell_mod (2 ^ 64) v n m h
  rwa [← Nat.pow_mul] at this

/-- the carry of a sum at digit k -/
def cyA (B a b c k : Nat) : Nat := (a % B ^ k + b % B ^ k + c) / B ^ k
theorem cyA_zero (B a b c : Nat) : cyA B a b c 0 = c := by simp [cyA, Nat.mod_one]
theorem cyA_succ {B : Nat} (hB : 0 < B) (a b c k : Nat) : cyA B a b c (k + 1) = (dgt B a k + dgt B b k + cyA B a b c k) / B := by
  have hM : 0 < B ^ k := Nat.pow_pos hB
  unfold cyA
  rw [mod_pow_succ, mod_pow_succ, Nat.pow_succ, ← Nat.div_div_eq_div_mul]
  congr 1
  have : a % B ^ k + B ^ k * dgt B a k + (b % B ^ k + B ^ k * dgt B b k) + c = (a % B ^ k + b % B ^ k + c) + B ^ k * (dgt B a k + dgt B b k) := by rw [Nat.mul_add]; omega
  rw [this, Nat.add_mul_div_left _ _ hM]; omega
theorem dgt_sum {B : Nat} (hB : 0 < B) (a b c k : Nat) : dgt B (a + b + c) k = (dgt B a k + dgt B b k + cyA B a b c k) % B := by
  have hM : 0 < B ^ k := Nat.pow_pos hB
  have e : a + b + c = (a % B ^ k + b % B ^ k + c) + B ^ k * (a / B ^ k + b / B ^ k) := by
    have h1 := Nat.mod_add_div a (B ^ k)
    have h2 := Nat.mod_add_div b (B ^ k)
    rw [Nat.mul_add]; omega
  unfold dgt cyA
  rw [e, Nat.add_mul_div_left _ _ hM]
  conv => lhs; rw [Nat.add_comm, Nat.add_mod, Nat.add_mod (a / B ^ k)]
  conv => rhs; rw [Nat.add_mod]
theorem cyA_le {B : Nat} (hB : 0 < B) (a b c k : Nat) (hc : c ≤ 1) : cyA B a b c k ≤ 1 := by
  have hM : 0 < B ^ k := Nat.pow_pos hB
  have h1 := Nat.mod_lt a hM
  have h2 := Nat.mod_lt b hM
  unfold cyA
  rw [← Nat.lt_succ_iff, Nat.div_lt_iff_lt_mul hM]
  omega
theorem cyA_top {B a b c n : Nat} (ha : a < B ^ n) (hb : b < B ^ n) : cyA B a b c n = (a + b + c) / B ^ n := by
  unfold cyA; rw [Nat.mod_eq_of_lt ha, Nat.mod_eq_of_lt hb]

theorem tb63 (x : Nat) (h : x < 2 ^ 64) : x / 2 ^ 63 = (x.testBit 63).toNat := by
  rw [Nat.testBit_eq_decide_div_mod_eq]
  have : x / 2 ^ 63 < 2 := by rw [Nat.div_lt_iff_lt_mul (by decide)]; omega
  have h2 : x / 2 ^ 63 = 0 ∨ x / 2 ^ 63 = 1 := by omega
  rcases h2 with h2 | h2 <;> simp [h2]
/-- the highest bits of two summands and of the sum tell the carry -/
theorem carry_bits (a b c : Nat) (ha : a < 2 ^ 64) (hb : b < 2 ^ 64) (hc : c ≤ 1) :
    ((a &&& b) ||| ((a ||| b) &&& (2 ^ 64 - 1 - (a + b + c) % 2 ^ 64))) / 2 ^ 63 = (a + b + c) / 2 ^ 64 := by
  have h1 : (a &&& b) < 2 ^ 64 := Nat.and_lt_two_pow _ hb
  have h2 : (a ||| b) < 2 ^ 64 := Nat.or_lt_two_pow ha hb
  have h3 : ((a ||| b) &&& (2 ^ 64 - 1 - (a + b + c) % 2 ^ 64)) < 2 ^ 64 := Nat.lt_of_le_of_lt Nat.and_le_left h2
  have h4 : ((a &&& b) ||| ((a ||| b) &&& (2 ^ 64 - 1 - (a + b + c) % 2 ^ 64))) < 2 ^ 64 := Nat.or_lt_two_pow h1 h3
  rw [tb63 _ h4, Nat.testBit_or, Nat.testBit_and, Nat.testBit_and, Nat.testBit_or]
  have hs : (a + b + c) % 2 ^ 64 < 2 ^ 64 := Nat.mod_lt _ (by decide)
  have hn : (2 ^ 64 - 1 - (a + b + c) % 2 ^ 64).testBit 63 = !((a + b + c) % 2 ^ 64).testBit 63 := by
    rw [show 2 ^ 64 - 1 - (a + b + c) % 2 ^ 64 = 2 ^ 64 - ((a + b + c) % 2 ^ 64 + 1) by omega, Nat.testBit_two_pow_sub_succ hs]
    simp
  rw [hn]
  simp only [Nat.testBit_eq_decide_div_mod_eq]
  have e1 : a / 2 ^ 63 = 0 ∨ a / 2 ^ 63 = 1 := by omega
  have e2 : b / 2 ^ 63 = 0 ∨ b / 2 ^ 63 = 1 := by omega
  have e3 : (a + b + c) % 2 ^ 64 / 2 ^ 63 = 0 ∨ (a + b + c) % 2 ^ 64 / 2 ^ 63 = 1 := by omega
  rcases e1 with e1 | e1 <;> rcases e2 with e2 | e2 <;> rcases e3 with e3 | e3 <;> simp [e1, e2, e3] <;> omega
theorem fill_get (f : Nat → Nat) (n i : Nat) (h : i < n) (l : List Nat) : (tell f n ++ l).getD i 0 = f i := by
  rw [← tell_getD f n i h, List.getD_eq_getElem?_getD, List.getD_eq_getElem?_getD, List.getElem?_append_left (by rw [tell_length]; exact h)]
theorem mix_get (a b : List Nat) (t n : Nat) (ha : a.length = n) (hb : b.length = n) (h : t < n) : (a.take t ++ b.drop t).getD t 0 = b.getD t 0 := by
  rw [List.getD_eq_getElem?_getD, List.getElem?_append_right (by simp; omega)]
  simp [ha, List.getD_eq_getElem?_getD, show min t n = t by omega]
theorem mix_set (a b : List Nat) (t n : Nat) (ha : a.length = n) (hb : b.length = n) (h : t < n) : (a.take t ++ b.drop t).set t (a.getD t 0) = a.take (t + 1) ++ b.drop (t + 1) := by
  have h1 : t < a.length := by omega
  have h2 : t < b.length := by omega
  rw [List.set_append_right (h := by simp; omega), List.take_succ_eq_append_getElem h1, List.drop_eq_getElem_cons (i := t) h2, List.append_assoc]
  have e : t - (a.take t).length = 0 := by simp; omega
  rw [e]
  generalize b.drop (t + 1) = r
  generalize b[t] = y
  simp [List.getD_eq_getElem?_getD, List.getElem?_eq_getElem h1]
theorem mix_len (a b : List Nat) (t n : Nat) (ha : a.length = n) (hb : b.length = n) (h : t ≤ n) : (a.take t ++ b.drop t).length = n := by simp; omega
/-- words: or, and-not -/
def bo (W x y : Nat) : Nat := (x % 2 ^ W) ||| (y % 2 ^ W)
def bd (W x y : Nat) : Nat := (x % 2 ^ W) &&& (2 ^ W - 1 - y % 2 ^ W)
theorem bo_lt (W x y : Nat) : bo W x y < 2 ^ W := Nat.or_lt_two_pow (Nat.mod_lt _ (two_pow_pos' W)) (Nat.mod_lt _ (two_pow_pos' W))
theorem bd_lt (W x y : Nat) : bd W x y < 2 ^ W := Nat.lt_of_le_of_lt Nat.and_le_left (Nat.mod_lt _ (two_pow_pos' W))
theorem u64_bo (a b : Nat) : bits .or .u64 (a : Int) (b : Int) = ((bo 64 a b : Nat) : Int) := by
  have h := u64_or_nat (a % 2 ^ 64) (b % 2 ^ 64) (Nat.mod_lt _ (by decide)) (Nat.mod_lt _ (by decide))
  have e : bits .or .u64 (a : Int) (b : Int) = bits .or .u64 ((a % 2 ^ 64 : Nat) : Int) ((b % 2 ^ 64 : Nat) : Int) := by
    show IntKind.u64.wrap ((BitVec.ofInt 64 (a : Int) ||| BitVec.ofInt 64 (b : Int)).toNat : Int) = IntKind.u64.wrap ((BitVec.ofInt 64 ((a % 2 ^ 64 : Nat) : Int) ||| BitVec.ofInt 64 ((b % 2 ^ 64 : Nat) : Int)).toNat : Int)
    rw [ofInt_mod64 a, ofInt_mod64 b, ofInt_mod64 (a % 2 ^ 64), ofInt_mod64 (b % 2 ^ 64), Nat.mod_mod, Nat.mod_mod]
  rw [e, h]; rfl
theorem u64_bd (a b : Nat) : bits .andNot .u64 (a : Int) (b : Int) = ((bd 64 a b : Nat) : Int) := by
  have h := u64_andNot_nat (a % 2 ^ 64) (b % 2 ^ 64) (Nat.mod_lt _ (by decide)) (Nat.mod_lt _ (by decide))
  have e : bits .andNot .u64 (a : Int) (b : Int) = bits .andNot .u64 ((a % 2 ^ 64 : Nat) : Int) ((b % 2 ^ 64 : Nat) : Int) := by
    show IntKind.u64.wrap ((BitVec.ofInt 64 (a : Int) &&& ~~~ BitVec.ofInt 64 (b : Int)).toNat : Int) = IntKind.u64.wrap ((BitVec.ofInt 64 ((a % 2 ^ 64 : Nat) : Int) &&& ~~~ BitVec.ofInt 64 ((b % 2 ^ 64 : Nat) : Int)).toNat : Int)
    rw [ofInt_mod64 a, ofInt_mod64 b, ofInt_mod64 (a % 2 ^ 64), ofInt_mod64 (b % 2 ^ 64), Nat.mod_mod, Nat.mod_mod]
  rw [e, h]; rfl
/-- the carry as the program reckons it -/
def cyW (x y s : Nat) : Nat := bo 64 (ba 64 x y) (bd 64 (bo 64 x y) s) / 2 ^ 63
theorem cyW_eq (x y c s : Nat) (hx : x < 2 ^ 64) (hy : y < 2 ^ 64) (hc : c ≤ 1) (hs : s = (x + y + c) % 2 ^ 64) : cyW x y s = (x + y + c) / 2 ^ 64 := by
  have hsl : s < 2 ^ 64 := by rw [hs]; exact Nat.mod_lt _ (by decide)
  have h1 : ba 64 x y = x &&& y := by unfold ba; rw [Nat.mod_eq_of_lt hx, Nat.mod_eq_of_lt hy]
  have h2 : bo 64 x y = x ||| y := by unfold bo; rw [Nat.mod_eq_of_lt hx, Nat.mod_eq_of_lt hy]
  have h3 : (x ||| y) < 2 ^ 64 := Nat.or_lt_two_pow hx hy
  have h4 : bd 64 (x ||| y) s = (x ||| y) &&& (2 ^ 64 - 1 - s) := by unfold bd; rw [Nat.mod_eq_of_lt h3, Nat.mod_eq_of_lt hsl]
  have h5 : (x &&& y) < 2 ^ 64 := Nat.and_lt_two_pow _ hy
  have h6 : ((x ||| y) &&& (2 ^ 64 - 1 - s)) < 2 ^ 64 := Nat.lt_of_le_of_lt Nat.and_le_left h3
  unfold cyW
  rw [h1, h2, h4]
  unfold bo
  rw [Nat.mod_eq_of_lt h5, Nat.mod_eq_of_lt h6, hs]
  exact carry_bits x y c hx hy hc
end Go.Proofs.Ytfffmoolkgheaaa
