/- Numbers in so many bits each, laid one behind the other, as bytes: plain mathematics. No condition. -/
import Derived.Laws.BitsAllLaws
namespace Go.Proofs.YtlbfnmmankoddaaDoor
/-- the number whose digit i is x i, in s bits each -/
def digs (s : Nat) (x : Nat → Nat) : Nat → Nat
  | 0 => 0
  | n + 1 => digs s x n + x n * 2 ^ (s * n)
theorem digs_succ (s : Nat) (x : Nat → Nat) (n : Nat) : digs s x (n + 1) = digs s x n + x n * 2 ^ (s * n) := rfl
theorem digs_congr {s : Nat} {x y : Nat → Nat} : ∀ {n : Nat}, (∀ i, i < n → x i = y i) → digs s x n = digs s y n
  | 0, _ => rfl
  | n + 1, h => by rw [digs_succ, digs_succ, digs_congr (fun i hi => h i (by omega)), h n (by omega)]
theorem digs_lt {s : Nat} {x : Nat → Nat} : ∀ {n : Nat}, (∀ i, i < n → x i < 2 ^ s) → digs s x n < 2 ^ (s * n)
  | 0, _ => by simp [digs]
  | n + 1, h => by
    have ih := digs_lt (s := s) (x := x) (n := n) (fun i hi => h i (by omega))
    have hx := h n (by omega)
    have e : 2 ^ (s * (n + 1)) = 2 ^ s * 2 ^ (s * n) := by rw [← Nat.pow_add]; congr 1; rw [Nat.mul_succ]; omega
    rw [digs_succ, e]
    have : (x n + 1) * 2 ^ (s * n) ≤ 2 ^ s * 2 ^ (s * n) := Nat.mul_le_mul_right _ hx
    rw [Nat.add_mul] at this
    omega
theorem digs_mod {s : Nat} {x : Nat → Nat} {m : Nat} : ∀ {n : Nat}, (∀ i, i < n → x i < 2 ^ s) → m ≤ n → digs s x n % 2 ^ (s * m) = digs s x m
  | 0, _, hm => by obtain rfl : m = 0 := by omega
                   simp [digs]
  | n + 1, h, hm => by
    by_cases e : m = n + 1
    · subst e; exact Nat.mod_eq_of_lt (digs_lt h)
    · have hmn : m ≤ n := by omega
      rw [digs_succ]
      have e2 : 2 ^ (s * n) = 2 ^ (s * m) * 2 ^ (s * (n - m)) := by rw [← Nat.pow_add]; congr 1; rw [← Nat.mul_add]; congr 1; omega
      rw [e2, show x n * (2 ^ (s * m) * 2 ^ (s * (n - m))) = 2 ^ (s * m) * (x n * 2 ^ (s * (n - m))) by ac_rfl, Nat.add_mul_mod_self_left]
      exact digs_mod (fun i hi => h i (by omega)) hmn
theorem digs_get {s : Nat} {x : Nat → Nat} {n i : Nat} (h : ∀ i, i < n → x i < 2 ^ s) (hi : i < n) : digs s x n / 2 ^ (s * i) % 2 ^ s = x i := by
  have e : 2 ^ (s * (i + 1)) = 2 ^ (s * i) * 2 ^ s := by rw [← Nat.pow_add]; congr 1
  have h1 := digs_mod (m := i + 1) h hi
  have h2 : digs s x n % (2 ^ (s * i) * 2 ^ s) / 2 ^ (s * i) = digs s x n / 2 ^ (s * i) % 2 ^ s := Nat.mod_mul_right_div_self _ _ _
  rw [← h2, ← e, h1, digs_succ, Nat.add_mul_div_right _ _ (Nat.two_pow_pos _), Nat.div_eq_of_lt (digs_lt (fun j hj => h j (by omega))), Nat.zero_add]
/-- every number is made of its digits -/
theorem digs_of (s M : Nat) : ∀ n, digs s (fun i => M / 2 ^ (s * i) % 2 ^ s) n = M % 2 ^ (s * n)
  | 0 => by simp [digs, Nat.mod_one]
  | n + 1 => by
    rw [digs_succ, digs_of s M n]
    have e : 2 ^ (s * (n + 1)) = 2 ^ (s * n) * 2 ^ s := by rw [← Nat.pow_add]; congr 1
    rw [e, Nat.mod_mul, Nat.mul_comm (2 ^ (s * n))]
/-- a number's byte -/
def byt (N k : Nat) : Nat := N / 2 ^ (8 * k) % 256
theorem byt_lt (N k : Nat) : byt N k < 256 := Nat.mod_lt _ (by decide)
theorem byt_mod (N k m : Nat) (h : 8 * k + 8 ≤ m) : byt (N % 2 ^ m) k = byt N k := by
  unfold byt
  have e : 2 ^ m = 2 ^ (8 * k) * 2 ^ (m - 8 * k) := by rw [← Nat.pow_add]; congr 1; omega
  have e2 : 2 ^ (m - 8 * k) = 256 * 2 ^ (m - 8 * k - 8) := by rw [show (256 : Nat) = 2 ^ 8 from rfl, ← Nat.pow_add]; congr 1; omega
  rw [e, Nat.mod_mul_right_div_self, e2, Nat.mod_mul_right_mod]
/-- the first n bytes of a number -/
def bytesN (N n : Nat) : List Nat := (List.range n).map (byt N)
theorem bytesN_length (N n : Nat) : (bytesN N n).length = n := by simp [bytesN]
theorem bytesN_lt (N n : Nat) : ∀ x ∈ bytesN N n, x < 256 := by
  intro x hx; obtain ⟨i, _, rfl⟩ := List.mem_map.1 hx; exact byt_lt _ _
theorem bytesN_get {N n i : Nat} (h : i < n) : (bytesN N n).getD i 0 = byt N i := by
  simp [bytesN, List.getD_eq_getElem?_getD, h]
theorem bytesN_succ (N n : Nat) : bytesN N (n + 1) = bytesN N n ++ [byt N n] := by simp [bytesN, List.range_succ]
theorem bytesN_mod (N n m : Nat) (h : 8 * n ≤ m) : bytesN (N % 2 ^ m) n = bytesN N n :=
  List.map_congr_left fun i hi => byt_mod N i m (by have := List.mem_range.1 hi; omega)
/-- the number of some bytes, the lowest one first -/
def numB (l : List Nat) : Nat := digs 8 (fun k => l.getD k 0) l.length
theorem getD_lt8 {l : List Nat} (h : ∀ x ∈ l, x < 256) (k : Nat) : l.getD k 0 < 2 ^ 8 := by
  by_cases hk : k < l.length
  · rw [List.getD_eq_getElem?_getD, List.getElem?_eq_getElem hk]; exact h _ (List.getElem_mem hk)
  · rw [List.getD_eq_getElem?_getD, List.getElem?_eq_none (by omega)]; decide
theorem numB_byt {l : List Nat} (h : ∀ x ∈ l, x < 256) (k : Nat) (hk : k < l.length) : byt (numB l) k = l.getD k 0 :=
  digs_get (s := 8) (x := fun k => l.getD k 0) (fun i _ => getD_lt8 h i) hk
theorem numB_lt {l : List Nat} (h : ∀ x ∈ l, x < 256) : numB l < 2 ^ (8 * l.length) := digs_lt (fun i _ => getD_lt8 h i)
theorem list_ext {a b : List Nat} (h : a.length = b.length) (h2 : ∀ i, i < a.length → a.getD i 0 = b.getD i 0) : a = b := by
  apply List.ext_getElem h
  intro i h1 h3
  have := h2 i h1
  simpa [List.getD_eq_getElem?_getD, h1, h3] using this
theorem bytesN_numB {l : List Nat} (h : ∀ x ∈ l, x < 256) : bytesN (numB l) l.length = l :=
  list_ext (bytesN_length _ _) fun i hi => by rw [bytesN_length] at hi; rw [bytesN_get hi, numB_byt h i hi]
theorem numB_bytesN (N n : Nat) : numB (bytesN N n) = N % 2 ^ (8 * n) := by
  unfold numB
  rw [bytesN_length, digs_congr (y := fun i => N / 2 ^ (8 * i) % 2 ^ 8) (fun i hi => bytesN_get hi)]
  exact digs_of 8 N n
/-- 256 numbers in s bits each, as bytes -/
def layN (s : Nat) (x : Nat → Nat) : List Nat := bytesN (digs s x 256) (32 * s)
/-- the number at place i of such bytes -/
def takN (s : Nat) (l : List Nat) (i : Nat) : Nat := numB l / 2 ^ (s * i) % 2 ^ s
theorem layN_length (s : Nat) (x : Nat → Nat) : (layN s x).length = 32 * s := bytesN_length _ _
theorem layN_lt (s : Nat) (x : Nat → Nat) : ∀ y ∈ layN s x, y < 256 := bytesN_lt _ _
theorem takN_lt (s : Nat) (l : List Nat) (i : Nat) : takN s l i < 2 ^ s := Nat.mod_lt _ (Nat.two_pow_pos _)
theorem takN_layN {s : Nat} {x : Nat → Nat} (h : ∀ i, i < 256 → x i < 2 ^ s) {i : Nat} (hi : i < 256) : takN s (layN s x) i = x i := by
  unfold takN layN
  rw [numB_bytesN, show 8 * (32 * s) = s * 256 by omega, Nat.mod_eq_of_lt (digs_lt h)]
  exact digs_get h hi
theorem layN_takN {s : Nat} {l : List Nat} (h : ∀ x ∈ l, x < 256) (hl : l.length = 32 * s) : layN s (takN s l) = l := by
  unfold layN
  rw [show digs s (takN s l) 256 = numB l % 2 ^ (s * 256) from digs_of s (numB l) 256, show s * 256 = 8 * (32 * s) by omega, bytesN_mod _ _ _ (Nat.le_refl _), ← hl]
  exact bytesN_numB h
theorem layN_congr {s : Nat} {x y : Nat → Nat} (h : ∀ i, i < 256 → x i = y i) : layN s x = layN s y := by unfold layN; rw [digs_congr h]
/-! the project's way: bits wait in a number till there are eight -/
theorem wait_or {a m : Nat} (x : Nat) (h : a < 2 ^ m) : a ||| (x * 2 ^ m) = a + x * 2 ^ m := by
  have := Nat.two_pow_add_eq_or_of_lt h x
  rw [Nat.or_comm, Nat.mul_comm x, ← this, Nat.add_comm]
/-- what waits behind c bytes -/
theorem wait_next {s : Nat} {x : Nat → Nat} {i c : Nat} (hc : 8 * c ≤ s * i) : digs s x (i + 1) / 2 ^ (8 * c) = digs s x i / 2 ^ (8 * c) + x i * 2 ^ (s * i - 8 * c) := by
  rw [digs_succ]
  have e : 2 ^ (s * i) = 2 ^ (8 * c) * 2 ^ (s * i - 8 * c) := by rw [← Nat.pow_add]; congr 1; omega
  rw [e, show x i * (2 ^ (8 * c) * 2 ^ (s * i - 8 * c)) = 2 ^ (8 * c) * (x i * 2 ^ (s * i - 8 * c)) by ac_rfl, Nat.add_mul_div_left _ _ (Nat.two_pow_pos _)]
theorem wait_lt {s : Nat} {x : Nat → Nat} {i c : Nat} (h : ∀ j, j < i → x j < 2 ^ s) (hc : 8 * c ≤ s * i) : digs s x i / 2 ^ (8 * c) < 2 ^ (s * i - 8 * c) := by
  rw [Nat.div_lt_iff_lt_mul (Nat.two_pow_pos _), ← Nat.pow_add, show s * i - 8 * c + 8 * c = s * i by omega]
  exact digs_lt h
theorem wait_byte (N c : Nat) : N / 2 ^ (8 * c) % 256 = byt N c := rfl
theorem wait_shift (N c : Nat) : N / 2 ^ (8 * c) / 256 = N / 2 ^ (8 * (c + 1)) := by
  rw [Nat.div_div_eq_div_mul, show (256 : Nat) = 2 ^ 8 from rfl, ← Nat.pow_add]; congr 2
theorem bytes_next {s : Nat} {x : Nat → Nat} {i c : Nat} (h : ∀ j, j < i + 1 → x j < 2 ^ s) (hc : 8 * c ≤ s * i) : bytesN (digs s x (i + 1)) c = bytesN (digs s x i) c := by
  rw [← digs_mod (m := i) h (by omega), bytesN_mod _ _ _ hc]
/-! the document's way: bit by bit -/
theorem byt_add {M at_ b : Nat} (hM : M < 2 ^ at_) (hb : b < 2) (j : Nat) : byt (M + b * 2 ^ at_) j = if j = at_ / 8 then byt M j + b * 2 ^ (at_ % 8) else byt M j := by
  unfold byt
  by_cases h1 : j = at_ / 8
  · rw [if_pos h1]
    have e : 2 ^ at_ = 2 ^ (8 * j) * 2 ^ (at_ % 8) := by rw [← Nat.pow_add]; congr 1; omega
    have hM' : M / 2 ^ (8 * j) < 2 ^ (at_ % 8) := by
      rw [Nat.div_lt_iff_lt_mul (Nat.two_pow_pos _), Nat.mul_comm, ← e]; exact hM
    rw [e, show b * (2 ^ (8 * j) * 2 ^ (at_ % 8)) = 2 ^ (8 * j) * (b * 2 ^ (at_ % 8)) by ac_rfl, Nat.add_mul_div_left _ _ (Nat.two_pow_pos _)]
    have h7 : at_ % 8 < 8 := Nat.mod_lt _ (by decide)
    generalize at_ % 8 = k at *
    generalize M / 2 ^ (8 * j) = m at *
    have : ∀ k : Nat, k < 8 → ∀ b : Nat, b < 2 → b * 2 ^ k ≤ 2 ^ k ∧ 2 ^ k + 2 ^ k ≤ 256 := by decide
    have h3 := this k h7 b hb
    rw [Nat.mod_eq_of_lt (show m + b * 2 ^ k < 256 by omega), Nat.mod_eq_of_lt (show m < 256 by omega)]
  · rw [if_neg h1]
    by_cases h2 : j < at_ / 8
    · have e : 2 ^ at_ = 2 ^ (8 * j) * 2 ^ (at_ - 8 * j) := by rw [← Nat.pow_add]; congr 1; omega
      have e2 : 2 ^ (at_ - 8 * j) = 256 * 2 ^ (at_ - 8 * j - 8) := by rw [show (256 : Nat) = 2 ^ 8 from rfl, ← Nat.pow_add]; congr 1; omega
      rw [e, show b * (2 ^ (8 * j) * 2 ^ (at_ - 8 * j)) = 2 ^ (8 * j) * (b * 2 ^ (at_ - 8 * j)) by ac_rfl, Nat.add_mul_div_left _ _ (Nat.two_pow_pos _), e2, show b * (256 * 2 ^ (at_ - 8 * j - 8)) = 256 * (b * 2 ^ (at_ - 8 * j - 8)) by ac_rfl, Nat.add_mul_mod_self_left]
    · have h3 : at_ + 1 ≤ 8 * j := by omega
      have hp : 2 ^ (at_ + 1) ≤ 2 ^ (8 * j) := Nat.pow_le_pow_right (by decide) h3
      have hb' : b * 2 ^ at_ ≤ 2 ^ at_ := by
        have : b * 2 ^ at_ ≤ 1 * 2 ^ at_ := Nat.mul_le_mul_right _ (by omega)
        omega
      rw [Nat.pow_succ] at hp
      rw [Nat.div_eq_of_lt (show M + b * 2 ^ at_ < 2 ^ (8 * j) by omega), Nat.div_eq_of_lt (show M < 2 ^ (8 * j) by omega)]
theorem bytesN_set {M at_ b n : Nat} (hM : M < 2 ^ at_) (hb : b < 2) : (bytesN M n).set (at_ / 8) (byt M (at_ / 8) + b * 2 ^ (at_ % 8)) = bytesN (M + b * 2 ^ at_) n := by
  apply List.ext_getElem (by simp [bytesN])
  intro i h1 h2
  simp only [bytesN, List.getElem_set, List.getElem_map, List.getElem_range]
  rw [byt_add hM hb]
  by_cases e : at_ / 8 = i
  · rw [if_pos e, if_pos e.symm, e]
  · rw [if_neg e, if_neg (fun h => e h.symm)]
theorem bytesN_zero (n : Nat) : bytesN 0 n = List.replicate n 0 := by
  apply List.ext_getElem (by simp [bytesN])
  intro i h1 h2
  simp [bytesN, byt]
/-- the number laid when k bits of the number at place i are -/
def bitS (s : Nat) (x : Nat → Nat) (i k : Nat) : Nat := digs s x i + x i % 2 ^ k * 2 ^ (s * i)
theorem bitS_zero (s : Nat) (x : Nat → Nat) (i : Nat) : bitS s x i 0 = digs s x i := by simp [bitS, Nat.mod_one]
theorem bitS_all {s : Nat} {x : Nat → Nat} {i : Nat} (h : x i < 2 ^ s) : bitS s x i s = digs s x (i + 1) := by
  unfold bitS; rw [Nat.mod_eq_of_lt h, digs_succ]
theorem bitS_lt {s : Nat} {x : Nat → Nat} {i : Nat} (h : ∀ j, j < i → x j < 2 ^ s) (k : Nat) : bitS s x i k < 2 ^ (s * i + k) := by
  have h1 := digs_lt h
  have h2 : x i % 2 ^ k < 2 ^ k := Nat.mod_lt _ (Nat.two_pow_pos _)
  have h3 : (x i % 2 ^ k + 1) * 2 ^ (s * i) ≤ 2 ^ k * 2 ^ (s * i) := Nat.mul_le_mul_right _ h2
  unfold bitS
  rw [Nat.pow_add, Nat.mul_comm (2 ^ (s * i))]
  rw [Nat.add_mul] at h3
  omega
theorem bitS_succ (s : Nat) (x : Nat → Nat) (i k : Nat) : bitS s x i k + x i / 2 ^ k % 2 * 2 ^ (s * i + k) = bitS s x i (k + 1) := by
  unfold bitS
  have e : x i % 2 ^ (k + 1) = x i % 2 ^ k + 2 ^ k * (x i / 2 ^ k % 2) := by rw [Nat.pow_succ, Nat.mod_mul]
  rw [e, Nat.pow_add, Nat.add_mul, Nat.add_assoc]
  congr 2
  ac_rfl
theorem half_pow (x k : Nat) : x / 2 ^ k / 2 = x / 2 ^ (k + 1) := by rw [Nat.div_div_eq_div_mul, ← Nat.pow_succ]
theorem byt_small {M at_ : Nat} (hM : M < 2 ^ at_) : byt M (at_ / 8) < 2 ^ (at_ % 8) := by
  unfold byt
  have e : 2 ^ at_ = 2 ^ (8 * (at_ / 8)) * 2 ^ (at_ % 8) := by rw [← Nat.pow_add]; congr 1; omega
  have : M / 2 ^ (8 * (at_ / 8)) < 2 ^ (at_ % 8) := by rw [Nat.div_lt_iff_lt_mul (Nat.two_pow_pos _), Nat.mul_comm, ← e]; exact hM
  exact Nat.lt_of_le_of_lt (Nat.mod_le _ _) this
/-! the project's way back -/
/-- what is left of the first c bytes behind b bits -/
def left_ (N b c : Nat) : Nat := N % 2 ^ (8 * c) / 2 ^ b
theorem left_lt {N b c : Nat} (h : b ≤ 8 * c) : left_ N b c < 2 ^ (8 * c - b) := by
  unfold left_
  rw [Nat.div_lt_iff_lt_mul (Nat.two_pow_pos _), ← Nat.pow_add, show 8 * c - b + b = 8 * c by omega]
  exact Nat.mod_lt _ (Nat.two_pow_pos _)
theorem left_more {N b c : Nat} (h : b ≤ 8 * c) : left_ N b (c + 1) = left_ N b c + byt N c * 2 ^ (8 * c - b) := by
  unfold left_ byt
  have e : 2 ^ (8 * (c + 1)) = 2 ^ (8 * c) * 256 := by rw [show (256 : Nat) = 2 ^ 8 from rfl, ← Nat.pow_add]; congr 1
  have e2 : 2 ^ (8 * c) = 2 ^ b * 2 ^ (8 * c - b) := by rw [← Nat.pow_add]; congr 1; omega
  rw [e, Nat.mod_mul]
  conv => lhs; rw [show 2 ^ (8 * c) * (N / 2 ^ (8 * c) % 256) = 2 ^ b * (2 ^ (8 * c - b) * (N / 2 ^ (8 * c) % 256)) by rw [← Nat.mul_assoc, ← e2]]
  rw [Nat.add_mul_div_left _ _ (Nat.two_pow_pos _), Nat.mul_comm (2 ^ (8 * c - b))]
theorem left_take {N b c s : Nat} (h : b + s ≤ 8 * c) : left_ N b c % 2 ^ s = N / 2 ^ b % 2 ^ s := by
  unfold left_
  have e : 2 ^ (8 * c) = 2 ^ b * 2 ^ (8 * c - b) := by rw [← Nat.pow_add]; congr 1; omega
  have e2 : 2 ^ (8 * c - b) = 2 ^ s * 2 ^ (8 * c - b - s) := by rw [← Nat.pow_add]; congr 1; omega
  rw [e, Nat.mod_mul_right_div_self, e2, Nat.mod_mul_right_mod]
theorem left_drop (N b c s : Nat) : left_ N b c / 2 ^ s = left_ N (b + s) c := by
  unfold left_
  rw [Nat.div_div_eq_div_mul, ← Nat.pow_add]
theorem left_zero (N : Nat) : left_ N 0 0 = 0 := by simp [left_, Nat.mod_one]
/-! a bit of bytes -/
theorem bit_of {N a : Nat} : byt N (a / 8) / 2 ^ (a % 8) % 2 = N / 2 ^ a % 2 := by
  unfold byt
  have h8 : a % 8 < 8 := Nat.mod_lt _ (by decide)
  have e : 256 = 2 ^ (a % 8) * 2 ^ (8 - a % 8) := by rw [← Nat.pow_add, show a % 8 + (8 - a % 8) = 8 by omega]
  have e2 : 2 ^ (8 - a % 8) = 2 * 2 ^ (7 - a % 8) := by rw [show 8 - a % 8 = 7 - a % 8 + 1 by omega, Nat.pow_succ, Nat.mul_comm]
  conv => lhs; rw [e]
  rw [Nat.mod_mul_right_div_self, e2, Nat.mod_mul_right_mod, Nat.div_div_eq_div_mul, ← Nat.pow_add]
  congr 2; congr 1; omega
theorem upper_succ (N a k : Nat) : N / 2 ^ a % 2 ^ (k + 1) = 2 * (N / 2 ^ (a + 1) % 2 ^ k) + N / 2 ^ a % 2 := by
  rw [Nat.pow_succ, Nat.mul_comm (2 ^ k) 2, Nat.mod_mul, Nat.div_div_eq_div_mul, show 2 ^ a * 2 = 2 ^ (a + 1) from (Nat.pow_succ ..).symm, Nat.add_comm]
end Go.Proofs.YtlbfnmmankoddaaDoor
