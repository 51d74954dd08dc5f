/- Plain arithmetic: Fermat, and Pocklington's test of primes. No condition. -/
import Derived.RowKit
namespace Go.Proofs.Ytfffmoolkgheaaa
set_option linter.unusedVariables false
set_option linter.unusedSimpArgs false
/-- A prime: at least 2, and only 1 and itself divide it. -/
def IsPrime (p : Nat) : Prop := 2 ≤ p ∧ ∀ d, d ∣ p → d = 1 ∨ d = p
theorem IsPrime.coprime {p a : Nat} (hp : IsPrime p) (h : ¬ p ∣ a) : Nat.Coprime p a := by
  rcases hp.2 (Nat.gcd p a) (Nat.gcd_dvd_left p a) with h1 | h1
  · exact h1
  · exact absurd (h1 ▸ Nat.gcd_dvd_right p a) h
theorem IsPrime.dvd_mul {p a b : Nat} (hp : IsPrime p) (h : p ∣ a * b) : p ∣ a ∨ p ∣ b := by
  by_cases ha : p ∣ a
  · exact Or.inl ha
  · exact Or.inr ((hp.coprime ha).dvd_of_dvd_mul_left h)
theorem IsPrime.not_dvd_one {p : Nat} (hp : IsPrime p) : ¬ p ∣ 1 := fun h => by
  have := Nat.le_of_dvd (by omega) h
  have := hp.1
  omega
def prodL : List Nat → Nat | [] => 1 | x :: l => x * prodL l
theorem prodL_perm {l m : List Nat} (h : l.Perm m) : prodL l = prodL m := by
  induction h with
  | nil => rfl
  | cons x _ ih => simp only [prodL, ih]
  | swap x y l => simp only [prodL]; rw [← Nat.mul_assoc, Nat.mul_comm y x, Nat.mul_assoc]
  | trans _ _ a b => rw [a, b]
theorem perm_of_nodup {l m : List Nat} (hl : l.Nodup) (hs : ∀ x ∈ l, x ∈ m) (hn : m.length ≤ l.length) : l.Perm m := by
  induction l generalizing m with
  | nil =>
    have : m = [] := List.length_eq_zero_iff.1 (by simpa using hn)
    subst this; exact .nil
  | cons x l ih =>
    have hx : x ∈ m := hs x (by simp)
    have hp := List.perm_cons_erase hx
    refine .trans (.cons x (ih (List.nodup_cons.1 hl).2 (fun y hy => ?_) ?_)) hp.symm
    · have hne : y ≠ x := fun h => (List.nodup_cons.1 hl).1 (h ▸ hy)
      exact (List.mem_erase_of_ne hne).2 (hs y (by simp [hy]))
    · have := List.length_erase_of_mem hx
      have h0 : 0 < m.length := List.length_pos_of_mem hx
      simp only [List.length_cons] at hn
      omega
theorem prodL_map (a p : Nat) (l : List Nat) : prodL (l.map (fun x => a * x % p)) % p = a ^ l.length * prodL l % p := by
  induction l with
  | nil => simp [prodL]
  | cons x l ih =>
    simp only [List.map_cons, prodL, List.length_cons]
    rw [Nat.mul_mod, ih, Nat.mod_mod, ← Nat.mul_mod, Nat.pow_succ]
    congr 1
    simp only [Nat.mul_assoc, Nat.mul_comm, Nat.mul_left_comm]
theorem IsPrime.not_dvd_prodL {p : Nat} (hp : IsPrime p) {l : List Nat} (h : ∀ x ∈ l, ¬ p ∣ x) : ¬ p ∣ prodL l := by
  induction l with
  | nil => exact hp.not_dvd_one
  | cons x l ih =>
    intro hd
    rcases hp.dvd_mul hd with h1 | h1
    · exact h x (by simp) h1
    · exact ih (fun y hy => h y (by simp [hy])) h1
theorem mod_eq_of_dvd_sub {p x y : Nat} (hxy : y ≤ x) (h : p ∣ x - y) : x % p = y % p := by
  obtain ⟨k, hk⟩ := h
  have : x = y + p * k := by omega
  rw [this, Nat.add_mul_mod_self_left]
theorem dvd_sub_of_mod_eq {p x y : Nat} (hxy : y ≤ x) (h : x % p = y % p) : p ∣ x - y := by
  have := Nat.sub_mod_eq_zero_of_mod_eq h
  exact Nat.dvd_of_mod_eq_zero this
/-- What is coprime to p may be taken away on both sides. -/
theorem IsPrime.cancel {p x y z : Nat} (hp : IsPrime p) (hz : ¬ p ∣ z) (h : x * z % p = y * z % p) : x % p = y % p := by
  rcases Nat.le_total y x with hxy | hxy
  · have h1 := dvd_sub_of_mod_eq (Nat.mul_le_mul_right z hxy) h
    rw [← Nat.sub_mul] at h1
    rcases hp.dvd_mul h1 with h2 | h2
    · exact mod_eq_of_dvd_sub hxy h2
    · exact absurd h2 hz
  · have h1 := dvd_sub_of_mod_eq (Nat.mul_le_mul_right z hxy) h.symm
    rw [← Nat.sub_mul] at h1
    rcases hp.dvd_mul h1 with h2 | h2
    · exact (mod_eq_of_dvd_sub hxy h2).symm
    · exact absurd h2 hz
/-- Fermat's little theorem. -/
theorem fermat {p a : Nat} (hp : IsPrime p) (ha : ¬ p ∣ a) : a ^ (p - 1) % p = 1 := by
  have h2 := hp.1
  let l := List.range' 1 (p - 1)
  have hmem : ∀ x, x ∈ l ↔ 1 ≤ x ∧ x < p := by
    intro x; simp only [l, List.mem_range'_1]; omega
  have hnd : ∀ x ∈ l, ¬ p ∣ x := by
    intro x hx hd
    have := (hmem x).1 hx
    have := Nat.le_of_dvd (by omega) hd
    omega
  have hperm : (l.map (fun x => a * x % p)).Perm l := by
    refine perm_of_nodup ?_ ?_ (by simp)
    · refine List.Pairwise.map _ (R := fun x y => ¬ (x % p = y % p)) ?_ ?_
      · intro x y hne heq
        apply hne
        refine hp.cancel ha ?_
        rw [Nat.mul_comm x, Nat.mul_comm y]; exact heq
      · have hn : l.Nodup := List.nodup_range'
        refine List.Pairwise.imp_of_mem ?_ hn
        intro x y hx hy hne he
        have hx' := (hmem x).1 hx
        have hy' := (hmem y).1 hy
        rw [Nat.mod_eq_of_lt hx'.2, Nat.mod_eq_of_lt hy'.2] at he
        exact hne he
    · intro x hx
      obtain ⟨y, hy, rfl⟩ := List.mem_map.1 hx
      refine (hmem _).2 ⟨?_, Nat.mod_lt _ (by omega)⟩
      rcases Nat.eq_zero_or_pos (a * y % p) with h0 | h0
      · exfalso
        rcases hp.dvd_mul (Nat.dvd_of_mod_eq_zero h0) with h1 | h1
        · exact ha h1
        · exact hnd y hy h1
      · exact h0
  have hprod := prodL_map a p l
  rw [prodL_perm hperm] at hprod
  have hlen : l.length = p - 1 := by simp [l]
  rw [hlen] at hprod
  have := hp.cancel (x := a ^ (p - 1)) (y := 1) (hp.not_dvd_prodL hnd) (by rw [Nat.one_mul]; exact hprod.symm)
  rw [this, Nat.mod_eq_of_lt (by omega)]
theorem prime_factor (n : Nat) : 2 ≤ n → IsPrime n ∨ ∃ s, IsPrime s ∧ s ∣ n ∧ s * s ≤ n := by
  induction n using Nat.strongRecOn with
  | ind n ih =>
    intro hn
    by_cases hp : IsPrime n
    · exact Or.inl hp
    right
    have : ∃ d, d ∣ n ∧ d ≠ 1 ∧ d ≠ n := by
      refine Classical.byContradiction fun hc => hp ⟨hn, fun d hd => ?_⟩
      refine Classical.byContradiction fun h2 => hc ⟨d, hd, ?_, ?_⟩
      · exact fun h => h2 (Or.inl h)
      · exact fun h => h2 (Or.inr h)
    obtain ⟨d, ⟨e, hde⟩, h1, h2⟩ := this
    have small : ∀ x y : Nat, n = x * y → x ≤ y → x ≠ 1 → ∃ s, IsPrime s ∧ s ∣ n ∧ s * s ≤ n := by
      intro x y hxy hle hx1
      have hx0 : x ≠ 0 := by intro h; subst h; simp at hxy; omega
      have hxx : x * x ≤ n := by rw [hxy]; exact Nat.mul_le_mul_left x hle
      have hxn : x < n := by
        have : x * 2 ≤ x * x := Nat.mul_le_mul_left x (by omega)
        omega
      rcases ih x hxn (by omega) with hpx | ⟨s, hs, hsx, hss⟩
      · exact ⟨x, hpx, ⟨y, hxy⟩, hxx⟩
      · refine ⟨s, hs, Nat.dvd_trans hsx ⟨y, hxy⟩, ?_⟩
        omega
    rcases Nat.le_total d e with hle | hle
    · exact small d e hde hle h1
    · refine small e d (by rw [hde, Nat.mul_comm]) hle ?_
      intro he; apply h2; rw [hde, he, Nat.mul_one]
def powm (n : Nat) : Nat → Nat → Nat → Nat
  | 0, _, _ => 1 % n
  | k + 1, a, e => if e % 2 = 1 then a * powm n k (a * a % n) (e / 2) % n else powm n k (a * a % n) (e / 2)
theorem powm_eq (n k : Nat) : ∀ a e, e < 2 ^ k → powm n k a e = a ^ e % n := by
  induction k with
  | zero => intro a e h; have : e = 0 := by simpa using h
            subst this; simp [powm]
  | succ k ih =>
    intro a e h
    have h2 : e / 2 < 2 ^ k := by rw [Nat.pow_succ] at h; omega
    have hsq : (a * a % n) ^ (e / 2) % n = a ^ (2 * (e / 2)) % n := by
      rw [← Nat.pow_mod, Nat.pow_mul, Nat.pow_two]
    simp only [powm]
    rw [ih _ _ h2, hsq]
    split
    · rename_i h1
      rw [Nat.mul_mod, Nat.mod_mod, ← Nat.mul_mod]
      have : e = 2 * (e / 2) + 1 := by omega
      conv => rhs; rw [this, Nat.pow_succ, Nat.mul_comm]
    · have : e = 2 * (e / 2) := by omega
      conv => rhs; rw [this]
/-- The core of Pocklington's test: each prime that divides n is 1 modulo q. -/
theorem pock {n q r a : Nat} (hn : 2 ≤ n) (hq : IsPrime q) (hm : n - 1 = q * r) (h1 : a ^ (n - 1) % n = 1)
    (h2 : Nat.gcd (a ^ r % n + (n - 1)) n = 1) (s : Nat) (hs : IsPrime s) (hsn : s ∣ n) : q ∣ s - 1 := by
  have hs2 := hs.1
  by_cases hd : q ∣ s - 1
  · exact hd
  exfalso
  have hone : a ^ (n - 1) % s = 1 := by
    have := Nat.mod_mod_of_dvd (a ^ (n - 1)) hsn
    rw [h1] at this; rw [← this]; exact Nat.mod_eq_of_lt (by omega)
  have hsa : ¬ s ∣ a := by
    intro h
    have h3 : s ∣ a ^ (n - 1) := by
      have : n - 1 = (n - 2) + 1 := by omega
      rw [this, Nat.pow_succ]; exact Nat.dvd_trans h (Nat.dvd_mul_left _ _)
    rw [Nat.mod_eq_zero_of_dvd h3] at hone
    omega
  have hsb : ¬ s ∣ a ^ r := by
    intro h
    have : s ∣ (a ^ r) ^ q := by
      have : q = (q - 1) + 1 := by have := hq.1; omega
      rw [this, Nat.pow_succ]; exact Nat.dvd_trans h (Nat.dvd_mul_left _ _)
    rw [← Nat.pow_mul, Nat.mul_comm, ← hm] at this
    rw [Nat.mod_eq_zero_of_dvd this] at hone
    omega
  have hbq : (a ^ r) ^ q % s = 1 := by rw [← Nat.pow_mul, Nat.mul_comm, ← hm]; exact hone
  have hbs : (a ^ r) ^ (s - 1) % s = 1 := fermat hs hsb
  generalize a ^ r = b at *
  -- the powers of b that are 1 are closed under gcd
  have hg : ∀ x y : Nat, b ^ x % s = 1 → b ^ y % s = 1 → b ^ (Nat.gcd x y) % s = 1 := by
    intro x y
    induction x, y using Nat.gcd.induction with
    | H0 y => intro _ h; simpa using h
    | H1 x y hx ih =>
      intro h h'
      rw [Nat.gcd_rec]
      refine ih ?_ h
      have e : y = x * (y / x) + y % x := (Nat.div_add_mod y x).symm
      have hz : ¬ s ∣ b ^ (x * (y / x)) := by
        rw [Nat.pow_mul]
        intro hd
        have := Nat.mod_eq_zero_of_dvd hd
        rw [Nat.pow_mod, h, Nat.one_pow, Nat.mod_eq_of_lt (by omega)] at this
        omega
      have := hs.cancel (x := b ^ (y % x)) (y := 1) hz (by
        rw [Nat.one_mul, Nat.mul_comm, ← Nat.pow_add, ← e, h', Nat.pow_mul, Nat.pow_mod, h, Nat.one_pow, Nat.mod_eq_of_lt (by omega)])
      rw [this, Nat.mod_eq_of_lt (by omega)]
  have := hg q (s - 1) hbq hbs
  rw [show Nat.gcd q (s - 1) = 1 from hq.coprime hd, Nat.pow_one] at this
  -- then s divides both
  have hbig : s ∣ b % n + (n - 1) := by
    have e1 : b % n % s = 1 := by rw [Nat.mod_mod_of_dvd _ hsn]; exact this
    obtain ⟨k, hk⟩ := hsn
    have e2 : b % n = s * (b % n / s) + 1 := by have := Nat.div_add_mod (b % n) s; omega
    refine ⟨b % n / s + k, ?_⟩
    rw [Nat.mul_add, ← hk]; omega
  have h3 := Nat.dvd_gcd hbig hsn
  rw [h2] at h3
  exact hs.not_dvd_one h3
theorem prime_of_pock1 {n q r a : Nat} (hn : 2 ≤ n) (hq : IsPrime q) (hm : n - 1 = q * r) (h1 : a ^ (n - 1) % n = 1)
    (h2 : Nat.gcd (a ^ r % n + (n - 1)) n = 1) (hb : n < (q + 1) * (q + 1)) : IsPrime n := by
  rcases prime_factor n hn with h | ⟨s, hs, hsn, hss⟩
  · exact h
  · exfalso
    have hd := pock hn hq hm h1 h2 s hs hsn
    have hs2 := hs.1
    have := Nat.le_of_dvd (by omega) hd
    have := Nat.mul_le_mul (show q + 1 ≤ s by omega) (show q + 1 ≤ s by omega)
    omega
theorem prime_of_pock2 {n q1 q2 r1 r2 a : Nat} (hn : 2 ≤ n) (hq1 : IsPrime q1) (hq2 : IsPrime q2) (hne : q1 ≠ q2) (hm1 : n - 1 = q1 * r1) (hm2 : n - 1 = q2 * r2)
    (h1 : a ^ (n - 1) % n = 1) (h2 : Nat.gcd (a ^ r1 % n + (n - 1)) n = 1) (h3 : Nat.gcd (a ^ r2 % n + (n - 1)) n = 1) (hb : n < (q1 * q2 + 1) * (q1 * q2 + 1)) : IsPrime n := by
  rcases prime_factor n hn with h | ⟨s, hs, hsn, hss⟩
  · exact h
  · exfalso
    have hd1 := pock hn hq1 hm1 h1 h2 s hs hsn
    have hd2 := pock hn hq2 hm2 h1 h3 s hs hsn
    have hc : Nat.Coprime q1 q2 := hq1.coprime (fun h => by
      rcases hq2.2 q1 h with h | h
      · have := hq1.1; omega
      · exact hne h)
    have hd := Nat.Coprime.mul_dvd_of_dvd_of_dvd hc hd1 hd2
    have hs2 := hs.1
    have := Nat.le_of_dvd (by omega) hd
    have := Nat.mul_le_mul (show q1 * q2 + 1 ≤ s by omega) (show q1 * q2 + 1 ≤ s by omega)
    omega
/-- No number from 2 to k + 1 divides p. -/
def trial (p : Nat) : Nat → Bool | 0 => true | k + 1 => p % (k + 2) != 0 && trial p k
theorem trial_spec (p k : Nat) : trial p k = true → ∀ d, 2 ≤ d → d < k + 2 → ¬ d ∣ p := by
  induction k with
  | zero => intro _ d h1 h2; omega
  | succ k ih =>
    intro h d h1 h2 hd
    simp only [trial, Bool.and_eq_true, bne_iff_ne, ne_eq] at h
    rcases Nat.lt_or_ge d (k + 2) with h3 | h3
    · exact ih h.2 d h1 h3 hd
    · have : d = k + 2 := by omega
      subst this
      exact h.1 (Nat.mod_eq_zero_of_dvd hd)
theorem prime_of_trial {p : Nat} (k : Nat) (h : (trial p k && decide (2 ≤ p) && decide (p < (k + 2) * (k + 2))) = true) : IsPrime p := by
  simp only [Bool.and_eq_true, decide_eq_true_eq] at h
  rcases prime_factor p h.1.2 with hp | ⟨s, hs, hsn, hss⟩
  · exact hp
  · exfalso
    refine trial_spec p k h.1.1 s hs.1 ?_ hsn
    rcases Nat.lt_or_ge s (k + 2) with h3 | h3
    · exact h3
    · have := Nat.mul_le_mul h3 h3; omega
theorem powm_is {n k a e : Nat} (h : e < 2 ^ k) {v : Nat} (hv : powm n k a e = v) : a ^ e % n = v := (powm_eq n k a e h) ▸ hv
def pockB (n q r a k : Nat) : Bool := decide (2 ≤ n) && decide (n - 1 = q * r) && decide (n < 2 ^ k) && decide (powm n k a (n - 1) = 1) && decide (Nat.gcd (powm n k a r + (n - 1)) n = 1)
theorem pockB_spec {n q r a k : Nat} (h : pockB n q r a k = true) (hq : IsPrime q) : 2 ≤ n ∧ n - 1 = q * r ∧ a ^ (n - 1) % n = 1 ∧ Nat.gcd (a ^ r % n + (n - 1)) n = 1 := by
  simp only [pockB, Bool.and_eq_true, decide_eq_true_eq] at h
  obtain ⟨⟨⟨⟨h1, h2⟩, h3⟩, h4⟩, h5⟩ := h
  have hr : r ≤ n - 1 := by rw [h2]; have := Nat.mul_le_mul_right r (show 1 ≤ q by have := hq.1; omega); omega
  refine ⟨h1, h2, ?_, ?_⟩
  · rw [← powm_eq n k a (n - 1) (by omega)]; exact h4
  · rw [← powm_eq n k a r (by omega)]; exact h5
theorem prime_by1 {n : Nat} (q r a k : Nat) (hq : IsPrime q) (h : (pockB n q r a k && decide (n < (q + 1) * (q + 1))) = true) : IsPrime n := by
  simp only [Bool.and_eq_true, decide_eq_true_eq] at h
  obtain ⟨h1, h2, h3, h4⟩ := pockB_spec h.1 hq
  exact prime_of_pock1 h1 hq h2 h3 h4 h.2
theorem prime_by2 {n : Nat} (q1 r1 q2 r2 a k : Nat) (hq1 : IsPrime q1) (hq2 : IsPrime q2) (h : (pockB n q1 r1 a k && pockB n q2 r2 a k && decide (q1 ≠ q2) && decide (n < (q1 * q2 + 1) * (q1 * q2 + 1))) = true) : IsPrime n := by
  simp only [Bool.and_eq_true, decide_eq_true_eq] at h
  obtain ⟨⟨⟨h0, h1⟩, h2⟩, h3⟩ := h
  obtain ⟨a1, a2, a3, a4⟩ := pockB_spec h0 hq1
  obtain ⟨b1, b2, b3, b4⟩ := pockB_spec h1 hq2
  exact prime_of_pock2 a1 hq1 hq2 h2 a2 b2 a3 a4 b4 h3
end Go.Proofs.Ytfffmoolkgheaaa
