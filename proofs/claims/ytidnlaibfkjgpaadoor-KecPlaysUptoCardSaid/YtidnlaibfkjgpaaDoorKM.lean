/- Keccak-f[1600] as plain arithmetic on naturals: five steps on 25 words; the steps as bits; no two states have one image. No condition. -/
import Derived.Test.YtidnlaibfkjgpaaDoorMem
namespace Go.Proofs.YtidnlaibfkjgpaaDoor
set_option linter.unusedVariables false
theorem tell_get (f : Nat → Nat) (t i : Nat) (h : i < t) : (tell f t).getD i 0 = f i := by
  simp [tell, List.getD_eq_getElem?_getD, List.getElem?_range h]
theorem tell_congr {f g : Nat → Nat} {t : Nat} (h : ∀ i, i < t → f i = g i) : tell f t = tell g t := by
  unfold tell; exact List.map_congr_left fun i hi => h i (List.mem_range.1 hi)
theorem tell_self (l : List Nat) (t : Nat) (h : l.length = t) : tell (fun i => l.getD i 0) t = l := by
  apply List.ext_getElem
  · rw [tell_length, h]
  · intro i h1 h2
    simp [tell, List.getD_eq_getElem?_getD, List.getElem?_eq_getElem h2]
theorem tell_set (f : Nat → Nat) (t i x : Nat) : (tell f t).set i x = tell (fun j => if j = i then x else f j) t := by
  apply List.ext_getElem
  · simp [tell]
  · intro k h1 h2
    simp only [tell, List.getElem_set, List.getElem_map, List.getElem_range]
    by_cases h : i = k
    · rw [if_pos h, if_pos h.symm]
    · rw [if_neg h, if_neg (fun e => h e.symm)]
theorem tell_inj {f g : Nat → Nat} {t : Nat} (h : tell f t = tell g t) (i : Nat) (hi : i < t) : f i = g i := by
  rw [← tell_get f t i hi, h, tell_get g t i hi]

def xo (a b : Nat) : Nat := bx 64 a b
def an (a b : Nat) : Nat := ba 64 a b
def no (a : Nat) : Nat := bn 64 a
/-- x turned left by n within 64 bits -/
def rl (n x : Nat) : Nat := x / 2 ^ (64 - n) + (x % 2 ^ (64 - n)) * 2 ^ n
theorem xo_lt (a b : Nat) : xo a b < 2 ^ 64 := Nat.xor_lt_two_pow (Nat.mod_lt _ (by decide)) (Nat.mod_lt _ (by decide))
theorem an_lt (a b : Nat) : an a b < 2 ^ 64 := Nat.and_lt_two_pow _ (Nat.mod_lt _ (by decide))
theorem no_lt (a : Nat) : no a < 2 ^ 64 := by unfold no; exact bn_lt 64 a

/-! ### the bits -/
def bit (x i : Nat) : Bool := decide (i < 64) && x.testBit i
theorem bit_eq {x y : Nat} (hx : x < 2 ^ 64) (hy : y < 2 ^ 64) (h : ∀ i, i < 64 → bit x i = bit y i) : x = y := by
  apply Nat.eq_of_testBit_eq
  intro i
  by_cases hi : i < 64
  · have := h i hi; simpa [bit, hi] using this
  · rw [Nat.testBit_lt_two_pow (Nat.lt_of_lt_of_le hx (Nat.pow_le_pow_right (by decide) (by omega))), Nat.testBit_lt_two_pow (Nat.lt_of_lt_of_le hy (Nat.pow_le_pow_right (by decide) (by omega)))]
theorem bit_xo (a b i : Nat) : bit (xo a b) i = (bit a i ^^ bit b i) := by
  unfold bit xo bx
  rw [Nat.testBit_xor, Nat.testBit_mod_two_pow, Nat.testBit_mod_two_pow]
  by_cases hi : i < 64 <;> simp [hi]
theorem bit_an (a b i : Nat) : bit (an a b) i = (bit a i && bit b i) := by
  unfold bit an ba
  rw [Nat.testBit_and, Nat.testBit_mod_two_pow, Nat.testBit_mod_two_pow]
  by_cases hi : i < 64 <;> simp [hi]
theorem bit_no (a i : Nat) (hi : i < 64) : bit (no a) i = !bit a i := by
  unfold bit no bn
  have h : 2 ^ 64 - 1 - a % 2 ^ 64 = 2 ^ 64 - (a % 2 ^ 64 + 1) := by omega
  rw [h, Nat.testBit_two_pow_sub_succ (Nat.mod_lt _ (by decide)), Nat.testBit_mod_two_pow]
  simp [hi]
theorem bit_rl (n x i : Nat) (hn : n ≤ 64) (hx : x < 2 ^ 64) (hi : i < 64) : bit (rl n x) i = bit x ((i + (64 - n)) % 64) := by
  have e : 2 ^ 64 = 2 ^ (64 - n) * 2 ^ n := by rw [← Nat.pow_add]; congr 1; omega
  have h1 : x / 2 ^ (64 - n) < 2 ^ n := by rw [Nat.div_lt_iff_lt_mul (Nat.two_pow_pos _), Nat.mul_comm, ← e]; exact hx
  have h2 : rl n x = 2 ^ n * (x % 2 ^ (64 - n)) + x / 2 ^ (64 - n) := by unfold rl; rw [Nat.add_comm, Nat.mul_comm]
  have hm : (i + (64 - n)) % 64 < 64 := Nat.mod_lt _ (by decide)
  unfold bit
  simp only [hi, hm, decide_true, Bool.true_and]
  rw [h2, Nat.testBit_two_pow_mul_add _ h1]
  by_cases hin : i < n
  · rw [if_pos hin, Nat.testBit_div_two_pow]
    congr 1; omega
  · rw [if_neg hin, Nat.testBit_mod_two_pow]
    have : (i + (64 - n)) % 64 = i - n := by omega
    rw [this]
    have : i - n < 64 - n := by omega
    simp [this]
theorem rl_lt {n x : Nat} (hn : n ≤ 64) (hx : x < 2 ^ 64) : rl n x < 2 ^ 64 := by
  have e : 2 ^ 64 = 2 ^ (64 - n) * 2 ^ n := by rw [← Nat.pow_add]; congr 1; omega
  have h1 : x / 2 ^ (64 - n) < 2 ^ n := by rw [Nat.div_lt_iff_lt_mul (Nat.two_pow_pos _), Nat.mul_comm, ← e]; exact hx
  have h2 : x % 2 ^ (64 - n) < 2 ^ (64 - n) := Nat.mod_lt _ (Nat.two_pow_pos _)
  have h3 : (x % 2 ^ (64 - n) + 1) * 2 ^ n ≤ 2 ^ (64 - n) * 2 ^ n := Nat.mul_le_mul_right _ h2
  rw [Nat.add_mul, Nat.one_mul] at h3
  unfold rl
  omega
theorem rl_or {n x : Nat} (hn : n ≤ 64) (hx : x < 2 ^ 64) : (x * 2 ^ n % 2 ^ 64) ||| (x / 2 ^ (64 - n)) = rl n x := by
  have e : 2 ^ 64 = 2 ^ (64 - n) * 2 ^ n := by rw [← Nat.pow_add]; congr 1; omega
  have h1 : x / 2 ^ (64 - n) < 2 ^ n := by rw [Nat.div_lt_iff_lt_mul (Nat.two_pow_pos _), Nat.mul_comm, ← e]; exact hx
  have h2 : x * 2 ^ n % 2 ^ 64 = (x % 2 ^ (64 - n)) * 2 ^ n := by rw [e, Nat.mul_mod_mul_right]
  rw [h2, Nat.mul_comm, ← Nat.two_pow_add_eq_or_of_lt h1]
  unfold rl
  rw [Nat.mul_comm (x % 2 ^ (64 - n))]; omega
theorem rl_add {n x : Nat} (hx : x < 2 ^ 64) (hn : n ≤ 64) : x * 2 ^ n % 2 ^ 64 + x / 2 ^ (64 - n) = rl n x := by
  have e : 2 ^ 64 = 2 ^ (64 - n) * 2 ^ n := by rw [← Nat.pow_add]; congr 1; omega
  have h2 : x * 2 ^ n % 2 ^ 64 = (x % 2 ^ (64 - n)) * 2 ^ n := by rw [e, Nat.mul_mod_mul_right]
  rw [h2]; unfold rl; omega

/-! ### the steps -/
def colS (s : List Nat) (x : Nat) : Nat := xo (xo (xo (xo (s.getD x 0) (s.getD (x + 5) 0)) (s.getD (x + 10) 0)) (s.getD (x + 15) 0)) (s.getD (x + 20) 0)
def colD (s : List Nat) (x : Nat) : Nat := xo (colS s ((x + 4) % 5)) (rl 1 (colS s ((x + 1) % 5)))
def thetaAt (s : List Nat) (i : Nat) : Nat := xo (s.getD i 0) (colD s (i % 5))
def theta (s : List Nat) : List Nat := tell (thetaAt s) 25
/-- where the word at a place comes from, and by how much it is turned -/
def srcT : List Nat := [0, 6, 12, 18, 24, 3, 9, 10, 16, 22, 1, 7, 13, 19, 20, 4, 5, 11, 17, 23, 2, 8, 14, 15, 21]
def offT : List Nat := [0, 44, 43, 21, 14, 28, 20, 3, 45, 61, 1, 6, 25, 8, 18, 27, 36, 10, 15, 56, 62, 55, 39, 41, 2]
def moveAt (s : List Nat) (i : Nat) : Nat := rl (offT.getD i 0) (s.getD (srcT.getD i 0) 0)
def move (s : List Nat) : List Nat := tell (moveAt s) 25
def chiAt (s : List Nat) (i : Nat) : Nat := xo (s.getD i 0) (an (no (s.getD ((i % 5 + 1) % 5 + 5 * (i / 5)) 0)) (s.getD ((i % 5 + 2) % 5 + 5 * (i / 5)) 0))
def chi (s : List Nat) : List Nat := tell (chiAt s) 25
def rcT : List Nat := [0x0000000000000001, 0x0000000000008082, 0x800000000000808a, 0x8000000080008000, 0x000000000000808b, 0x0000000080000001, 0x8000000080008081, 0x8000000000008009, 0x000000000000008a, 0x0000000000000088, 0x0000000080008009, 0x000000008000000a, 0x000000008000808b, 0x800000000000008b, 0x8000000000008089, 0x8000000000008003, 0x8000000000008002, 0x8000000000000080, 0x000000000000800a, 0x800000008000000a, 0x8000000080008081, 0x8000000000008080, 0x0000000080000001, 0x8000000080008008]
def iota (r : Nat) (s : List Nat) : List Nat := s.set 0 (xo (s.getD 0 0) (rcT.getD r 0))
def round (r : Nat) (s : List Nat) : List Nat := iota r (chi (move (theta s)))
def rounds (s : List Nat) : Nat → List Nat
  | 0 => s
  | t + 1 => round t (rounds s t)
def perm (s : List Nat) : List Nat := rounds s 24

/-- 25 words of 64 bits -/
def Good (s : List Nat) : Prop := s.length = 25 ∧ ∀ x ∈ s, x < 2 ^ 64
theorem Good.at {s : List Nat} (h : Good s) (i : Nat) : s.getD i 0 < 2 ^ 64 := by
  by_cases hk : i < s.length
  · rw [List.getD_eq_getElem?_getD, List.getElem?_eq_getElem hk]; exact h.2 _ (List.getElem_mem hk)
  · rw [List.getD_eq_getElem?_getD, List.getElem?_eq_none (by omega)]; decide
theorem theta_good (s : List Nat) : Good (theta s) := ⟨tell_length _ _, tell_lt _ _ (fun _ => xo_lt _ _) _⟩
theorem chi_good (s : List Nat) : Good (chi s) := ⟨tell_length _ _, tell_lt _ _ (fun _ => xo_lt _ _) _⟩
theorem off_le (i : Nat) : offT.getD i 0 ≤ 64 := by
  by_cases h : i < 25
  · have : ∀ i, i < 25 → offT.getD i 0 ≤ 64 := by decide
    exact this i h
  · rw [List.getD_eq_getElem?_getD, List.getElem?_eq_none (by simp [offT]; omega)]; decide
theorem move_good {s : List Nat} (h : Good s) : Good (move s) := ⟨tell_length _ _, tell_lt _ _ (fun i => rl_lt (off_le i) (h.at _)) _⟩
theorem iota_good {s : List Nat} (r : Nat) (h : Good s) : Good (iota r s) := by
  refine ⟨by simp [iota, h.1], fun x hx => ?_⟩
  rcases List.mem_or_eq_of_mem_set hx with hx | rfl
  · exact h.2 x hx
  · exact xo_lt _ _
theorem round_good {s : List Nat} (r : Nat) (h : Good s) : Good (round r s) := iota_good r (chi_good _)
theorem rounds_good {s : List Nat} (h : Good s) (t : Nat) : Good (rounds s t) := by
  induction t with
  | zero => exact h
  | succ t ih => exact round_good t ih
theorem perm_good {s : List Nat} (h : Good s) : Good (perm s) := rounds_good h 24

/-! ### no two states have one image -/
theorem xo_cancel {a b c : Nat} (ha : a < 2 ^ 64) (hb : b < 2 ^ 64) (h : xo a c = xo b c) : a = b := by
  refine bit_eq ha hb fun i _ => ?_
  have := congrArg (fun x => bit x i) h
  simp only [bit_xo] at this
  revert this
  cases bit a i <;> cases bit b i <;> cases bit c i <;> simp
theorem good_ext {s t : List Nat} (hs : Good s) (ht : Good t) (h : ∀ i, i < 25 → s.getD i 0 = t.getD i 0) : s = t := by
  rw [← tell_self s 25 hs.1, ← tell_self t 25 ht.1]; exact tell_congr h
theorem iota_inj {s t : List Nat} (r : Nat) (hs : Good s) (ht : Good t) (h : iota r s = iota r t) : s = t := by
  refine good_ext hs ht fun i hi => ?_
  have hg := congrArg (fun l => l.getD i 0) h
  simp only [iota, List.getD_eq_getElem?_getD, List.getElem?_set, hs.1, ht.1] at hg
  by_cases h0 : 0 = i
  · subst h0
    simp at hg
    refine xo_cancel (hs.at 0) (ht.at 0) (c := rcT.getD r 0) ?_
    simpa [List.getD_eq_getElem?_getD] using hg
  · simpa [h0, List.getD_eq_getElem?_getD] using hg
theorem row_inj : ∀ a b c d e a' b' c' d' e' : Bool, (a ^^ (!b && c)) = (a' ^^ (!b' && c')) → (b ^^ (!c && d)) = (b' ^^ (!c' && d')) → (c ^^ (!d && e)) = (c' ^^ (!d' && e')) → (d ^^ (!e && a)) = (d' ^^ (!e' && a')) → (e ^^ (!a && b)) = (e' ^^ (!a' && b')) →
    a = a' ∧ b = b' ∧ c = c' ∧ d = d' ∧ e = e' := by decide +kernel
theorem chi_bit (s : List Nat) (i j : Nat) (hj : j < 64) : bit (chiAt s i) j = (bit (s.getD i 0) j ^^ (!bit (s.getD ((i % 5 + 1) % 5 + 5 * (i / 5)) 0) j && bit (s.getD ((i % 5 + 2) % 5 + 5 * (i / 5)) 0) j)) := by
  unfold chiAt; rw [bit_xo, bit_an, bit_no _ _ hj]
theorem chi_inj {s t : List Nat} (hs : Good s) (ht : Good t) (h : chi s = chi t) : s = t := by
  have hrow : ∀ y, y < 5 → ∀ j, j < 64 → ∀ x, x < 5 → bit (s.getD (5 * y + x) 0) j = bit (t.getD (5 * y + x) 0) j := by
    intro y hy j hj
    have hx : ∀ x, x < 5 → (bit (s.getD (5 * y + x) 0) j ^^ (!bit (s.getD ((x + 1) % 5 + 5 * y) 0) j && bit (s.getD ((x + 2) % 5 + 5 * y) 0) j)) = (bit (t.getD (5 * y + x) 0) j ^^ (!bit (t.getD ((x + 1) % 5 + 5 * y) 0) j && bit (t.getD ((x + 2) % 5 + 5 * y) 0) j)) := by
      intro x hx
      have e := congrArg (fun v => bit v j) (tell_inj h (5 * y + x) (by omega))
      simp only [chi_bit _ _ _ hj] at e
      have e1 : (5 * y + x) % 5 = x := by omega
      have e2 : (5 * y + x) / 5 = y := by omega
      rw [e1, e2] at e
      exact e
    have h0 := hx 0 (by decide)
    have h1 := hx 1 (by decide)
    have h2 := hx 2 (by decide)
    have h3 := hx 3 (by decide)
    have h4 := hx 4 (by decide)
    simp only [Nat.reduceAdd, Nat.reduceMod, Nat.add_zero, Nat.zero_add, Nat.add_comm _ (5 * y)] at h0 h1 h2 h3 h4
    have R := row_inj _ _ _ _ _ _ _ _ _ _ h0 h1 h2 h3 h4
    intro x hx5
    have : x = 0 ∨ x = 1 ∨ x = 2 ∨ x = 3 ∨ x = 4 := by omega
    rcases this with rfl | rfl | rfl | rfl | rfl
    · exact R.1
    · exact R.2.1
    · exact R.2.2.1
    · exact R.2.2.2.1
    · exact R.2.2.2.2
  refine good_ext hs ht fun i hi => bit_eq (hs.at i) (ht.at i) fun j hj => ?_
  have := hrow (i / 5) (by omega) j hj (i % 5) (by omega)
  rwa [Nat.div_add_mod] at this
def dstT : List Nat := [0, 10, 20, 5, 15, 16, 1, 11, 21, 6, 7, 17, 2, 12, 22, 23, 8, 18, 3, 13, 14, 24, 9, 19, 4]
theorem src_dst : ∀ i, i < 25 → srcT.getD (dstT.getD i 0) 0 = i ∧ dstT.getD i 0 < 25 := by decide
theorem move_inj {s t : List Nat} (hs : Good s) (ht : Good t) (h : move s = move t) : s = t := by
  refine good_ext hs ht fun i hi => bit_eq (hs.at i) (ht.at i) fun j hj => ?_
  obtain ⟨h1, h2⟩ := src_dst i hi
  have e := tell_inj h _ h2
  unfold moveAt at e
  rw [h1] at e
  have hn := off_le (dstT.getD i 0)
  generalize offT.getD (dstT.getD i 0) 0 = n at *
  have e2 := congrArg (fun v => bit v ((j + n) % 64)) e
  simp only [bit_rl n _ _ hn (hs.at i) (Nat.mod_lt _ (by decide)), bit_rl n _ _ hn (ht.at i) (Nat.mod_lt _ (by decide))] at e2
  have e3 : ((j + n) % 64 + (64 - n)) % 64 = j := by omega
  rwa [e3] at e2
/-! theta: what a column's parity becomes, doubled six times, is the parity mixed by places alone -/
def TT (d e : Nat) (p : Nat → Nat → Bool) (x j : Nat) : Bool := (p x j ^^ p ((x + 4 * d) % 5) j) ^^ p ((x + d) % 5) ((j + 63 * e) % 64)
theorem TT_two (d e : Nat) (p : Nat → Nat → Bool) (x j : Nat) (hx : x < 5) (hj : j < 64) : TT d e (TT d e p) x j = TT (2 * d) (2 * e) p x j := by
  unfold TT
  have a1 : ((x + 4 * d) % 5 + 4 * d) % 5 = (x + 4 * (2 * d)) % 5 := by omega
  have a2 : ((x + 4 * d) % 5 + d) % 5 = x := by omega
  have a3 : ((x + d) % 5 + 4 * d) % 5 = x := by omega
  have a4 : ((x + d) % 5 + d) % 5 = (x + 2 * d) % 5 := by omega
  have a5 : ((j + 63 * e) % 64 + 63 * e) % 64 = (j + 63 * (2 * e)) % 64 := by omega
  rw [a1, a2, a3, a4, a5]
  cases p x j <;> cases p ((x + 4 * d) % 5) j <;> cases p ((x + d) % 5) ((j + 63 * e) % 64) <;> cases p x ((j + 63 * e) % 64) <;> cases p ((x + 4 * (2 * d)) % 5) j <;> cases p ((x + 2 * d) % 5) ((j + 63 * (2 * e)) % 64) <;> rfl
/-- alike at all places -/
def Alk (p q : Nat → Nat → Bool) : Prop := ∀ x j, x < 5 → j < 64 → p x j = q x j
theorem Alk.tt {p q : Nat → Nat → Bool} (h : Alk p q) (d e : Nat) : Alk (TT d e p) (TT d e q) := by
  intro x j hx hj
  unfold TT
  rw [h x j hx hj, h _ j (Nat.mod_lt _ (by decide)) hj, h _ _ (Nat.mod_lt _ (by decide)) (Nat.mod_lt _ (by decide))]
theorem Alk.double {p q : Nat → Nat → Bool} {d e : Nat} (h : Alk (TT d e p) (TT d e q)) : Alk (TT (2 * d) (2 * e) p) (TT (2 * d) (2 * e) q) := by
  intro x j hx hj
  rw [← TT_two d e p x j hx hj, ← TT_two d e q x j hx hj]
  exact h.tt d e x j hx hj
theorem TT_64 (p : Nat → Nat → Bool) (x j : Nat) (hj : j < 64) : TT 64 64 p x j = ((p x j ^^ p ((x + 1) % 5) j) ^^ p ((x + 4) % 5) j) := by
  unfold TT
  have a1 : (x + 4 * 64) % 5 = (x + 1) % 5 := by omega
  have a2 : (x + 64) % 5 = (x + 4) % 5 := by omega
  have a3 : (j + 63 * 64) % 64 = j := by omega
  rw [a1, a2, a3]
theorem five_inj : ∀ a b c d e a' b' c' d' e' : Bool, ((a ^^ b) ^^ e) = ((a' ^^ b') ^^ e') → ((b ^^ c) ^^ a) = ((b' ^^ c') ^^ a') → ((c ^^ d) ^^ b) = ((c' ^^ d') ^^ b') → ((d ^^ e) ^^ c) = ((d' ^^ e') ^^ c') → ((e ^^ a) ^^ d) = ((e' ^^ a') ^^ d') →
    a = a' ∧ b = b' ∧ c = c' ∧ d = d' ∧ e = e' := by decide +kernel
theorem parity_inj {p q : Nat → Nat → Bool} (h : Alk (TT 1 1 p) (TT 1 1 q)) : Alk p q := by
  have h64 : Alk (TT 64 64 p) (TT 64 64 q) := h.double.double.double.double.double.double
  intro x j hx hj
  have g : ∀ x, x < 5 → ((p x j ^^ p ((x + 1) % 5) j) ^^ p ((x + 4) % 5) j) = ((q x j ^^ q ((x + 1) % 5) j) ^^ q ((x + 4) % 5) j) := by
    intro x hx; rw [← TT_64 p x j hj, ← TT_64 q x j hj]; exact h64 x j hx hj
  have h0 := g 0 (by decide)
  have h1 := g 1 (by decide)
  have h2 := g 2 (by decide)
  have h3 := g 3 (by decide)
  have h4 := g 4 (by decide)
  simp only [Nat.reduceAdd, Nat.reduceMod, Nat.zero_add] at h0 h1 h2 h3 h4
  have R := five_inj _ _ _ _ _ _ _ _ _ _ h0 h1 h2 h3 h4
  have : x = 0 ∨ x = 1 ∨ x = 2 ∨ x = 3 ∨ x = 4 := by omega
  rcases this with rfl | rfl | rfl | rfl | rfl
  · exact R.1
  · exact R.2.1
  · exact R.2.2.1
  · exact R.2.2.2.1
  · exact R.2.2.2.2
def par (s : List Nat) (x j : Nat) : Bool := bit (colS s x) j
theorem colS_lt (s : List Nat) (x : Nat) : colS s x < 2 ^ 64 := xo_lt _ _
theorem theta_bit (s : List Nat) (i j : Nat) (hj : j < 64) : bit (thetaAt s i) j = (bit (s.getD i 0) j ^^ (par s ((i % 5 + 4) % 5) j ^^ par s ((i % 5 + 1) % 5) ((j + 63) % 64))) := by
  unfold thetaAt colD par; rw [bit_xo, bit_xo, bit_rl 1 _ _ (by decide) (colS_lt _ _) hj]
theorem theta_par (s : List Nat) (x j : Nat) (hx : x < 5) (hj : j < 64) : par (theta s) x j = TT 1 1 (par s) x j := by
  have e : ∀ k, x + k < 25 → (x + k) % 5 = x → bit ((theta s).getD (x + k) 0) j = (bit (s.getD (x + k) 0) j ^^ (par s ((x + 4) % 5) j ^^ par s ((x + 1) % 5) ((j + 63) % 64))) := by
    intro k hk hm
    unfold theta
    rw [tell_get _ _ _ hk, theta_bit s _ j hj, hm]
  have e0 := e 0 (by omega) (by omega)
  have e1 := e 5 (by omega) (by omega)
  have e2 := e 10 (by omega) (by omega)
  have e3 := e 15 (by omega) (by omega)
  have e4 := e 20 (by omega) (by omega)
  have hp : par (theta s) x j = ((((bit ((theta s).getD x 0) j ^^ bit ((theta s).getD (x + 5) 0) j) ^^ bit ((theta s).getD (x + 10) 0) j) ^^ bit ((theta s).getD (x + 15) 0) j) ^^ bit ((theta s).getD (x + 20) 0) j) := by
    unfold par colS; simp only [bit_xo]
  have hq : par s x j = ((((bit (s.getD x 0) j ^^ bit (s.getD (x + 5) 0) j) ^^ bit (s.getD (x + 10) 0) j) ^^ bit (s.getD (x + 15) 0) j) ^^ bit (s.getD (x + 20) 0) j) := by
    unfold par colS; simp only [bit_xo]
  rw [Nat.add_zero] at e0
  rw [hp, e0, e1, e2, e3, e4]
  unfold TT
  rw [show (x + 4 * 1) % 5 = (x + 4) % 5 from rfl, show (j + 63 * 1) % 64 = (j + 63) % 64 from rfl, hq]
  generalize par s ((x + 4) % 5) j = u
  generalize par s ((x + 1) % 5) ((j + 63) % 64) = v
  generalize bit (s.getD x 0) j = a
  generalize bit (s.getD (x + 5) 0) j = b
  generalize bit (s.getD (x + 10) 0) j = c
  generalize bit (s.getD (x + 15) 0) j = d
  generalize bit (s.getD (x + 20) 0) j = f
  revert u v a b c d f
  decide +kernel
theorem theta_inj {s t : List Nat} (hs : Good s) (ht : Good t) (h : theta s = theta t) : s = t := by
  have hp : Alk (par s) (par t) := parity_inj fun x j hx hj => by rw [← theta_par s x j hx hj, ← theta_par t x j hx hj, h]
  refine good_ext hs ht fun i hi => bit_eq (hs.at i) (ht.at i) fun j hj => ?_
  have e := congrArg (fun v => bit v j) (tell_inj h i hi)
  simp only [theta_bit _ _ _ hj] at e
  rw [hp _ j (Nat.mod_lt _ (by decide)) hj, hp _ _ (Nat.mod_lt _ (by decide)) (Nat.mod_lt _ (by decide))] at e
  revert e
  generalize (par t ((i % 5 + 4) % 5) j ^^ par t ((i % 5 + 1) % 5) ((j + 63) % 64)) = u
  generalize bit (s.getD i 0) j = a
  generalize bit (t.getD i 0) j = b
  revert u a b
  decide
theorem round_inj {s t : List Nat} (r : Nat) (hs : Good s) (ht : Good t) (h : round r s = round r t) : s = t :=
  theta_inj hs ht (move_inj (theta_good s) (theta_good t) (chi_inj (move_good (theta_good s)) (move_good (theta_good t)) (iota_inj r (chi_good _) (chi_good _) h)))
theorem perm_inj {s t : List Nat} (hs : Good s) (ht : Good t) (h : perm s = perm t) : s = t := by
  have : ∀ k, rounds s k = rounds t k → s = t := by
    intro k
    induction k with
    | zero => exact id
    | succ k ih => exact fun e => ih (round_inj k (rounds_good hs k) (rounds_good ht k) e)
  exact this 24 h
end Go.Proofs.YtidnlaibfkjgpaaDoor
