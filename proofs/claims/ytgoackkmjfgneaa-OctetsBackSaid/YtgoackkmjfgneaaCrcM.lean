/- The CRC-32 as plain arithmetic on naturals: bit by bit, byte by byte; its bounds, its injectivity, its value at the nine digits. No condition. -/
import Derived.Laws.BitsAllLaws
namespace Go.Proofs.Ytgoackkmjfgneaa

/-- one bit's step -/
def crcBit (r : Nat) : Nat := if r % 2 = 1 then (r / 2) ^^^ 3988292384 else r / 2
/-- so many bits' steps -/
def crcBits : Nat → Nat → Nat
  | 0, r => r
  | k + 1, r => crcBit (crcBits k r)
def crcByte (r x : Nat) : Nat := crcBits 8 (r ^^^ x)
def crcGo (r : Nat) (l : List Nat) : Nat := l.foldl crcByte r
def crcOf (s : Nat) (l : List Nat) : Nat := 4294967295 ^^^ crcGo (4294967295 ^^^ s) l

theorem crcBit_lt {r : Nat} (h : r < 4294967296) : crcBit r < 4294967296 := by
  unfold crcBit; split
  · exact Nat.xor_lt_two_pow (n := 32) (by omega) (by decide)
  · omega
theorem crcBits_lt {r : Nat} (h : r < 4294967296) (k : Nat) : crcBits k r < 4294967296 := by
  induction k with
  | zero => exact h
  | succ k ih => exact crcBit_lt ih
theorem crcByte_lt {r x : Nat} (h : r < 4294967296) (hx : x < 256) : crcByte r x < 4294967296 :=
  crcBits_lt (Nat.xor_lt_two_pow (n := 32) h (by omega)) 8
theorem crcGo_lt {r : Nat} (h : r < 4294967296) : ∀ (l : List Nat), (∀ x ∈ l, x < 256) → crcGo r l < 4294967296 := by
  intro l
  induction l generalizing r with
  | nil => intro _; exact h
  | cons x l ih => intro hl; exact ih (crcByte_lt h (hl x (by simp))) (fun y hy => hl y (by simp [hy]))
theorem crcOf_lt {s : Nat} (h : s < 4294967296) (l : List Nat) (hl : ∀ x ∈ l, x < 256) : crcOf s l < 4294967296 :=
  Nat.xor_lt_two_pow (n := 32) (by decide) (crcGo_lt (Nat.xor_lt_two_pow (n := 32) (by decide) h) l hl)

theorem crc_digits : crcOf 0 [49, 50, 51, 52, 53, 54, 55, 56, 57] = 3421780262 := by decide +kernel

/-! ### behind a list: more of it -/
theorem crcGo_append (r : Nat) (a b : List Nat) : crcGo r (a ++ b) = crcGo (crcGo r a) b := List.foldl_append
theorem crcGo_snoc (r : Nat) (a : List Nat) (x : Nat) : crcGo r (a ++ [x]) = crcByte (crcGo r a) x := by rw [crcGo_append]; rfl
theorem xor_self_back (m n : Nat) : m ^^^ (m ^^^ n) = n := by rw [← Nat.xor_assoc, Nat.xor_self, Nat.zero_xor]
theorem crcOf_append (s : Nat) (a b : List Nat) : crcOf (crcOf s a) b = crcOf s (a ++ b) := by
  unfold crcOf; rw [xor_self_back, crcGo_append]

/-! ### one to one -/
theorem xor_right_inj {a b c : Nat} (h : a ^^^ c = b ^^^ c) : a = b := by
  have := congrArg (· ^^^ c) h; simpa [Nat.xor_assoc] using this
theorem xor_left_inj {a b c : Nat} (h : c ^^^ a = c ^^^ b) : a = b := xor_right_inj (c := c) (by rw [Nat.xor_comm a, Nat.xor_comm b]; exact h)
theorem crcBit_high {r : Nat} (h : r < 4294967296) : (crcBit r).testBit 31 = decide (r % 2 = 1) := by
  have hr : (r / 2).testBit 31 = false := Nat.testBit_lt_two_pow (by omega)
  unfold crcBit; split
  · rename_i h1; rw [Nat.testBit_xor, hr, h1]; decide
  · rename_i h1; rw [hr]; simp [h1]
theorem crcBit_inj {r s : Nat} (hr : r < 4294967296) (hs : s < 4294967296) (h : crcBit r = crcBit s) : r = s := by
  have e : decide (r % 2 = 1) = decide (s % 2 = 1) := by rw [← crcBit_high hr, ← crcBit_high hs, h]
  have e' : r % 2 = s % 2 := by
    by_cases h1 : r % 2 = 1 <;> by_cases h2 : s % 2 = 1 <;> simp [h1, h2] at e ⊢ <;> omega
  have d : r / 2 = s / 2 := by
    unfold crcBit at h; rw [← e'] at h
    split at h
    · exact xor_right_inj h
    · exact h
  omega
theorem crcBits_inj {r s : Nat} (hr : r < 4294967296) (hs : s < 4294967296) : ∀ k, crcBits k r = crcBits k s → r = s := by
  intro k; induction k with
  | zero => exact id
  | succ k ih => intro h; exact ih (crcBit_inj (crcBits_lt hr k) (crcBits_lt hs k) h)
theorem crcByte_inj_left {r s x : Nat} (hr : r < 4294967296) (hs : s < 4294967296) (hx : x < 256) (h : crcByte r x = crcByte s x) : r = s :=
  xor_right_inj (crcBits_inj (Nat.xor_lt_two_pow (n := 32) hr (by omega)) (Nat.xor_lt_two_pow (n := 32) hs (by omega)) 8 h)
theorem crcByte_inj_right {r x y : Nat} (hr : r < 4294967296) (hx : x < 256) (hy : y < 256) (h : crcByte r x = crcByte r y) : x = y :=
  xor_left_inj (crcBits_inj (Nat.xor_lt_two_pow (n := 32) hr (by omega)) (Nat.xor_lt_two_pow (n := 32) hr (by omega)) 8 h)
theorem crcGo_inj : ∀ (l : List Nat) {r s : Nat}, r < 4294967296 → s < 4294967296 → (∀ x ∈ l, x < 256) → crcGo r l = crcGo s l → r = s := by
  intro l; induction l with
  | nil => intro r s _ _ _ h; exact h
  | cons x l ih =>
    intro r s hr hs hl h
    have hx := hl x (by simp)
    exact crcByte_inj_left hr hs hx (ih (crcByte_lt hr hx) (crcByte_lt hs hx) (fun y hy => hl y (by simp [hy])) h)
/-- a list in which one byte was changed has another sum -/
theorem crcOf_changed {s : Nat} (hs : s < 4294967296) (a b : List Nat) (x y : Nat) (ha : ∀ z ∈ a, z < 256) (hb : ∀ z ∈ b, z < 256) (hx : x < 256) (hy : y < 256) (h : crcOf s (a ++ x :: b) = crcOf s (a ++ y :: b)) : x = y := by
  have h0 : 4294967295 ^^^ s < 4294967296 := Nat.xor_lt_two_pow (n := 32) (by decide) hs
  have h1 := xor_left_inj h
  rw [crcGo_append, crcGo_append] at h1
  have h2 := crcGo_lt h0 a ha
  exact crcByte_inj_right h2 hx hy (crcGo_inj b (crcByte_lt h2 hx) (crcByte_lt h2 hy) hb h1)

/-! ### the model's words for it -/
theorem bits_and1 (r : Nat) (h : r < 4294967296) : bits .and .u32 (r : Int) 1 = ((r % 2 : Nat) : Int) := by
  have := u32_and_nat r 1 h (by decide)
  rw [show ((1 : Nat) : Int) = 1 from rfl] at this; rw [this, nat_mask1]
theorem bits_poly (r : Nat) (h : r < 4294967296) : bits .xor .u32 ((r : Nat) / 2 : Int) 3988292384 = (((r / 2) ^^^ 3988292384 : Nat) : Int) := by
  have := u32_xor_nat (r / 2) 3988292384 (by omega) (by decide)
  rw [show ((3988292384 : Nat) : Int) = 3988292384 from rfl] at this
  exact this
theorem bits_flip (r : Nat) (h : r < 4294967296) : bits .xor .u32 IntKind.u32.max (r : Int) = ((4294967295 ^^^ r : Nat) : Int) := by
  have := u32_xor_nat 4294967295 r (by decide) h
  exact this
end Go.Proofs.Ytgoackkmjfgneaa
