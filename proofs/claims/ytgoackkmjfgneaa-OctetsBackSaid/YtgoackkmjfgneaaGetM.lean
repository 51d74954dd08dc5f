/- Numbers in bytes as plain arithmetic on naturals. No condition. -/
import Derived.Laws.BitsAllLaws
namespace Go.Proofs.Ytgoackkmjfgneaa

/-- where the number's byte i stands, counted from its highest on -/
def placeN (p size : Nat) (big : Bool) (i : Nat) : Nat := if big then p + i else p + size - 1 - i
/-- the number of the first i bytes -/
def getTo (l : List Nat) (p size : Nat) (big : Bool) : Nat → Nat
  | 0 => 0
  | i + 1 => getTo l p size big i * 256 + l.getD (placeN p size big i) 0
def getN (l : List Nat) (p size : Nat) (big : Bool) : Nat := getTo l p size big size

theorem getD_lt256 {l : List Nat} (h : ∀ x ∈ l, x < 256) (k : Nat) : l.getD k 0 < 256 := by
  by_cases hk : k < l.length
  · rw [List.getD_eq_getElem?_getD, List.getElem?_eq_getElem hk]; exact h _ (List.getElem_mem hk)
  · rw [List.getD_eq_getElem?_getD, List.getElem?_eq_none (by omega)]; decide
theorem getTo_lt {l : List Nat} (h : ∀ x ∈ l, x < 256) (p size : Nat) (big : Bool) : ∀ i, getTo l p size big i < 256 ^ i := by
  intro i; induction i with
  | zero => exact Nat.one_pos
  | succ i ih =>
    have := getD_lt256 h (placeN p size big i)
    rw [getTo, Nat.pow_succ]; omega
theorem getTo_lt7 {l : List Nat} (h : ∀ x ∈ l, x < 256) (p size : Nat) (big : Bool) (i : Nat) (hi : i < 8) : getTo l p size big i < 72057594037927936 := by
  have h1 := getTo_lt h p size big i
  have h2 : 256 ^ i ≤ 256 ^ 7 := Nat.pow_le_pow_right (by decide) (by omega)
  have h3 : (256 : Nat) ^ 7 = 72057594037927936 := by decide
  omega
theorem getN_lt {l : List Nat} (h : ∀ x ∈ l, x < 256) (p size : Nat) (big : Bool) (hs : size ≤ 8) : getN l p size big < 18446744073709551616 := by
  have h1 := getTo_lt h p size big size
  have h2 : 256 ^ size ≤ 256 ^ 8 := Nat.pow_le_pow_right (by decide) hs
  have h3 : (256 : Nat) ^ 8 = 18446744073709551616 := by decide
  unfold getN; omega
theorem bits_or_byte (v x : Nat) (hv : v < 72057594037927936) (hx : x < 256) : bits .or .u64 ((v : Int) * 256) (x : Int) = ((v * 256 + x : Nat) : Int) := by
  have := u64_or_nat (v * 256) x (by omega) (by omega)
  rw [nat_join 8 (v * 256) x (by omega) (by omega)] at this
  exact this
/-- a number's size -/
def SizeOk (size : Nat) : Prop := size = 1 ∨ size = 2 ∨ size = 4 ∨ size = 8
theorem SizeOk.le {size : Nat} (h : SizeOk size) : 1 ≤ size ∧ size ≤ 8 := by unfold SizeOk at h; omega
end Go.Proofs.Ytgoackkmjfgneaa
