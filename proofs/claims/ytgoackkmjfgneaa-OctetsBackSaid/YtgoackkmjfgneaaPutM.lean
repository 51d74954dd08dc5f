/- Numbers laid down in bytes, as plain lists of naturals: both orders of laying, read back, laid back. No condition. -/
import Derived.Test.YtgoackkmjfgneaaGetM
namespace Go.Proofs.Ytgoackkmjfgneaa

/-- byte i of the number, counted from its highest on -/
def digN (v size i : Nat) : Nat := v / 256 ^ (size - 1 - i) % 256
/-- the first i bytes laid, from the highest on -/
def putTo (l : List Nat) (p size : Nat) (big : Bool) (v : Nat) : Nat → List Nat
  | 0 => l
  | i + 1 => (putTo l p size big v i).set (placeN p size big i) (digN v size i)
/-- the last i bytes laid, from the lowest on -/
def putDn (l : List Nat) (p size : Nat) (big : Bool) (v : Nat) : Nat → List Nat
  | 0 => l
  | i + 1 => (putDn l p size big v i).set (placeN p size big (size - 1 - i)) (v / 256 ^ i % 256)
def putN (l : List Nat) (p size : Nat) (big : Bool) (v : Nat) : List Nat := putTo l p size big v size
/-- which of the number's bytes stands there -/
def ixN (p size : Nat) (big : Bool) (j : Nat) : Nat := if big then j - p else p + size - 1 - j

theorem putTo_length (l : List Nat) (p size : Nat) (big : Bool) (v : Nat) : ∀ i, (putTo l p size big v i).length = l.length := by
  intro i; induction i with
  | zero => rfl
  | succ i ih => rw [putTo, List.length_set, ih]
theorem putDn_length (l : List Nat) (p size : Nat) (big : Bool) (v : Nat) : ∀ i, (putDn l p size big v i).length = l.length := by
  intro i; induction i with
  | zero => rfl
  | succ i ih => rw [putDn, List.length_set, ih]
theorem digN_lt (v size i : Nat) : digN v size i < 256 := Nat.mod_lt _ (by decide)
theorem putTo_lt {l : List Nat} (h : ∀ x ∈ l, x < 256) (p size : Nat) (big : Bool) (v : Nat) : ∀ i, ∀ x ∈ putTo l p size big v i, x < 256 := by
  intro i; induction i with
  | zero => exact h
  | succ i ih =>
    intro x hx
    rcases List.mem_or_eq_of_mem_set hx with h1 | h1
    · exact ih x h1
    · rw [h1]; exact digN_lt _ _ _

theorem getD_set (l : List Nat) (i j y : Nat) (hi : i < l.length) : (l.set i y).getD j 0 = if i = j then y else l.getD j 0 := by
  simp only [List.getD_eq_getElem?_getD, List.getElem?_set]
  by_cases h : i = j
  · subst h; rw [if_pos rfl, if_pos hi, if_pos rfl]; rfl
  · rw [if_neg h, if_neg h]

theorem place_ix {p size i j : Nat} (big : Bool) (hi : i < size) (h1 : p ≤ j) (h2 : j < p + size) : placeN p size big i = j ↔ ixN p size big j = i := by
  unfold placeN ixN; cases big <;> simp <;> omega
theorem place_in {p size i : Nat} (big : Bool) (hi : i < size) : p ≤ placeN p size big i ∧ placeN p size big i < p + size := by
  unfold placeN; cases big <;> simp <;> omega
theorem ix_lt {p size j : Nat} (big : Bool) (h1 : p ≤ j) (h2 : j < p + size) : ixN p size big j < size := by
  unfold ixN; cases big <;> simp <;> omega
theorem ix_place {p size i : Nat} (big : Bool) (hi : i < size) : ixN p size big (placeN p size big i) = i := by
  unfold ixN placeN; cases big <;> simp <;> omega

theorem putTo_at {l : List Nat} {p size : Nat} (big : Bool) (v : Nat) (hp : p + size ≤ l.length) : ∀ n, n ≤ size → ∀ j, (putTo l p size big v n).getD j 0 = if p ≤ j ∧ j < p + size ∧ ixN p size big j < n then digN v size (ixN p size big j) else l.getD j 0 := by
  intro n; induction n with
  | zero => intro _ j; rw [if_neg (by omega)]; rfl
  | succ n ih =>
    intro hn j
    have hpl := place_in (p := p) big (show n < size by omega)
    rw [putTo, getD_set _ _ _ _ (by rw [putTo_length]; omega), ih (by omega) j]
    by_cases hj : p ≤ j ∧ j < p + size
    · have hix := place_ix (i := n) big (by omega) hj.1 hj.2
      by_cases e : placeN p size big n = j
      · rw [if_pos e]
        have e2 := hix.1 e
        rw [if_pos ⟨hj.1, hj.2, by omega⟩, e2]
      · rw [if_neg e]
        have e2 : ixN p size big j ≠ n := fun h => e (hix.2 h)
        by_cases h3 : ixN p size big j < n
        · rw [if_pos ⟨hj.1, hj.2, h3⟩, if_pos ⟨hj.1, hj.2, by omega⟩]
        · rw [if_neg (by omega), if_neg (by omega)]
    · rw [if_neg (by omega), if_neg (by omega), if_neg (by omega)]
theorem putDn_at {l : List Nat} {p size : Nat} (big : Bool) (v : Nat) (hp : p + size ≤ l.length) : ∀ n, n ≤ size → ∀ j, (putDn l p size big v n).getD j 0 = if p ≤ j ∧ j < p + size ∧ size - 1 - ixN p size big j < n then digN v size (ixN p size big j) else l.getD j 0 := by
  intro n; induction n with
  | zero => intro _ j; rw [if_neg (by omega)]; rfl
  | succ n ih =>
    intro hn j
    have hpl := place_in (p := p) big (show size - 1 - n < size by omega)
    rw [putDn, getD_set _ _ _ _ (by rw [putDn_length]; omega), ih (by omega) j]
    by_cases hj : p ≤ j ∧ j < p + size
    · have hix := place_ix (i := size - 1 - n) big (by omega) hj.1 hj.2
      have hlt := ix_lt big hj.1 hj.2
      by_cases e : placeN p size big (size - 1 - n) = j
      · rw [if_pos e]
        have e2 := hix.1 e
        rw [if_pos ⟨hj.1, hj.2, by omega⟩, e2]
        unfold digN
        rw [show size - 1 - (size - 1 - n) = n by omega]
      · rw [if_neg e]
        have e2 : ixN p size big j ≠ size - 1 - n := fun h => e (hix.2 h)
        by_cases h3 : size - 1 - ixN p size big j < n
        · rw [if_pos ⟨hj.1, hj.2, h3⟩, if_pos ⟨hj.1, hj.2, by omega⟩]
        · rw [if_neg (by omega), if_neg (by omega)]
    · rw [if_neg (by omega), if_neg (by omega), if_neg (by omega)]
theorem ext_getD {a b : List Nat} (hl : a.length = b.length) (h : ∀ j, a.getD j 0 = b.getD j 0) : a = b := by
  apply List.ext_getElem hl
  intro i h1 h2
  have := h i
  rwa [List.getD_eq_getElem?_getD, List.getD_eq_getElem?_getD, List.getElem?_eq_getElem h1, List.getElem?_eq_getElem h2] at this
/-- both orders of laying come to one list -/
theorem putDn_eq {l : List Nat} {p size : Nat} (big : Bool) (v : Nat) (hp : p + size ≤ l.length) : putDn l p size big v size = putN l p size big v := by
  unfold putN
  refine ext_getD (by rw [putDn_length, putTo_length]) (fun j => ?_)
  rw [putDn_at big v hp size (Nat.le_refl _), putTo_at big v hp size (Nat.le_refl _)]
  by_cases hj : p ≤ j ∧ j < p + size
  · have hlt := ix_lt big hj.1 hj.2
    rw [if_pos ⟨hj.1, hj.2, by omega⟩, if_pos ⟨hj.1, hj.2, by omega⟩]
  · rw [if_neg (by omega), if_neg (by omega)]

theorem putN_at {l : List Nat} {p size : Nat} (big : Bool) (v : Nat) (hp : p + size ≤ l.length) (j : Nat) : (putN l p size big v).getD j 0 = if p ≤ j ∧ j < p + size then digN v size (ixN p size big j) else l.getD j 0 := by
  unfold putN
  rw [putTo_at big v hp size (Nat.le_refl _)]
  by_cases hj : p ≤ j ∧ j < p + size
  · have hlt := ix_lt big hj.1 hj.2
    rw [if_pos ⟨hj.1, hj.2, hlt⟩, if_pos hj]
  · rw [if_neg (by omega), if_neg hj]

/-- what was laid down is read -/
theorem getTo_putN {l : List Nat} {p size v : Nat} (big : Bool) (hp : p + size ≤ l.length) (hv : v < 256 ^ size) : ∀ i, i ≤ size → getTo (putN l p size big v) p size big i = v / 256 ^ (size - i) := by
  intro i; induction i with
  | zero => intro _; rw [getTo, Nat.sub_zero, Nat.div_eq_of_lt hv]
  | succ i ih =>
    intro hi
    have hpl := place_in (p := p) big (show i < size by omega)
    rw [getTo, ih (by omega), putN_at big v hp, if_pos ⟨hpl.1, hpl.2⟩, ix_place big (by omega), digN]
    rw [show size - i = (size - (i + 1)) + 1 by omega, show size - 1 - i = size - (i + 1) by omega, Nat.pow_succ, ← Nat.div_div_eq_div_mul]
    have := Nat.div_add_mod (v / 256 ^ (size - (i + 1))) 256
    omega
theorem getN_putN {l : List Nat} {p size v : Nat} (big : Bool) (hp : p + size ≤ l.length) (hv : v < 256 ^ size) : getN (putN l p size big v) p size big = v := by
  unfold getN
  rw [getTo_putN big hp hv size (Nat.le_refl _), Nat.sub_self]
  exact Nat.div_one v

/-- what was read is laid down again -/
theorem getTo_div {l : List Nat} (h : ∀ x ∈ l, x < 256) (p size : Nat) (big : Bool) (m : Nat) : ∀ k, getTo l p size big (m + k) / 256 ^ k = getTo l p size big m := by
  intro k; induction k with
  | zero => exact Nat.div_one _
  | succ k ih =>
    have hx := getD_lt256 h (placeN p size big (m + k))
    show (getTo l p size big (m + k) * 256 + l.getD (placeN p size big (m + k)) 0) / 256 ^ (k + 1) = _
    rw [Nat.pow_succ, Nat.mul_comm (256 ^ k) 256, ← Nat.div_div_eq_div_mul]
    rw [show (getTo l p size big (m + k) * 256 + l.getD (placeN p size big (m + k)) 0) / 256 = getTo l p size big (m + k) by omega, ih]
theorem digN_getN {l : List Nat} (h : ∀ x ∈ l, x < 256) (p size : Nat) (big : Bool) (i : Nat) (hi : i < size) : digN (getN l p size big) size i = l.getD (placeN p size big i) 0 := by
  unfold digN getN
  have := getTo_div h p size big (i + 1) (size - 1 - i)
  rw [show i + 1 + (size - 1 - i) = size by omega] at this
  rw [this, getTo]
  have hx := getD_lt256 h (placeN p size big i)
  omega
theorem putN_back {l : List Nat} (h : ∀ x ∈ l, x < 256) {p size v : Nat} (big : Bool) (hp : p + size ≤ l.length) : putN (putN l p size big v) p size big (getN l p size big) = l := by
  have hlen : (putN l p size big v).length = l.length := putTo_length _ _ _ _ _ _
  refine ext_getD (by unfold putN; rw [putTo_length, putTo_length]) (fun j => ?_)
  rw [putN_at big _ (by rw [hlen]; exact hp), putN_at big v hp]
  by_cases hj : p ≤ j ∧ j < p + size
  · rw [if_pos hj, digN_getN h p size big _ (ix_lt big hj.1 hj.2)]
    congr 1
    unfold placeN ixN; cases big <;> simp <;> omega
  · rw [if_neg hj, if_neg hj]
end Go.Proofs.Ytgoackkmjfgneaa
