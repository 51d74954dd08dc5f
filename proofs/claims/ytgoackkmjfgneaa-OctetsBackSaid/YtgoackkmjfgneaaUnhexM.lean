/- Digits read as bytes again, as plain lists of naturals. No condition. -/
import Derived.Test.YtgoackkmjfgneaaHexM
namespace Go.Proofs.Ytgoackkmjfgneaa

def unhexD (c : Nat) : Option Nat := if 48 ≤ c ∧ c ≤ 57 then some (c - 48) else if 97 ≤ c ∧ c ≤ 102 then some (c - 87) else none
theorem unhexD_lt {c d : Nat} (h : unhexD c = some d) : d < 16 := by
  unfold unhexD at h; split at h
  · injection h with h; omega
  · split at h
    · injection h with h; omega
    · cases h
theorem unhexD_hex {n : Nat} (h : n < 16) : unhexD (hexD n) = some n := by
  unfold hexD unhexD; split
  · rw [if_pos (by omega)]; congr 1; omega
  · rw [if_neg (by omega), if_pos (by omega)]; congr 1; omega
theorem hexD_unhex {c d : Nat} (h : unhexD c = some d) : hexD d = c := by
  unfold unhexD at h; unfold hexD; split at h
  · injection h with h; rw [if_pos (by omega)]; omega
  · split at h
    · injection h with h; rw [if_neg (by omega)]; omega
    · cases h

/-- the bytes of the first k pairs of digits -/
def unhexTo (bs : List Nat) : Nat → Option (List Nat)
  | 0 => some []
  | k + 1 => match unhexTo bs k, unhexD (bs.getD (2 * k) 0), unhexD (bs.getD (2 * k + 1) 0) with
    | some l, some a, some b => some (l ++ [16 * a + b])
    | _, _, _ => none
theorem unhexTo_some {bs l : List Nat} {k a b : Nat} (h : unhexTo bs k = some l) (ha : unhexD (bs.getD (2 * k) 0) = some a) (hb : unhexD (bs.getD (2 * k + 1) 0) = some b) : unhexTo bs (k + 1) = some (l ++ [16 * a + b]) := by
  simp only [unhexTo, h, ha, hb]
theorem unhexTo_none_a {bs : List Nat} {k : Nat} (ha : unhexD (bs.getD (2 * k) 0) = none) : unhexTo bs (k + 1) = none := by
  unfold unhexTo; split
  · rename_i h _; rw [ha] at h; cases h
  · rfl
theorem unhexTo_none_b {bs : List Nat} {k : Nat} (hb : unhexD (bs.getD (2 * k + 1) 0) = none) : unhexTo bs (k + 1) = none := by
  unfold unhexTo; split
  · rename_i h; rw [hb] at h; cases h
  · rfl
theorem unhexTo_more {bs : List Nat} {k : Nat} (h : unhexTo bs k = none) : ∀ m, unhexTo bs (k + m) = none := by
  intro m; induction m with
  | zero => exact h
  | succ m ih =>
    show unhexTo bs (k + m + 1) = none
    unfold unhexTo; rw [ih]
theorem unhexTo_length {bs : List Nat} : ∀ {k : Nat} {l : List Nat}, unhexTo bs k = some l → l.length = k ∧ ∀ x ∈ l, x < 256 := by
  intro k; induction k with
  | zero => intro l h; simp only [unhexTo, Option.some.injEq] at h; subst h; simp
  | succ k ih =>
    intro l h
    unfold unhexTo at h; split at h
    · rename_i l0 a b h0 ha hb
      injection h with h; subst h
      have := ih h0
      have ha := unhexD_lt ha
      have hb := unhexD_lt hb
      refine ⟨by simp [this.1], fun x hx => ?_⟩
      rcases List.mem_append.1 hx with hx | hx
      · exact this.2 x hx
      · simp at hx; omega
    · cases h
/-- the digits of what was read are what was read -/
theorem hex_unhexTo {bs : List Nat} : ∀ {k : Nat} {l : List Nat}, 2 * k ≤ bs.length → unhexTo bs k = some l → hexL l = bs.take (2 * k) := by
  intro k; induction k with
  | zero => intro l _ h; simp only [unhexTo, Option.some.injEq] at h; subst h; rfl
  | succ k ih =>
    intro l hk h
    unfold unhexTo at h; split at h
    · rename_i l0 a b h0 ha hb
      injection h with h; subst h
      have hla := unhexD_lt ha
      have hlb := unhexD_lt hb
      rw [hexL_snoc, ih (by omega) h0, show (16 * a + b) / 16 = a by omega, show (16 * a + b) % 16 = b by omega, hexD_unhex ha, hexD_unhex hb]
      rw [show 2 * (k + 1) = 2 * k + 1 + 1 by omega, List.take_succ_eq_append_getElem (show 2 * k + 1 < bs.length by omega), List.take_succ_eq_append_getElem (show 2 * k < bs.length by omega)]
      simp only [List.getD_eq_getElem?_getD, List.getElem?_eq_getElem (show 2 * k < bs.length by omega), List.getElem?_eq_getElem (show 2 * k + 1 < bs.length by omega), Option.getD_some, List.append_assoc]
      rfl
    · cases h
theorem hexL_getD (l : List Nat) : ∀ k, k < l.length → (hexL l).getD (2 * k) 0 = hexD (l.getD k 0 / 16) ∧ (hexL l).getD (2 * k + 1) 0 = hexD (l.getD k 0 % 16) := by
  induction l with
  | nil => intro k hk; simp at hk
  | cons x l ih =>
    intro k hk
    have e : hexL (x :: l) = hexD (x / 16) :: hexD (x % 16) :: hexL l := rfl
    rw [e]
    cases k with
    | zero => exact ⟨rfl, rfl⟩
    | succ k =>
      have := ih k (by simpa using hk)
      rw [show 2 * (k + 1) = 2 * k + 1 + 1 by omega]
      exact this
/-- what was told is read -/
theorem unhex_hexTo {l : List Nat} (hl : ∀ x ∈ l, x < 256) : ∀ k, k ≤ l.length → unhexTo (hexL l) k = some (l.take k) := by
  intro k; induction k with
  | zero => intro _; rfl
  | succ k ih =>
    intro hk
    have h1 := hexL_getD l k (by omega)
    have hx : l.getD k 0 < 256 := by
      rw [List.getD_eq_getElem?_getD, List.getElem?_eq_getElem (by omega)]; exact hl _ (List.getElem_mem _)
    rw [unhexTo_some (ih (by omega)) (by rw [h1.1]; exact unhexD_hex (by omega)) (by rw [h1.2]; exact unhexD_hex (by omega))]
    congr 1
    rw [List.take_succ_eq_append_getElem (by omega)]
    congr 2
    rw [List.getD_eq_getElem?_getD, List.getElem?_eq_getElem (by omega)]
    simp only [Option.getD_some]
    omega
theorem unhex_hex {l : List Nat} (hl : ∀ x ∈ l, x < 256) : unhexTo (hexL l) l.length = some l := by
  rw [unhex_hexTo hl _ (Nat.le_refl _), List.take_length]
theorem bits_or_digits (d e : Nat) (hd : d < 16) (he : e < 16) : bits .or .u8 ((d : Int) * 16) (e : Int) = ((16 * d + e : Nat) : Int) := by
  have := u8_or_nat (d * 16) e (by omega) (by omega)
  rw [nat_join 4 (d * 16) e (by omega) (by omega)] at this
  rw [show 16 * d + e = d * 16 + e by omega]
  exact this
end Go.Proofs.Ytgoackkmjfgneaa
