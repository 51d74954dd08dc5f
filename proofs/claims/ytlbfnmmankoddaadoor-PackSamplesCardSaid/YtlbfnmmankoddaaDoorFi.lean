/- What passes out of a row of draws: plain mathematics. No condition. -/
import Derived.Test.YtlbfnmmankoddaaDoorBa9
namespace Go.Proofs.YtlbfnmmankoddaaDoor
open Go.RowKit
set_option linter.unusedVariables false
set_option linter.unusedSimpArgs false
/-- what passes among the first n -/
def accL (acc : Nat → Bool) (val : Nat → Int) : Nat → List Int
  | 0 => []
  | n + 1 => if acc n = true then accL acc val n ++ [val n] else accL acc val n
theorem accL_skip (acc : Nat → Bool) (val : Nat → Int) (j : Nat) : ∀ x, j ≤ x → (∀ y, j ≤ y → y < x → acc y = false) → accL acc val x = accL acc val j
  | 0, h, _ => by obtain rfl : j = 0 := by omega
                  rfl
  | x + 1, h, hx => by
    by_cases e : j = x + 1
    · rw [e]
    · have ih := accL_skip acc val j x (by omega) (fun y h1 h2 => hx y h1 (by omega))
      show (if acc x = true then _ else _) = _
      rw [if_neg (by rw [hx x (by omega) (by omega)]; decide), ih]
theorem accL_next {acc : Nat → Bool} {val : Nat → Int} {j x : Nat} (h : j ≤ x) (hx : ∀ y, j ≤ y → y < x → acc y = false) (ha : acc x = true) : accL acc val (x + 1) = accL acc val j ++ [val x] := by
  show (if acc x = true then _ else _) = _
  rw [if_pos ha, accL_skip acc val j x h hx]
theorem accL_pre (acc : Nat → Bool) (val : Nat → Int) (j : Nat) : ∀ x, j ≤ x → ∃ r, accL acc val x = accL acc val j ++ r
  | 0, h => by obtain rfl : j = 0 := by omega
               exact ⟨[], by simp⟩
  | x + 1, h => by
    by_cases e : j = x + 1
    · exact ⟨[], by rw [e]; simp⟩
    · obtain ⟨r, hr⟩ := accL_pre acc val j x (by omega)
      show ∃ r, (if acc x = true then _ else _) = _
      by_cases ha : acc x = true
      · exact ⟨r ++ [val x], by rw [if_pos ha, hr, List.append_assoc]⟩
      · exact ⟨r, by rw [if_neg ha, hr]⟩
/-- a list as a polynomial -/
def fpL (l : List Int) : List Int := tellI (fun i => l.getD i 0) 256
theorem fpL_len (l : List Int) : (fpL l).length = 256 := tellI_length _ _
theorem fpL_nil : fpL [] = zerI := by
  unfold fpL
  conv => rhs; rw [← tellI_self zerI, zerI_length]
  exact tellI_congr fun i _ => by rw [zerI_get]; rfl
theorem fpL_set (l : List Int) (v : Int) (h : l.length < 256) : (fpL l).set l.length v = fpL (l ++ [v]) := by
  unfold fpL
  rw [tellI_set]
  refine tellI_congr fun i hi => ?_
  by_cases e : i = l.length
  · subst e; rw [if_pos rfl]; simp [List.getD_eq_getElem?_getD]
  · rw [if_neg e]
    by_cases h2 : i < l.length
    · simp [List.getD_eq_getElem?_getD, List.getElem?_append_left h2]
    · have h3 : l.length + 1 ≤ i := by omega
      simp [List.getD_eq_getElem?_getD, List.getElem?_eq_none (show (l ++ [v]).length ≤ i by simp; omega), List.getElem?_eq_none (show l.length ≤ i by omega)]
theorem fpL_IsP {l : List Int} (h : ∀ x ∈ l, -2147483648 ≤ x ∧ x ≤ 2147483647) : IsP (fpL l) := ⟨fpL_len l, fun i hi => by
  rw [show (fpL l).getD i 0 = l.getD i 0 from tellI_get _ _ _ hi]
  by_cases h2 : i < l.length
  · rw [List.getD_eq_getElem?_getD, List.getElem?_eq_getElem h2]; exact h _ (List.getElem_mem h2)
  · rw [List.getD_eq_getElem?_getD, List.getElem?_eq_none (by omega)]; simp⟩
theorem accL_mem {acc : Nat → Bool} {val : Nat → Int} {n : Nat} {x : Int} : x ∈ accL acc val n → ∃ y, y < n ∧ acc y = true ∧ x = val y := by
  induction n with
  | zero => intro h; cases h
  | succ n ih =>
    show x ∈ (if acc n = true then _ else _) → _
    by_cases ha : acc n = true
    · rw [if_pos ha]; intro h
      rcases List.mem_append.1 h with h | h
      · obtain ⟨y, h1, h2, h3⟩ := ih h; exact ⟨y, by omega, h2, h3⟩
      · exact ⟨n, by omega, ha, by simpa using h⟩
    · rw [if_neg ha]; intro h; obtain ⟨y, h1, h2, h3⟩ := ih h; exact ⟨y, by omega, h2, h3⟩
def fiE (l : List Int) : Nat := if 256 ≤ l.length then 0 else 94
def fiP (l : List Int) : List Int := if 256 ≤ l.length then rdL (fpL (l.take 256)) else zerI
theorem fi_yes {acc : Nat → Bool} {val : Nat → Int} {j M : Nat} (hj : j ≤ M) (h : (accL acc val j).length = 256) : fiE (accL acc val M) = 0 ∧ fiP (accL acc val M) = rdL (fpL (accL acc val j)) := by
  obtain ⟨r, hr⟩ := accL_pre acc val j M hj
  have hl : 256 ≤ (accL acc val M).length := by rw [hr, List.length_append]; omega
  refine ⟨if_pos hl, ?_⟩
  unfold fiP
  rw [if_pos hl, hr, List.take_append_of_le_length (by omega), List.take_of_length_le (by omega)]
theorem fi_no {acc : Nat → Bool} {val : Nat → Int} {j M : Nat} (hj : j ≤ M) (h : (accL acc val j).length < 256) (hx : ∀ y, j ≤ y → y < M → acc y = false) : fiE (accL acc val M) = 94 ∧ fiP (accL acc val M) = zerI := by
  have e := accL_skip acc val j M hj hx
  have hl : ¬ 256 ≤ (accL acc val M).length := by rw [e]; omega
  exact ⟨if_neg hl, if_neg hl⟩
theorem fiP_len (l : List Int) : (fiP l).length = 256 := by
  unfold fiP; split
  · exact rdL_len _
  · exact zerI_length
/-- what a closure answers that draws numbers -/
def DrawnIs (S : Nat → Prop) (D : World → Nat → Prop) (acc : Nat → Bool) (val : Nat → Int) (M j : Nat) (w : World) (e : Ending) (w' : World) : Prop :=
  KeepS S w w' ∧
  ((∃ x, j ≤ x ∧ x < M ∧ (∀ y, j ≤ y → y < x → acc y = false) ∧ acc x = true ∧ e = .returned (.tuple #[.int .i32 (val x), .bool true]) ∧ D w' (x + 1)) ∨
   ((∀ y, j ≤ y → y < M → acc y = false) ∧ e = .returned (.tuple #[.int .i32 0, .bool false])))
end Go.Proofs.YtlbfnmmankoddaaDoor
