/- Plain Keccak: byte by byte is block by block; permuting at once is permuting late; padding. No condition. -/
import Derived.Test.YtidnlaibfkjgpaaDoorKRefY
import Derived.Test.YtidnlaibfkjgpaaDoorKRefP
namespace Go.Proofs.YtidnlaibfkjgpaaDoor
open Go.RowKit
set_option linter.unusedVariables false
/-- so many permutations -/
def permN (s : List Nat) : Nat → List Nat
  | 0 => s
  | n + 1 => perm (permN s n)
theorem sqS_is (r : Nat) (hr : 0 < r) (s : List Nat) : ∀ i, sqS r (s, 0) i = (permN s (i / r), i % r)
  | 0 => by simp [sqS, permN]
  | i + 1 => by
    have ih := sqS_is r hr s i
    show stepN r (sqS r (s, 0) i) = _
    rw [ih]
    have hd := Nat.div_add_mod i r
    have hm := Nat.mod_lt i hr
    unfold stepN
    dsimp only
    by_cases h : i % r + 1 = r
    · rw [if_pos h]
      have e : i + 1 = r * (i / r + 1) := by rw [Nat.mul_add, Nat.mul_one]; omega
      rw [e, Nat.mul_div_cancel_left _ hr, Nat.mul_mod_right]
      rfl
    · rw [if_neg h]
      have hlt : i % r + 1 < r := by omega
      have e : i + 1 = r * (i / r) + (i % r + 1) := by omega
      have e1 : (i + 1) / r = i / r := by rw [e, Nat.mul_add_div hr, Nat.div_eq_of_lt hlt]; omega
      have e2 : (i + 1) % r = i % r + 1 := by
        conv => lhs; rw [e]
        rw [Nat.mul_add_mod, Nat.mod_eq_of_lt hlt]
      rw [e1, e2]
/-- bytes laid over a state from place i on -/
def putL (s : List Nat) (i : Nat) : List Nat → List Nat
  | [] => s
  | x :: l => putL (putN s i x) (i + 1) l
theorem putL_append (l m : List Nat) : ∀ (s : List Nat) (i : Nat), putL s i (l ++ m) = putL (putL s i l) (i + l.length) m := by
  induction l with
  | nil => intro s i; simp [putL]
  | cons x l ih =>
    intro s i
    rw [List.cons_append, putL, putL, ih, List.length_cons]
    congr 1; omega
theorem putL_snoc (l : List Nat) (x : Nat) (s : List Nat) (i : Nat) : putL s i (l ++ [x]) = putN (putL s i l) (i + l.length) x := by
  rw [putL_append]; rfl
theorem absL_part (r : Nat) (l : List Nat) : ∀ (s : List Nat) (i : Nat), i + l.length < r → absL r (s, i) l = (putL s i l, i + l.length) := by
  induction l with
  | nil => intro s i _; rfl
  | cons x l ih =>
    intro s i h
    rw [List.length_cons] at h
    have : absN r (s, i) x = (putN s i x, i + 1) := by
      unfold absN stepN; dsimp only; rw [if_neg (by omega)]
    show absL r (absN r (s, i) x) l = _
    rw [this, ih _ _ (by omega), putL, List.length_cons]
    congr 1; omega
theorem absL_block (r : Nat) (l : List Nat) (s : List Nat) (i : Nat) (h : i + l.length = r) (hl : 0 < l.length) : absL r (s, i) l = (perm (putL s i l), 0) := by
  obtain ⟨l', x, rfl⟩ : ∃ l' x, l = l' ++ [x] := ⟨l.dropLast, l.getLast (List.ne_nil_of_length_pos hl), (List.dropLast_concat_getLast _).symm⟩
  rw [List.length_append, List.length_singleton] at h
  rw [absL_append, absL_part r l' s i (by omega), putL_snoc]
  show absN r (putL s i l', i + l'.length) x = _
  unfold absN stepN; dsimp only; rw [if_pos (by omega)]
theorem xo_nought {a : Nat} (h : a < 2 ^ 64) : xo a 0 = a := by
  unfold xo bx; rw [Nat.mod_eq_of_lt h]; simp
theorem putN_nought {s : List Nat} (h : Good s) (i : Nat) (hi : i < 200) : putN s i 0 = s := by
  have hi8 : i / 8 < s.length := by rw [h.1]; omega
  unfold putN
  rw [Nat.zero_mul, xo_nought (by rw [List.getD_eq_getElem?_getD, List.getElem?_eq_getElem hi8]; exact h.2 _ (List.getElem_mem _))]
  apply List.ext_getElem (by simp)
  intro j h1 h2
  rw [List.getElem_set]
  split
  · rename_i e; subst e; rw [List.getD_eq_getElem?_getD, List.getElem?_eq_getElem hi8]; rfl
  · rfl
theorem putL_noughts {s : List Nat} (h : Good s) : ∀ (n i : Nat), i + n ≤ 200 → putL s i (zeros n) = s
  | 0, i, _ => rfl
  | n + 1, i, hi => by
    show putL (putN s i 0) (i + 1) (zeros n) = s
    rw [putN_nought h i (by omega)]
    exact putL_noughts h n (i + 1) (by omega)
/-- what stands behind the message: from place p of a rate of r -/
def padT (r e p : Nat) : List Nat := if p + 1 = r then [e + 128] else e :: (zeros (r - 2 - p) ++ [128])
theorem padT_length {r e p : Nat} (hp : p < r) : p + (padT r e p).length = r := by
  unfold padT; split
  · simpa
  · simp [zeros]; omega
theorem xo_128 {e j : Nat} (he : e = 6 ∨ e = 31) (hj : j < 8) : xo (e * 2 ^ (8 * j)) (128 * 2 ^ (8 * j)) = (e + 128) * 2 ^ (8 * j) := by
  have h6 : ∀ j, j < 8 → xo (6 * 2 ^ (8 * j)) (128 * 2 ^ (8 * j)) = (6 + 128) * 2 ^ (8 * j) := by decide +kernel
  have h31 : ∀ j, j < 8 → xo (31 * 2 ^ (8 * j)) (128 * 2 ^ (8 * j)) = (31 + 128) * 2 ^ (8 * j) := by decide +kernel
  rcases he with rfl | rfl
  · exact h6 j hj
  · exact h31 j hj
theorem putN_128 {s : List Nat} (h : Good s) {e p : Nat} (he : e = 6 ∨ e = 31) (hp : p < 200) : putN (putN s p e) p 128 = putN s p (e + 128) := by
  have hp8 : p / 8 < s.length := by rw [h.1]; omega
  unfold putN
  rw [List.set_set]
  congr 1
  rw [List.getD_eq_getElem?_getD, List.getElem?_set_self hp8, Option.getD_some, xo_assoc, xo_128 he (Nat.mod_lt _ (by decide))]
theorem putL_pad {r e p : Nat} {s : List Nat} (h : Good s) (hp : p < r) (hr : r ≤ 200) (he : e = 6 ∨ e = 31) : putL s p (padT r e p) = putN (putN s p e) (r - 1) 128 := by
  unfold padT; split
  · rename_i hpr
    have : r - 1 = p := by omega
    rw [this, putN_128 h he (by omega)]; rfl
  · rw [putL, putL_append, putL_noughts (putN_good h p e) _ _ (by omega)]
    have : p + 1 + (zeros (r - 2 - p)).length = r - 1 := by simp [zeros]; omega
    rw [this]; rfl
/-- the padded message leads to what stands behind the message -/
theorem absL_pad (k : Nat) (hk : IsKind k) (s : List Nat) (i : Nat) (L : List Nat) (h : Good s) (hi : i < rateK k) :
    absL (rateK k) (s, i) (L ++ padT (rateK k) (endK k) (absL (rateK k) (s, i) L).2) = (endN k (absL (rateK k) (s, i) L), 0) := by
  have hr := rateK_le hk
  have hg := absL_good (r := rateK k) (by omega) L (s, i) h hi
  have he : endK k = 6 ∨ endK k = 31 := by unfold endK; split <;> (first | exact .inr rfl | (split <;> (first | exact .inr rfl | exact .inl rfl)))
  rw [absL_append]
  generalize absL (rateK k) (s, i) L = q at *
  obtain ⟨s1, p⟩ := q
  have hp : p < rateK k := hg.2
  have hl : p + (padT (rateK k) (endK k) p).length = rateK k := padT_length hp
  have hpos : 0 < (padT (rateK k) (endK k) p).length := by omega
  show absL (rateK k) (s1, p) (padT (rateK k) (endK k) p) = (endN k (s1, p), 0)
  rw [absL_block _ _ _ _ hl hpos, putL_pad hg.1 hp (by omega) he]
  rfl
theorem absL_place (r : Nat) (hr : 0 < r) : ∀ (l : List Nat) (s : List Nat) (i : Nat), i < r → (absL r (s, i) l).2 = (i + l.length) % r
  | [], s, i, h => by rw [List.length_nil, Nat.add_zero, Nat.mod_eq_of_lt h]; rfl
  | x :: l, s, i, h => by
    show (absL r (absN r (s, i) x) l).2 = _
    unfold absN stepN
    dsimp only
    by_cases h1 : i + 1 = r
    · rw [if_pos h1, absL_place r hr l _ 0 hr, List.length_cons, show i + (l.length + 1) = r + l.length from by omega, Nat.add_mod_left, Nat.zero_add]
    · rw [if_neg h1, absL_place r hr l _ (i + 1) (by omega), List.length_cons]
      congr 1; omega
end Go.Proofs.YtidnlaibfkjgpaaDoor
