/- Plain: the padded message of the document, block by block. No condition. -/
import Derived.Test.YtidnlaibfkjgpaaDoorKPl
namespace Go.Proofs.YtidnlaibfkjgpaaDoor
open Go.RowKit
set_option linter.unusedVariables false
/-- how many noughts stand behind the ending -/
def zN (r n : Nat) : Nat := (r - (n + 1) % r) % r
theorem zN_mod {r n : Nat} (hr : 0 < r) : (n + 1 + zN r n) % r = 0 := by
  unfold zN
  have hm := Nat.mod_lt (n + 1) hr
  have hd := Nat.div_add_mod (n + 1) r
  generalize (n + 1) % r = p at *
  generalize (n + 1) / r = q at *
  rcases Nat.eq_zero_or_pos p with h | h
  · subst h
    rw [Nat.sub_zero, Nat.mod_self, ← hd]; simp
  · rw [Nat.mod_eq_of_lt (show r - p < r by omega), show n + 1 + (r - p) = r * (q + 1) by rw [Nat.mul_add, Nat.mul_one]; omega, Nat.mul_mod_right]
/-- before that the length is no multiple -/
theorem zN_min {r n j : Nat} (hr : 0 < r) (hj : j < zN r n) : (n + 1 + j) % r ≠ 0 := by
  unfold zN at hj
  have hm := Nat.mod_lt (n + 1) hr
  have hd := Nat.div_add_mod (n + 1) r
  generalize (n + 1) % r = p at *
  generalize (n + 1) / r = q at *
  rcases Nat.eq_zero_or_pos p with h | h
  · subst h
    rw [Nat.sub_zero, Nat.mod_self] at hj; omega
  · rw [Nat.mod_eq_of_lt (show r - p < r by omega)] at hj
    rw [← hd, Nat.add_assoc, Nat.mul_add_mod, Nat.mod_eq_of_lt (show p + j < r by omega)]; omega
theorem zN_lt {r n : Nat} (hr : 0 < r) : zN r n < r := Nat.mod_lt _ hr
/-- the padded message -/
def padM (k : Nat) (l : List Nat) : List Nat := l ++ padT (rateK k) (endK k) (l.length % rateK k)
theorem zN_pad {r n : Nat} (hr : 2 ≤ r) : (n % r + 1 = r ∧ zN r n = 0) ∨ (n % r + 1 ≠ r ∧ zN r n = (r - 2 - n % r) + 1) := by
  have h0 : 0 < r := by omega
  have hm := Nat.mod_lt n h0
  unfold zN
  have e : (n + 1) % r = if n % r + 1 = r then 0 else n % r + 1 := by
    have hd := Nat.div_add_mod n r
    split
    · rename_i h
      have : n + 1 = r * (n / r + 1) := by rw [Nat.mul_add, Nat.mul_one]; omega
      rw [this, Nat.mul_mod_right]
    · rename_i h
      have : n + 1 = r * (n / r) + (n % r + 1) := by omega
      rw [this, Nat.mul_add_mod, Nat.mod_eq_of_lt (by omega)]
  rw [e]
  by_cases h : n % r + 1 = r
  · exact .inl ⟨h, by rw [if_pos h, Nat.sub_zero, Nat.mod_self]⟩
  · refine .inr ⟨h, ?_⟩
    rw [if_neg h, Nat.mod_eq_of_lt (by omega)]; omega
/-- the last byte with its highest bit: the padded message -/
theorem pad_set {k : Nat} (hk : IsKind k) (l : List Nat) : (l ++ [endK k] ++ zeros (zN (rateK k) l.length)).set (l.length + zN (rateK k) l.length) (if zN (rateK k) l.length = 0 then endK k + 128 else 128) = padM k l := by
  have hr := rateK_le hk
  unfold padM padT
  rcases zN_pad (r := rateK k) (n := l.length) (by omega) with ⟨h1, h2⟩ | ⟨h1, h2⟩
  · rw [h2, if_pos rfl, if_pos h1]
    simp [zeros]
  · rw [h2, if_neg (by omega), if_neg h1]
    generalize rateK k - 2 - l.length % rateK k = m
    have e : l ++ [endK k] ++ zeros (m + 1) = (l ++ (endK k :: zeros m)) ++ [0] := by
      simp [zeros, List.replicate_succ']
    rw [e, List.set_append_right (h := by simp [zeros])]
    have e2 : l.length + (m + 1) - (l ++ (endK k :: zeros m)).length = 0 := by simp [zeros]
    rw [e2]
    simp
theorem pad_last {r e : Nat} (l : List Nat) (z : Nat) : (l ++ [e] ++ zeros z).getD (l.length + z) 0 = if z = 0 then e else 0 := by
  rcases z with _ | z
  · simp [zeros, List.getD_eq_getElem?_getD]
  · rw [if_neg (by omega), List.getD_eq_getElem?_getD, List.getElem?_append_right (by simp)]
    simp only [List.length_append, List.length_singleton, zeros]
    rw [List.getElem?_replicate]
    split <;> simp
theorem padM_length {k : Nat} (hk : IsKind k) (l : List Nat) : (padM k l).length = l.length + 1 + zN (rateK k) l.length := by
  rw [← pad_set hk]; simp [zeros]; omega
theorem padM_lt {k : Nat} (hk : IsKind k) {l : List Nat} (hl : ∀ x ∈ l, x < 256) : ∀ x ∈ padM k l, x < 256 := by
  have he : endK k = 6 ∨ endK k = 31 := by unfold endK; split <;> (first | exact .inr rfl | (split <;> (first | exact .inr rfl | exact .inl rfl)))
  intro x hx
  unfold padM padT at hx
  rcases List.mem_append.1 hx with h | h
  · exact hl x h
  · split at h
    · obtain rfl := List.mem_singleton.1 h; omega
    · rcases List.mem_cons.1 h with rfl | h
      · omega
      · rcases List.mem_append.1 h with h | h
        · have := List.eq_of_mem_replicate h; omega
        · obtain rfl := List.mem_singleton.1 h; omega
theorem good_nought : Good (zeros 25) := ⟨rfl, fun x hx => by rw [List.eq_of_mem_replicate hx]; decide⟩
/-- the state behind so many blocks -/
def blkS (k : Nat) (l : List Nat) (b : Nat) : List Nat := (absL (rateK k) (zeros 25, 0) ((padM k l).take (rateK k * b))).1
theorem blkS_zero (k : Nat) (l : List Nat) : blkS k l 0 = zeros 25 := rfl
theorem blkS_good {k : Nat} (hk : IsKind k) (l : List Nat) (b : Nat) : Good (blkS k l b) := (absL_good (by have := rateK_le hk; omega) _ (zeros 25, 0) good_nought (by have := rateK_le hk; show 0 < _; omega)).1
theorem blkS_succ {k : Nat} (hk : IsKind k) (l : List Nat) (b : Nat) (h : rateK k * (b + 1) ≤ (padM k l).length) : blkS k l (b + 1) = perm (putL (blkS k l b) 0 (((padM k l).drop (rateK k * b)).take (rateK k))) := by
  have hr := rateK_le hk
  have h0 : 0 < rateK k := by omega
  unfold blkS
  have e : (padM k l).take (rateK k * (b + 1)) = (padM k l).take (rateK k * b) ++ ((padM k l).drop (rateK k * b)).take (rateK k) := by
    rw [Nat.mul_add, Nat.mul_one, List.take_add]
  have hp : (absL (rateK k) (zeros 25, 0) ((padM k l).take (rateK k * b))).2 = 0 := by
    rw [absL_place _ h0 _ _ _ h0, List.length_take, Nat.min_eq_left (by rw [Nat.mul_add] at h; omega), Nat.zero_add, Nat.mul_mod_right]
  rw [e, absL_append]
  generalize absL (rateK k) (zeros 25, 0) ((padM k l).take (rateK k * b)) = q at *
  obtain ⟨s, i⟩ := q
  subst hp
  have hl : (((padM k l).drop (rateK k * b)).take (rateK k)).length = rateK k := by
    rw [List.length_take, List.length_drop]; rw [Nat.mul_add, Nat.mul_one] at h; omega
  rw [absL_block _ _ _ _ (by omega) (by omega)]
theorem blkS_end {k : Nat} (hk : IsKind k) (l : List Nat) (b : Nat) (h : rateK k * b = (padM k l).length) : blkS k l b = endN k (absL (rateK k) (zeros 25, 0) l) := by
  have hr := rateK_le hk
  have h0 : 0 < rateK k := by omega
  have hp := absL_place (rateK k) h0 l (zeros 25) 0 h0
  have hpad := absL_pad k hk (zeros 25) 0 l good_nought h0
  rw [hp, Nat.zero_add] at hpad
  unfold blkS
  rw [h, List.take_length]
  unfold padM
  rw [hpad]
/-- the state while a block is laid over it -/
def putB (s P : List Nat) (at_ i : Nat) : List Nat := putL s 0 ((P.drop at_).take i)
theorem putB_succ (s P : List Nat) (at_ i : Nat) (h : at_ + i < P.length) : putB s P at_ (i + 1) = putN (putB s P at_ i) i (P.getD (at_ + i) 0) := by
  unfold putB
  have e : (P.drop at_).take (i + 1) = (P.drop at_).take i ++ [P.getD (at_ + i) 0] := by
    rw [List.take_add_one, List.getElem?_drop, List.getD_eq_getElem?_getD, List.getElem?_eq_getElem h]; rfl
  rw [e, putL_snoc, List.length_take, List.length_drop, Nat.min_eq_left (by omega), Nat.zero_add]
theorem putB_good {s P : List Nat} (h : Good s) (at_ : Nat) (i : Nat) (hi : at_ + i ≤ P.length) : Good (putB s P at_ i) := by
  induction i with
  | zero => exact h
  | succ i ih => rw [putB_succ s P at_ i (by omega)]; exact putN_good (ih (by omega)) _ _
end Go.Proofs.YtidnlaibfkjgpaaDoor
