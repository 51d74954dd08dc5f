/- Tables of regions: the plain mathematics of both machines' memories. No condition. -/
import Derived.Test.YtelfhpmbnficfaaFe
namespace Go.Proofs.Ytelfhpmbnficfaa
open Go.RowKit
set_option linter.unusedVariables false
set_option maxRecDepth 100000
set_option linter.unusedSimpArgs false
/-- a region -/
structure Reg where
  b : Nat
  n : Nat
  rd : Bool
  wr : Bool
  ex : Bool
  sc : Bool
instance : Inhabited Reg := ⟨⟨0, 0, false, false, false, false⟩⟩
/-- its fields are 64 bits wide -/
def RFit (x : Reg) : Prop := x.b < 18446744073709551616 ∧ x.n < 18446744073709551616
/-- a range is within RAM -/
def wiB (a s : Nat) : Bool := decide (1073741824 ≤ a ∧ a + s ≤ 1073807360)
structure ROk (x : Reg) : Prop where
  lo : 1073741824 ≤ x.b
  hi : x.b + x.n ≤ 1073807360
  pos : 0 < x.n
  wx : (x.wr && x.ex) = false
/-- a table as it may be -/
structure TOk (t : List Reg) : Prop where
  ok : ∀ (j : Nat) (x : Reg), t[j]? = some x → ROk x
  so : ∀ (i j : Nat) (x y : Reg), t[i]? = some x → t[j]? = some y → i < j → x.b + x.n ≤ y.b
  len : t.length ≤ 16
theorem TOk.nil : TOk [] := ⟨fun j x h => by simp at h, fun i j x y h => by simp at h, by simp⟩
theorem ROk.fit {x : Reg} (h : ROk x) : RFit x := by have := h.hi; unfold RFit; omega
/-- how many regions end at an address or before -/
def bh : List Reg → Nat → Nat
  | [], _ => 0
  | y :: t, a => if y.b + y.n ≤ a then bh t a + 1 else 0
theorem bh_le : ∀ (t : List Reg) (a : Nat), bh t a ≤ t.length
  | [], a => Nat.le_refl _
  | y :: t, a => by
    have := bh_le t a
    unfold bh
    split
    · simp; exact this
    · simp
theorem bh_lt : ∀ (t : List Reg) (a j : Nat) (x : Reg), t[j]? = some x → j < bh t a → x.b + x.n ≤ a
  | [], a, j, x, h, _ => by simp at h
  | y :: t, a, j, x, h, hj => by
    unfold bh at hj
    split at hj
    · cases j with
      | zero => simp at h; subst h; assumption
      | succ j => exact bh_lt t a j x (by simpa using h) (by omega)
    · omega
theorem bh_at : ∀ (t : List Reg) (a : Nat) (x : Reg), t[bh t a]? = some x → a < x.b + x.n
  | [], a, x, h => by simp at h
  | y :: t, a, x, h => by
    unfold bh at h
    split at h
    · exact bh_at t a x (by simpa using h)
    · simp at h; subst h; omega
theorem bh_ge {t : List Reg} (k : TOk t) (a j : Nat) (x : Reg) (h : t[j]? = some x) (hj : bh t a ≤ j) : a < x.b + x.n := by
  have hl : j < t.length := (List.getElem?_eq_some_iff.1 h).1
  obtain ⟨y, hy⟩ : ∃ y, t[bh t a]? = some y := ⟨_, List.getElem?_eq_getElem (by omega)⟩
  have h1 := bh_at t a y hy
  by_cases he : bh t a = j
  · rw [he] at hy; rw [hy] at h; injection h with h; subst h; exact h1
  · have := k.so _ _ _ _ hy h (by omega)
    omega
theorem bh_uniq (t : List Reg) (a k : Nat) (hk : k ≤ t.length) (h1 : ∀ (j : Nat) (x : Reg), t[j]? = some x → j < k → x.b + x.n ≤ a) (h2 : k < t.length → ∃ x, t[k]? = some x ∧ a < x.b + x.n) : bh t a = k := by
  rcases Nat.lt_trichotomy (bh t a) k with h | h | h
  · obtain ⟨y, hy⟩ : ∃ y, t[bh t a]? = some y := ⟨_, List.getElem?_eq_getElem (by omega)⟩
    have := bh_at t a y hy
    have := h1 _ _ hy h
    omega
  · exact h
  · have hl := bh_le t a
    obtain ⟨y, hy, ha⟩ := h2 (by omega)
    have := bh_lt t a k y hy h
    omega
theorem ent {t : List Reg} {j : Nat} (h : j < t.length) : ∃ x, t[j]? = some x := ⟨_, List.getElem?_eq_getElem h⟩
theorem len_of {t : List Reg} {j : Nat} {x : Reg} (h : t[j]? = some x) : j < t.length := (List.getElem?_eq_some_iff.1 h).1
/-- the place of the region that has an address -/
theorem bh_here {t : List Reg} (k : TOk t) (a j : Nat) (x : Reg) (h : t[j]? = some x) (h1 : x.b ≤ a) (h2 : a < x.b + x.n) : bh t a = j :=
  bh_uniq t a j (Nat.le_of_lt (len_of h)) (fun i y hy hi => by have := k.so _ _ _ _ hy h hi; omega) (fun _ => ⟨x, h, h2⟩)
/-- does a region have an address? -/
def hasB (x : Reg) (a : Nat) : Bool := decide (x.b ≤ a ∧ a < x.b + x.n)
/-- the region that has an address -/
def fnd (t : List Reg) (a : Nat) : Option Reg := match t[bh t a]? with
  | some y => if y.b ≤ a then some y else none
  | none => none
theorem fnd_here {t : List Reg} (k : TOk t) (a j : Nat) (x : Reg) (h : t[j]? = some x) (hh : hasB x a = true) : fnd t a = some x := by
  have hh := of_decide_eq_true hh
  unfold fnd
  rw [bh_here k a j x h hh.1 hh.2, h]
  simp [hh.1]
theorem fnd_none {t : List Reg} (a : Nat) (h : ∀ (j : Nat) (x : Reg), t[j]? = some x → hasB x a = false) : fnd t a = none := by
  unfold fnd
  cases hx : t[bh t a]? with
  | none => rfl
  | some y =>
    have h1 := bh_at t a y hx
    have h2 := of_decide_eq_false (h _ _ hx)
    simp only
    rw [if_neg (by omega)]
theorem fnd_some {t : List Reg} {a : Nat} {x : Reg} (h : fnd t a = some x) : ∃ j : Nat, t[j]? = some x ∧ x.b ≤ a ∧ a < x.b + x.n := by
  unfold fnd at h
  cases hx : t[bh t a]? with
  | none => rw [hx] at h; cases h
  | some y =>
    rw [hx] at h
    simp only at h
    by_cases hy : y.b ≤ a
    · rw [if_pos hy] at h; injection h with h; subst h; exact ⟨_, hx, hy, bh_at t a y hx⟩
    · rw [if_neg hy] at h; cases h
/-- does a region meet one of the table? -/
def hits (t : List Reg) (x : Reg) : Bool := match t[bh t x.b]? with
  | some y => decide (y.b < x.b + x.n)
  | none => false
def meetB (y x : Reg) : Bool := decide (y.b < x.b + x.n ∧ x.b < y.b + y.n)
theorem hits_here {t : List Reg} (k : TOk t) (x y : Reg) (j : Nat) (h : t[j]? = some y) (hm : meetB y x = true) : hits t x = true := by
  have hm := of_decide_eq_true hm
  have hj : bh t x.b ≤ j := by
    rcases Nat.lt_or_ge j (bh t x.b) with h' | h'
    · have := bh_lt t x.b j y h h'; omega
    · exact h'
  obtain ⟨z, hz⟩ := ent (t := t) (j := bh t x.b) (by have := len_of h; omega)
  unfold hits
  rw [hz]
  simp only [decide_eq_true_eq]
  by_cases he : bh t x.b = j
  · rw [he, h] at hz; injection hz with hz; subst hz; omega
  · have := k.so _ _ _ _ hz h (by omega)
    have := (k.ok _ _ hz).pos
    omega
theorem hits_none {t : List Reg} (x : Reg) (h : ∀ (j : Nat) (y : Reg), t[j]? = some y → meetB y x = false) : hits t x = false := by
  unfold hits
  cases hx : t[bh t x.b]? with
  | none => rfl
  | some y =>
    have h1 := bh_at t x.b y hx
    have h2 := of_decide_eq_false (h _ _ hx)
    simp only [decide_eq_false_iff_not]
    omega
/-- the answer of Add, and the table behind it -/
def addE (t : List Reg) (x : Reg) : Int := if t.length = 16 then 164 else if x.n = 0 ∨ wiB x.b x.n = false then 161 else if (x.wr && x.ex) = true then 163 else if hits t x = true then 162 else 0
def addT (t : List Reg) (x : Reg) : List Reg := if addE t x = 0 then t.take (bh t x.b) ++ (x :: t.drop (bh t x.b)) else t
theorem addE_ok {t : List Reg} {x : Reg} (h : addE t x = 0) : t.length ≠ 16 ∧ x.n ≠ 0 ∧ wiB x.b x.n = true ∧ (x.wr && x.ex) = false ∧ hits t x = false := by
  unfold addE at h
  split at h
  · cases h
  split at h
  · cases h
  split at h
  · cases h
  split at h
  · cases h
  rename_i h1 h2 h3 h4
  rw [Bool.not_eq_true] at h3 h4
  refine ⟨h1, fun e => h2 (.inl e), ?_, h3, h4⟩
  cases hw : wiB x.b x.n with
  | true => rfl
  | false => exact absurd (.inr hw) h2
theorem ins_get (t : List Reg) (x : Reg) (i j : Nat) (hi : i ≤ t.length) : (t.take i ++ (x :: t.drop i))[j]? = if j < i then t[j]? else if j = i then some x else t[j - 1]? := by
  have hl : (t.take i).length = i := by rw [List.length_take]; omega
  by_cases h1 : j < i
  · rw [if_pos h1, List.getElem?_append_left (by omega), List.getElem?_take, if_pos h1]
  · rw [if_neg h1, List.getElem?_append_right (by omega), hl]
    by_cases h2 : j = i
    · rw [if_pos h2, h2, Nat.sub_self]; rfl
    · rw [if_neg h2]
      obtain ⟨d, hd⟩ : ∃ d, j - i = d + 1 := ⟨j - i - 1, by omega⟩
      rw [hd, List.getElem?_cons_succ, List.getElem?_drop, show i + d = j - 1 by omega]
theorem addT_ok {t : List Reg} (k : TOk t) (x : Reg) : TOk (addT t x) := by
  unfold addT
  split
  · rename_i h
    obtain ⟨h1, h2, h3, h4, h5⟩ := addE_ok h
    have h3 := of_decide_eq_true h3
    have hx : ROk x := ⟨h3.1, h3.2, by omega, h4⟩
    have hle := bh_le t x.b
    have hafter : ∀ j y, t[j]? = some y → bh t x.b ≤ j → x.b + x.n ≤ y.b := by
      intro j y hy hj
      have h6 := bh_ge k x.b j y hy hj
      have h7 : meetB y x = false := by
        cases hm : meetB y x with
        | false => rfl
        | true => rw [hits_here k x y j hy hm] at h5; cases h5
      have h7 := of_decide_eq_false h7
      omega
    refine ⟨?_, ?_, ?_⟩
    · intro j y hy
      rw [ins_get t x _ j hle] at hy
      split at hy
      · exact k.ok _ _ hy
      split at hy
      · injection hy with hy; subst hy; exact hx
      · exact k.ok _ _ hy
    · intro i j y z hy hz hij
      rw [ins_get t x _ i hle] at hy
      rw [ins_get t x _ j hle] at hz
      split at hy
      · split at hz
        · exact k.so _ _ _ _ hy hz hij
        split at hz
        · injection hz with hz; subst hz; exact bh_lt t _ _ _ hy (by assumption)
        · exact k.so _ _ _ _ hy hz (by omega)
      split at hy
      · injection hy with hy; subst hy
        rw [if_neg (by omega), if_neg (by omega)] at hz
        exact hafter _ _ hz (by omega)
      · rw [if_neg (by omega), if_neg (by omega)] at hz
        exact k.so _ _ _ _ hy hz (by omega)
    · have := k.len
      rw [List.length_append, List.length_cons, List.length_take, List.length_drop]
      omega
  · exact k
theorem addT_no {t : List Reg} {x : Reg} (h : addE t x ≠ 0) : addT t x = t := by unfold addT; rw [if_neg h]
/-- the answer of Drop, and the table behind it -/
def drE (t : List Reg) (a : Nat) : Int := match t[bh t a]? with
  | some y => if y.b = a then 0 else 165
  | none => 165
def drT (t : List Reg) (a : Nat) : List Reg := if drE t a = 0 then t.take (bh t a) ++ t.drop (bh t a + 1) else t
theorem drE_here {t : List Reg} (k : TOk t) (j : Nat) (x : Reg) (h : t[j]? = some x) : bh t x.b = j ∧ drE t x.b = 0 := by
  have hp := (k.ok _ _ h).pos
  have hb := bh_here k x.b j x h (Nat.le_refl _) (by omega)
  refine ⟨hb, ?_⟩
  unfold drE
  rw [hb, h]
  simp
theorem drE_none {t : List Reg} (a : Nat) (h : ∀ (j : Nat) (x : Reg), t[j]? = some x → x.b ≠ a) : drE t a = 165 := by
  unfold drE
  cases hx : t[bh t a]? with
  | none => rfl
  | some y => simp only; rw [if_neg (h _ _ hx)]
theorem era_get (t : List Reg) (i j : Nat) (hi : i ≤ t.length) : (t.take i ++ t.drop (i + 1))[j]? = if j < i then t[j]? else t[j + 1]? := by
  have hl : (t.take i).length = i := by rw [List.length_take]; omega
  by_cases h1 : j < i
  · rw [if_pos h1, List.getElem?_append_left (by omega), List.getElem?_take, if_pos h1]
  · rw [if_neg h1, List.getElem?_append_right (by omega), hl, List.getElem?_drop, show i + 1 + (j - i) = j + 1 by omega]
theorem drT_ok {t : List Reg} (k : TOk t) (a : Nat) : TOk (drT t a) := by
  unfold drT
  split
  · have hle := bh_le t a
    refine ⟨?_, ?_, ?_⟩
    · intro j y hy
      rw [era_get t _ j hle] at hy
      split at hy <;> exact k.ok _ _ hy
    · intro i j y z hy hz hij
      rw [era_get t _ i hle] at hy
      rw [era_get t _ j hle] at hz
      split at hy <;> split at hz <;> exact k.so _ _ _ _ hy hz (by omega)
    · have := k.len
      rw [List.length_append, List.length_take, List.length_drop]
      omega
  · exact k
theorem drT_no {t : List Reg} {a : Nat} (h : drE t a ≠ 0) : drT t a = t := by unfold drT; rw [if_neg h]
/-- is a region open to an access? -/
def opn (x : Reg) (ac : Int) : Bool := if ac = 1 then x.rd else if ac = 2 then x.wr else x.ex
/-- may a world do that in a region? -/
def letB (x : Reg) (sec : Bool) (ac : Int) : Bool := (sec || !x.sc) && opn x ac
/-- address by address -/
def mayF (t : List Reg) (sec : Bool) (ac : Int) : Nat → Nat → Int
  | _, 0 => 0
  | a, k + 1 => match fnd t a with
    | none => 165
    | some x => if letB x sec ac = true then mayF t sec ac (a + 1) k else 163
def mayE (t : List Reg) (sec : Bool) (ac : Int) (a s : Nat) : Int := if ac < 1 ∨ 3 < ac then 1 else if wiB a s = false then 161 else mayF t sec ac a s
theorem mayF_skip {t : List Reg} (k : TOk t) (sec : Bool) (ac : Int) (i : Nat) (y : Reg) (h : t[i]? = some y) (hl : letB y sec ac = true) : ∀ (d a m : Nat), y.b ≤ a → a + d ≤ y.b + y.n → mayF t sec ac a (d + m) = mayF t sec ac (a + d) m
  | 0, a, m, _, _ => by rw [Nat.zero_add, Nat.add_zero]
  | d + 1, a, m, h1, h2 => by
    rw [show d + 1 + m = (d + m) + 1 by omega, mayF, fnd_here k a i y h (decide_eq_true ⟨h1, by omega⟩)]
    simp only
    rw [if_pos hl, mayF_skip k sec ac i y h hl d (a + 1) m (by omega) (by omega), show a + 1 + d = a + (d + 1) by omega]
theorem mayF_bad {t : List Reg} (k : TOk t) (sec : Bool) (ac : Int) (i : Nat) (y : Reg) (h : t[i]? = some y) (hl : letB y sec ac = false) (a m : Nat) (h1 : y.b ≤ a) (h2 : a < y.b + y.n) : mayF t sec ac a (m + 1) = 163 := by
  rw [mayF, fnd_here k a i y h (decide_eq_true ⟨h1, h2⟩)]
  simp only
  rw [if_neg (by rw [hl]; simp)]
theorem mayF_none {t : List Reg} (sec : Bool) (ac : Int) (a m : Nat) (h : fnd t a = none) : mayF t sec ac a (m + 1) = 165 := by
  rw [mayF, h]
theorem mayF_each {t : List Reg} (sec : Bool) (ac : Int) : ∀ (s a : Nat), mayF t sec ac a s = 0 → ∀ j, j < s → ∃ x, fnd t (a + j) = some x ∧ letB x sec ac = true
  | 0, a, _, j, hj => by omega
  | s + 1, a, h, j, hj => by
    rw [mayF] at h
    cases hx : fnd t a with
    | none => rw [hx] at h; cases h
    | some x =>
      rw [hx] at h
      simp only at h
      by_cases hl : letB x sec ac = true
      · rw [if_pos hl] at h
        cases j with
        | zero => exact ⟨x, hx, hl⟩
        | succ j =>
          have := mayF_each sec ac s (a + 1) h j (by omega)
          rwa [show a + 1 + j = a + (j + 1) by omega] at this
      · rw [if_neg hl] at h; cases h
theorem mayE_ok {t : List Reg} {sec : Bool} {ac : Int} {a s : Nat} (h : mayE t sec ac a s = 0) : wiB a s = true ∧ mayF t sec ac a s = 0 := by
  unfold mayE at h
  split at h
  · cases h
  split at h
  · cases h
  · rename_i h2
    cases hw : wiB a s with
    | true => exact ⟨rfl, h⟩
    | false => exact absurd hw h2
/-- the cells of a region, in the program's table and in the document's -/
def regP (x : Reg) : List Value := [.int .u64 (x.b : Nat), .int .u64 (x.n : Nat), .bool false, .bool x.rd, .bool x.wr, .bool x.ex, .bool x.sc]
def regD (x : Reg) : List Value := [.int .u64 (x.b : Nat), .int .u64 (x.n : Nat), .bool x.rd, .bool x.wr, .bool x.ex, .bool x.sc]
def cellsP (t : List Reg) : List Value := t.flatMap regP
def cellsD (t : List Reg) : List Value := t.flatMap regD
theorem cellsP_length : ∀ t : List Reg, (cellsP t).length = t.length * 7
  | [] => rfl
  | x :: t => by
    have := cellsP_length t
    simp only [cellsP, List.flatMap_cons, List.length_append, List.length_cons] at *
    rw [this]; simp [regP]; omega
theorem cellsD_length : ∀ t : List Reg, (cellsD t).length = t.length * 6
  | [] => rfl
  | x :: t => by
    have := cellsD_length t
    simp only [cellsD, List.flatMap_cons, List.length_append, List.length_cons] at *
    rw [this]; simp [regD]; omega
theorem cellsP_get : ∀ (t : List Reg) (i j : Nat) (x : Reg), t[i]? = some x → j < 7 → (cellsP t)[i * 7 + j]? = (regP x)[j]?
  | [], i, j, x, h, _ => by simp at h
  | y :: t, 0, j, x, h, hj => by
    simp at h; subst h
    simp only [cellsP, List.flatMap_cons]
    rw [List.getElem?_append_left (by simp [regP]; omega), show 0 * 7 + j = j by omega]
  | y :: t, i + 1, j, x, h, hj => by
    have := cellsP_get t i j x (by simpa using h) hj
    simp only [cellsP, List.flatMap_cons] at *
    rw [List.getElem?_append_right (by simp [regP]; omega), show (i + 1) * 7 + j - (regP y).length = i * 7 + j by simp [regP]; omega, this]
theorem cellsD_get : ∀ (t : List Reg) (i j : Nat) (x : Reg), t[i]? = some x → j < 6 → (cellsD t)[i * 6 + j]? = (regD x)[j]?
  | [], i, j, x, h, _ => by simp at h
  | y :: t, 0, j, x, h, hj => by
    simp at h; subst h
    simp only [cellsD, List.flatMap_cons]
    rw [List.getElem?_append_left (by simp [regD]; omega), show 0 * 6 + j = j by omega]
  | y :: t, i + 1, j, x, h, hj => by
    have := cellsD_get t i j x (by simpa using h) hj
    simp only [cellsD, List.flatMap_cons] at *
    rw [List.getElem?_append_right (by simp [regD]; omega), show (i + 1) * 6 + j - (regD y).length = i * 6 + j by simp [regD]; omega, this]
theorem cellsP_one (t : List Reg) : ∀ v ∈ cellsP t, v.oneCell' = true := by
  intro v hv
  obtain ⟨x, _, hx⟩ := List.mem_flatMap.1 hv
  simp only [regP, List.mem_cons, List.not_mem_nil, or_false] at hx
  rcases hx with rfl | rfl | rfl | rfl | rfl | rfl | rfl <;> rfl
theorem cellsD_one (t : List Reg) : ∀ v ∈ cellsD t, v.oneCell' = true := by
  intro v hv
  obtain ⟨x, _, hx⟩ := List.mem_flatMap.1 hv
  simp only [regD, List.mem_cons, List.not_mem_nil, or_false] at hx
  rcases hx with rfl | rfl | rfl | rfl | rfl | rfl <;> rfl
theorem cellsP_append (a b : List Reg) : cellsP (a ++ b) = cellsP a ++ cellsP b := by simp [cellsP, List.flatMap_append]
theorem cellsD_append (a b : List Reg) : cellsD (a ++ b) = cellsD a ++ cellsD b := by simp [cellsD, List.flatMap_append]
theorem cellsP_take : ∀ (t : List Reg) (i : Nat), (cellsP t).take (i * 7) = cellsP (t.take i)
  | [], i => by simp [cellsP]
  | y :: t, 0 => by simp [cellsP]
  | y :: t, i + 1 => by
    have := cellsP_take t i
    simp only [cellsP, List.flatMap_cons, List.take_succ_cons] at *
    rw [List.take_append, List.take_of_length_le (by simp [regP]; omega), show (i + 1) * 7 - (regP y).length = i * 7 by simp [regP]; omega, this]
theorem cellsP_drop : ∀ (t : List Reg) (i : Nat), (cellsP t).drop (i * 7) = cellsP (t.drop i)
  | [], i => by simp [cellsP]
  | y :: t, 0 => by simp [cellsP]
  | y :: t, i + 1 => by
    have := cellsP_drop t i
    simp only [cellsP, List.flatMap_cons, List.drop_succ_cons] at *
    rw [List.drop_append, List.drop_of_length_le (by simp [regP]; omega), show (i + 1) * 7 - (regP y).length = i * 7 by simp [regP]; omega, this, List.nil_append]
theorem cellsD_take : ∀ (t : List Reg) (i : Nat), (cellsD t).take (i * 6) = cellsD (t.take i)
  | [], i => by simp [cellsD]
  | y :: t, 0 => by simp [cellsD]
  | y :: t, i + 1 => by
    have := cellsD_take t i
    simp only [cellsD, List.flatMap_cons, List.take_succ_cons] at *
    rw [List.take_append, List.take_of_length_le (by simp [regD]; omega), show (i + 1) * 6 - (regD y).length = i * 6 by simp [regD]; omega, this]
theorem cellsD_drop : ∀ (t : List Reg) (i : Nat), (cellsD t).drop (i * 6) = cellsD (t.drop i)
  | [], i => by simp [cellsD]
  | y :: t, 0 => by simp [cellsD]
  | y :: t, i + 1 => by
    have := cellsD_drop t i
    simp only [cellsD, List.flatMap_cons, List.drop_succ_cons] at *
    rw [List.drop_append, List.drop_of_length_le (by simp [regD]; omega), show (i + 1) * 6 - (regD y).length = i * 6 by simp [regD]; omega, this, List.nil_append]
theorem tell_same {a b : List Reg} (h : cellsD a = cellsD b) : a.length = b.length := by
  have := congrArg List.length h
  rw [cellsD_length, cellsD_length] at this
  omega
end Go.Proofs.Ytelfhpmbnficfaa
