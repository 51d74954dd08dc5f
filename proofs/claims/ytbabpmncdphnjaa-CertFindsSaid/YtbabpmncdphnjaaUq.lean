/- PLAIN: numbers as bytes, greatest first, in as few as keep the first bit 0. No model. -/
import Derived.Test.YtbabpmncdphnjaaIt
import Derived.Laws.MathBits
namespace Go.Proofs.Ytbabpmncdphnjaa
set_option linter.unusedVariables false
set_option maxRecDepth 100000

/-- so many bytes of a number -/
def be : Nat → Nat → List Nat
  | 0, _ => []
  | n + 1, v => be n (v / 256) ++ [v % 256]
theorem be_length : ∀ n v, (be n v).length = n
  | 0, _ => rfl
  | n + 1, v => by simp [be, be_length n]
theorem be_lt : ∀ n v, ∀ x ∈ be n v, x < 256
  | 0, _ => by simp [be]
  | n + 1, v => by
    intro x hx
    simp only [be, List.mem_append, List.mem_singleton] at hx
    rcases hx with hx | rfl
    · exact be_lt n _ x hx
    · omega
theorem beV_be : ∀ n v, v < 256 ^ n → beV (be n v) = v
  | 0, v, h => by simp at h; subst h; rfl
  | n + 1, v, h => by
    rw [be, beV_snoc, beV_be n (v / 256) (by rw [Nat.pow_succ] at h; omega)]; omega
theorem be_beV : ∀ (n : Nat) (l : List Nat), l.length = n → (∀ x ∈ l, x < 256) → be n (beV l) = l
  | 0, l, h, _ => by rw [List.eq_nil_of_length_eq_zero h]; rfl
  | n + 1, l, h, hl => by
    rcases List.eq_nil_or_concat l with rfl | ⟨L, x, rfl⟩
    · simp at h
    · rw [List.concat_eq_append] at *
      have hx : x < 256 := hl x (by simp)
      rw [beV_snoc, be, show (256 * beV L + x) / 256 = beV L by omega, show (256 * beV L + x) % 256 = x by omega, be_beV n L (by simpa using h) (fun y hy => hl y (by simp [hy]))]
/-- so many bytes a number takes -/
def nb (v : Nat) : Nat := if v < 128 then 1 else nb (v / 256) + 1
termination_by v
decreasing_by omega
theorem nb_small {v : Nat} (h : v < 128) : nb v = 1 := by rw [nb, if_pos h]
theorem nb_big {v : Nat} (h : ¬ v < 128) : nb v = nb (v / 256) + 1 := by rw [nb, if_neg h]
theorem nb_pos (v : Nat) : 1 ≤ nb v := by
  by_cases h : v < 128
  · rw [nb_small h]; exact Nat.le_refl _
  · rw [nb_big h]; omega
theorem nb_lt : ∀ (m v : Nat), nb v ≤ m + 1 → v < 128 * 256 ^ m
  | 0, v, h => by
    by_cases h1 : v < 128
    · simpa using h1
    · rw [nb_big h1] at h; have := nb_pos (v / 256); omega
  | m + 1, v, h => by
    by_cases h1 : v < 128
    · have := Nat.pow_pos (n := m + 1) (show 0 < 256 by omega); omega
    · rw [nb_big h1] at h
      have := nb_lt m (v / 256) (by omega)
      rw [Nat.pow_succ]; omega
theorem nb_le : ∀ (m v : Nat), v < 128 * 256 ^ m → nb v ≤ m + 1
  | 0, v, h => by rw [nb_small (by simpa using h)]; exact Nat.le_refl _
  | m + 1, v, h => by
    by_cases h1 : v < 128
    · rw [nb_small h1]; omega
    · rw [nb_big h1]
      have := nb_le m (v / 256) (by rw [Nat.pow_succ] at h; omega)
      omega
theorem bitLen_small : ∀ v, v < 128 → bitLen v / 8 = 0 := by decide +kernel
theorem bitLen_mid : ∀ v, v < 256 → 128 ≤ v → bitLen v / 8 = 1 := by decide +kernel
theorem nb_bitLen : ∀ (n v : Nat), v ≤ n → v < 18446744073709551616 → bitLen v / 8 + 1 = nb v
  | 0, v, h, _ => by rw [nb_small (by omega), bitLen_small v (by omega)]
  | n + 1, v, h, hv => by
    by_cases h1 : v < 128
    · rw [nb_small h1, bitLen_small v h1]
    · rw [nb_big h1]
      by_cases h2 : v < 256
      · rw [bitLen_mid v h2 (by omega), show v / 256 = 0 by omega, nb_small (by omega)]
      · have := bitLen_shift v 8 (by rw [show (2 : Nat) ^ 8 = 256 from rfl]; omega)
        rw [show (2 : Nat) ^ 8 = 256 from rfl] at this
        have ih := nb_bitLen n (v / 256) (by omega) (by omega)
        rw [this]; omega
/-- is a body a number's? -/
def uok (b : List Nat) : Bool := decide (b.length ≠ 0 ∧ b.getD 0 0 < 128 ∧ ¬ (1 < b.length ∧ b.getD 0 0 = 0 ∧ b.getD 1 0 < 128) ∧ (if b.getD 0 0 = 0 then b.length ≤ 9 else b.length ≤ 8))
theorem beV_cons (x : Nat) (l : List Nat) : beV (x :: l) = x * 256 ^ l.length + beV l := by
  suffices ∀ (l : List Nat) (v : Nat), l.foldl (fun v x => 256 * v + x) v = v * 256 ^ l.length + beV l by
    have := this l x; simpa [beV] using this
  intro l
  induction l with
  | nil => intro v; simp [beV]
  | cons a l ih =>
    intro v
    have e1 : beV (a :: l) = a * 256 ^ l.length + beV l := by have := ih a; simpa [beV] using this
    rw [List.foldl_cons, ih, e1, List.length_cons, Nat.pow_succ, Nat.add_mul]
    have : 256 * v * 256 ^ l.length = v * (256 ^ l.length * 256) := by rw [Nat.mul_comm 256 v, Nat.mul_assoc, Nat.mul_comm 256]
    omega
theorem uok_nb {b : List Nat} (h : uok b = true) (hb : ∀ x ∈ b, x < 256) : nb (beV b) = b.length := by
  obtain ⟨h0, h1, h2, _⟩ := of_decide_eq_true h
  match b, h0, h1, h2, hb with
  | [x], _, h1, _, hb =>
    have : beV [x] = x := by simp [beV]
    rw [this, nb_small (by simpa using h1)]; rfl
  | x :: y :: l, _, h1, h2, hb =>
    simp at h1 h2
    have hl := beV_lt l (fun z hz => hb z (by simp [hz]))
    have hy : y < 256 := hb y (by simp)
    have e : beV (x :: y :: l) = x * 256 ^ (l.length + 1) + (y * 256 ^ l.length + beV l) := by rw [beV_cons, beV_cons]; rfl
    have hp := Nat.pow_pos (n := l.length) (show 0 < 256 by omega)
    have up : beV (x :: y :: l) < 128 * 256 ^ (l.length + 1) := by
      rw [e, Nat.pow_succ]
      have a1 : y * 256 ^ l.length + beV l < 256 * 256 ^ l.length := by
        have : (y + 1) * 256 ^ l.length ≤ 256 * 256 ^ l.length := Nat.mul_le_mul_right _ (by omega)
        rw [Nat.add_mul] at this; omega
      have a2 : (x + 1) * (256 ^ l.length * 256) ≤ 128 * (256 ^ l.length * 256) := Nat.mul_le_mul_right _ (by omega)
      rw [Nat.add_mul] at a2; omega
    have lo : ¬ beV (x :: y :: l) < 128 * 256 ^ l.length := by
      rw [e, Nat.pow_succ]
      by_cases hx : x = 0
      · have := h2 hx
        have : 128 * 256 ^ l.length ≤ y * 256 ^ l.length := Nat.mul_le_mul_right _ (by omega)
        omega
      · have : 1 * (256 ^ l.length * 256) ≤ x * (256 ^ l.length * 256) := Nat.mul_le_mul_right _ (by omega)
        omega
    have u1 := nb_le (l.length + 1) _ up
    have u2 : ¬ nb (beV (x :: y :: l)) ≤ l.length + 1 := fun h => lo (nb_lt l.length _ h)
    simp only [List.length_cons]; omega
/-- a body that is a number's is the one that the number has -/
theorem uok_back {b : List Nat} (h : uok b = true) (hb : ∀ x ∈ b, x < 256) : be (nb (beV b)) (beV b) = b := by
  rw [uok_nb h hb]; exact be_beV _ b rfl hb
theorem be_head : ∀ (n v : Nat), (be (n + 1) v).getD 0 0 = v / 256 ^ n % 256
  | 0, v => by simp [be]
  | n + 1, v => by
    rw [be]
    have hl : 0 < (be (n + 1) (v / 256)).length := by rw [be_length]; omega
    have e : (be (n + 1) (v / 256) ++ [v % 256]).getD 0 0 = (be (n + 1) (v / 256)).getD 0 0 := by
      simp only [List.getD_eq_getElem?_getD]; rw [List.getElem?_append_left hl]
    rw [e, be_head n, Nat.div_div_eq_div_mul, Nat.pow_succ, Nat.mul_comm]
theorem be_second : ∀ (n v : Nat), (be (n + 2) v).getD 1 0 = v / 256 ^ n % 256
  | 0, v => by simp [be]
  | n + 1, v => by
    rw [be]
    have hl : 1 < (be (n + 2) (v / 256)).length := by rw [be_length]; omega
    have e : (be (n + 2) (v / 256) ++ [v % 256]).getD 1 0 = (be (n + 2) (v / 256)).getD 1 0 := by
      simp only [List.getD_eq_getElem?_getD]; rw [List.getElem?_append_left hl]
    rw [e, be_second n, Nat.div_div_eq_div_mul, Nat.pow_succ, Nat.mul_comm]
/-- a number's body is one -/
theorem uok_be (v : Nat) (hv : v < 18446744073709551616) : uok (be (nb v) v) = true ∧ beV (be (nb v) v) = v ∧ nb v ≤ 9 := by
  have hp := nb_pos v
  obtain ⟨m, hm⟩ : ∃ m, nb v = m + 1 := ⟨nb v - 1, by omega⟩
  have h1 := nb_lt m v (by omega)
  have h9 : nb v ≤ 9 := nb_le 8 v (by rw [show (256 : Nat) ^ 8 = 18446744073709551616 from rfl]; omega)
  have h256 : v < 256 ^ (m + 1) := by rw [Nat.pow_succ]; omega
  rw [hm] at h9 ⊢
  refine ⟨decide_eq_true ⟨by rw [be_length]; omega, ?_, ?_, ?_⟩, beV_be _ _ h256, h9⟩
  · rw [be_head]
    have hpp := Nat.pow_pos (n := m) (show 0 < 256 by omega)
    have := Nat.div_lt_of_lt_mul (show v < 256 ^ m * 128 by omega)
    rw [Nat.mod_eq_of_lt (by omega)]; exact this
  · rw [be_length]
    rintro ⟨g1, g2, g3⟩
    obtain ⟨j, rfl⟩ : ∃ j, m = j + 1 := ⟨m - 1, by omega⟩
    rw [be_head] at g2
    rw [be_second] at g3
    have hpp := Nat.pow_pos (n := j) (show 0 < 256 by omega)
    have e : v / 256 ^ (j + 1) = v / 256 ^ j / 256 := by rw [Nat.pow_succ, Nat.div_div_eq_div_mul]
    rw [e] at g2
    have hq : v / 256 ^ j < 32768 := Nat.div_lt_of_lt_mul (by rw [Nat.pow_succ] at h1; omega)
    have hq2 : v / 256 ^ j < 128 := by omega
    have : v < 128 * 256 ^ j := by
      have := (Nat.div_lt_iff_lt_mul hpp).1 hq2; omega
    have := nb_le j v this
    omega
  · rw [be_head, be_length]
    split
    · exact h9
    · rename_i h
      by_cases h8 : m ≤ 7
      · omega
      · exfalso
        obtain rfl : m = 8 := by omega
        rw [show (256 : Nat) ^ 8 = 18446744073709551616 from rfl, Nat.div_eq_of_lt hv] at h
        exact h rfl
theorem beV_zero (l : List Nat) : beV (0 :: l) = beV l := by simp [beV]
end Go.Proofs.Ytbabpmncdphnjaa
