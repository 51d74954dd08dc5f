/- A number's bytes give the number, a number of bytes gives the bytes; a state that was opened is told as it was. No condition. -/
import Derived.Test.YtnikhnpigopihaaDoorOpen
import Derived.Test.YtnikhnpigopihaaDoorState
namespace Go.Proofs.YtnikhnpigopihaaDoor
set_option linter.unusedVariables false
theorem pow28 (j : Nat) : 2 ^ (8 * j) = 256 ^ j := by rw [Nat.pow_mul]
theorem be_tell (size x : Nat) : ∀ j, j ≤ size → be (tell (dig size x) j) = x / 256 ^ (size - j) % 256 ^ j := by
  intro j
  induction j with
  | zero => intro _; simp [tell, be, Nat.mod_one]
  | succ j ih =>
    intro hj
    rw [tell_succ, be_append, ih (by omega)]
    unfold dig
    rw [pow28, show size - 1 - j = size - (j + 1) by omega]
    have e : x / 256 ^ (size - j) = x / 256 ^ (size - (j + 1)) / 256 := by
      rw [Nat.div_div_eq_div_mul, ← Nat.pow_succ]; congr 2; omega
    rw [e, Nat.pow_succ, Nat.mul_comm (256 ^ j), Nat.mod_mul]
    omega
theorem be_beB (size x : Nat) (h : x < 256 ^ size) : be (beB size x) = x := by
  unfold beB
  rw [be_tell size x size (Nat.le_refl _), Nat.sub_self, Nat.pow_zero, Nat.div_one, Nat.mod_eq_of_lt h]
theorem be_from (l : List Nat) : ∀ v, l.foldl (fun v x => v * 256 + x) v = v * 256 ^ l.length + be l := by
  induction l with
  | nil => intro v; simp [be]
  | cons x l ih =>
    intro v
    have h0 : be (x :: l) = x * 256 ^ l.length + be l := by
      show List.foldl (fun v x => v * 256 + x) (0 * 256 + x) l = _
      rw [ih]; simp
    rw [List.foldl_cons, ih, h0, List.length_cons, Nat.pow_succ, Nat.add_mul, Nat.mul_assoc, Nat.mul_comm 256]
    omega
theorem be_cons (x : Nat) (l : List Nat) : be (x :: l) = x * 256 ^ l.length + be l := by
  show List.foldl (fun v x => v * 256 + x) (0 * 256 + x) l = _
  rw [be_from]; simp
theorem be_inj : ∀ (a b : List Nat), a.length = b.length → (∀ x ∈ a, x < 256) → (∀ x ∈ b, x < 256) → be a = be b → a = b
  | [], [], _, _, _, _ => rfl
  | x :: a, y :: b, hl, ha, hb, h => by
    have hl' : a.length = b.length := by simpa using hl
    rw [be_cons, be_cons, hl'] at h
    have h1 := be_lt a (fun z hz => ha z (by simp [hz]))
    have h2 := be_lt b (fun z hz => hb z (by simp [hz]))
    rw [hl'] at h1
    have hp : 0 < 256 ^ b.length := Nat.pow_pos (by decide)
    have e1 : x = y := by
      have h3 : (x * 256 ^ b.length + be a) / 256 ^ b.length = x := by rw [Nat.add_comm, Nat.add_mul_div_right _ _ hp, Nat.div_eq_of_lt h1, Nat.zero_add]
      have h4 : (y * 256 ^ b.length + be b) / 256 ^ b.length = y := by rw [Nat.add_comm, Nat.add_mul_div_right _ _ hp, Nat.div_eq_of_lt h2, Nat.zero_add]
      rw [← h3, h, h4]
    subst e1
    rw [be_inj a b hl' (fun z hz => ha z (by simp [hz])) (fun z hz => hb z (by simp [hz])) (by omega)]
theorem beB_be (size : Nat) (l : List Nat) (hl : l.length = size) (hb : ∀ x ∈ l, x < 256) : beB size (be l) = l := by
  refine be_inj _ _ (by rw [beB_length, hl]) (beB_lt _ _) hb ?_
  have := be_lt l hb
  rw [hl] at this
  exact be_beB size _ this
theorem words_back (k : Nat) (L : List Nat) (hL : ∀ x ∈ L, x < 256) : ∀ i, 9 + i * wB k ≤ L.length → beW (wB k) (tell (stW k L) i) = (L.drop 9).take (i * wB k) := by
  intro i
  induction i with
  | zero => intro _; simp [tell, beW]
  | succ i ih =>
    intro h
    have hi : 9 + i * wB k ≤ L.length := by rw [Nat.succ_mul] at h; omega
    have e : beW (wB k) (tell (stW k L) (i + 1)) = beW (wB k) (tell (stW k L) i) ++ beB (wB k) (stW k L i) := by rw [tell_succ]; simp [beW]
    have e2 : beB (wB k) (stW k L i) = (L.drop (9 + i * wB k)).take (wB k) := by
      unfold stW
      refine beB_be _ _ ?_ (fun x hx => hL x (List.mem_of_mem_drop (List.mem_of_mem_take hx)))
      rw [List.length_take, List.length_drop]; rw [Nat.succ_mul] at h; omega
    rw [e, ih hi, e2, Nat.succ_mul, List.take_add, List.drop_drop]
theorem state_back (k n : Nat) (L : List Nat) (hL : ∀ x ∈ L, x < 256) (hl : 9 + 8 * wB k ≤ L.length) (h0 : L.getD 0 0 = k) (hn : be ((L.drop 1).take 8) = n) :
    stateN k n (tell (stW k L) 8) (L.drop (9 + 8 * wB k)) = L := by
  unfold stateN
  have e1 : beB 8 n = (L.drop 1).take 8 := by
    rw [← hn]
    exact beB_be 8 _ (by rw [List.length_take, List.length_drop]; omega) (fun x hx => hL x (List.mem_of_mem_drop (List.mem_of_mem_take hx)))
  rw [e1, words_back k L hL 8 hl]
  have e0 : [k] = L.take 1 := by
    match L, hl, h0 with
    | x :: l, _, h0 => simp at h0; simp [h0]
    | [], hl, _ => simp at hl
  have e2 : L.take 1 ++ (L.drop 1).take 8 = L.take 9 := by rw [← List.take_add]
  have e3 : L.take 9 ++ (L.drop 9).take (8 * wB k) = L.take (9 + 8 * wB k) := by rw [← List.take_add]
  rw [e0, e2, e3, List.take_append_drop]
end Go.Proofs.YtnikhnpigopihaaDoor
