/- A message gone through block by block, as plain arithmetic; however it is cut. No condition. -/
import Derived.Test.YtnikhnpigopihaaDoorM
namespace Go.Proofs.YtnikhnpigopihaaDoor
/-- the state behind all whole blocks (of 2 W bytes), and what is left -/
def goes (W : Nat) (s l : List Nat) : List Nat × List Nat :=
  if h : 0 < W ∧ 2 * W ≤ l.length then goes W (mix W s (l.take (2 * W))) (l.drop (2 * W)) else (s, l)
termination_by l.length
decreasing_by simp; omega
theorem goes_lo {W : Nat} {s l : List Nat} (h : l.length < 2 * W) : goes W s l = (s, l) := by
  rw [goes, dif_neg (by omega)]
theorem goes_hi {W : Nat} {s l : List Nat} (hW : 0 < W) (h : 2 * W ≤ l.length) : goes W s l = goes W (mix W s (l.take (2 * W))) (l.drop (2 * W)) := by
  rw [goes, dif_pos ⟨hW, h⟩]
theorem goes_append {W : Nat} (hW : 0 < W) : ∀ (n : Nat) (s a b : List Nat), a.length = n → goes W s (a ++ b) = goes W (goes W s a).1 ((goes W s a).2 ++ b) := by
  intro n
  induction n using Nat.strongRecOn with
  | ind n ih =>
    intro s a b hn
    by_cases h : 2 * W ≤ a.length
    · rw [goes_hi hW (l := a ++ b) (by simp; omega), goes_hi hW h, List.take_append_of_le_length h, List.drop_append_of_le_length h]
      exact ih _ (by simp; omega) _ _ _ rfl
    · rw [goes_lo (l := a) (by omega)]
theorem goes_tail {W : Nat} (hW : 0 < W) : ∀ (n : Nat) (s l : List Nat), l.length = n → (goes W s l).2.length = l.length % (2 * W) := by
  intro n
  induction n using Nat.strongRecOn with
  | ind n ih =>
    intro s l hn
    by_cases h : 2 * W ≤ l.length
    · rw [goes_hi hW h, ih _ (by simp; omega) _ _ rfl, List.length_drop, ← Nat.mod_eq_sub_mod h]
    · rw [goes_lo (by omega), Nat.mod_eq_of_lt (by omega)]
theorem goes_state {W : Nat} (hW : 0 < W) : ∀ (n : Nat) (s l : List Nat), l.length = n → s.length = 8 → (∀ x ∈ s, x < 2 ^ W) → (goes W s l).1.length = 8 ∧ ∀ x ∈ (goes W s l).1, x < 2 ^ W := by
  intro n
  induction n using Nat.strongRecOn with
  | ind n ih =>
    intro s l hn hs hx
    by_cases h : 2 * W ≤ l.length
    · rw [goes_hi hW h]; exact ih _ (by simp; omega) _ _ rfl (mix_length hs) (mix_lt _ _)
    · rw [goes_lo (by omega)]; exact ⟨hs, hx⟩
theorem goes_bytes {W : Nat} (hW : 0 < W) : ∀ (n : Nat) (s l : List Nat), l.length = n → (∀ x ∈ l, x < 256) → ∀ x ∈ (goes W s l).2, x < 256 := by
  intro n
  induction n using Nat.strongRecOn with
  | ind n ih =>
    intro s l hn hx
    by_cases h : 2 * W ≤ l.length
    · rw [goes_hi hW h]; exact ih _ (by simp; omega) _ _ rfl (fun x h => hx x (List.mem_of_mem_drop h))
    · rw [goes_lo (by omega)]; exact hx
end Go.Proofs.YtnikhnpigopihaaDoor
