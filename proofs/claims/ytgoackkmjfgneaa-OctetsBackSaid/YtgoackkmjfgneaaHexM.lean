/- Bytes as digits, as plain lists of naturals. No condition. -/
import Derived.Laws.BitsAllLaws
namespace Go.Proofs.Ytgoackkmjfgneaa

def hexD (n : Nat) : Nat := if n < 10 then 48 + n else 87 + n
def hexL (l : List Nat) : List Nat := l.flatMap fun x => [hexD (x / 16), hexD (x % 16)]
theorem hexD_lt {n : Nat} (h : n < 16) : hexD n < 256 := by unfold hexD; split <;> omega
theorem hexL_snoc (l : List Nat) (x : Nat) : hexL (l ++ [x]) = hexL l ++ [hexD (x / 16), hexD (x % 16)] := by simp [hexL]
theorem hexL_length (l : List Nat) : (hexL l).length = 2 * l.length := by
  induction l with
  | nil => rfl
  | cons x l ih => simp only [hexL, List.flatMap_cons, List.length_append, List.length_cons, List.length_nil] at *; omega
theorem hexL_lt {l : List Nat} (h : ∀ x ∈ l, x < 256) : ∀ y ∈ hexL l, y < 256 := by
  intro y hy
  obtain ⟨x, hx, hy⟩ := List.mem_flatMap.1 hy
  have := h x hx
  simp at hy
  rcases hy with rfl | rfl <;> exact hexD_lt (by omega)
/-- the digits, as the two texts have them -/
def hexDigits : List UInt8 := [48, 49, 50, 51, 52, 53, 54, 55, 56, 57, 97, 98, 99, 100, 101, 102]
end Go.Proofs.Ytgoackkmjfgneaa
