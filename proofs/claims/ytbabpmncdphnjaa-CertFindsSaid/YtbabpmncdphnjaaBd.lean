/- bodyOf. No condition. -/
import Derived.Test.YtbabpmncdphnjaaPs
namespace Go.Proofs.Ytbabpmncdphnjaa
open Go.RowKit
set_option linter.unusedVariables false
set_option maxRecDepth 100000

theorem eight_ne {x y : Nat} (h : x ≠ y) : ((x : Int) != (y : Int)) = true := by simp; omega
theorem nzI {x : Nat} (h : x ≠ 0) : ((x : Int) != 0) = true := by simp; omega
theorem eqzI {x : Nat} (h : x ≠ 0) : ((x : Int) == 0) = false := by simp; omega
theorem bodyOf_tag (t : Nat) (a a' : Option Addr) (n c n' c' : Nat) (x : Int) (hx : (t : Int) ≠ x) (w : World) :
    Calls Try.prog 57 #[itV t a n c a' n' c', .int .u8 x] w fun e w' => e = .returned (.tuple #[.slice none 0 0, .int .i64 123]) ∧ Below w.heap.size w w' := by
  have hb : ((t : Int) != x) = true := by simp; exact hx
  clear hx
  go_enter Try.func57, Try.ntmps57
  go_wp2
  go_ret2
  exact ⟨rfl, (Below.refl _ w).alloc (Nat.le_refl _) _⟩
theorem bodyOf_kids (t : Nat) (a a' : Option Addr) (n c n' c' : Nat) (h : 0 < n') (w : World) :
    Calls Try.prog 57 #[itV t a n c a' n' c', .int .u8 (t : Nat)] w fun e w' => e = .returned (.tuple #[.slice none 0 0, .int .i64 127]) ∧ Below w.heap.size w w' := by
  have hb : (0 : Int) < (n' : Int) := by omega
  go_enter Try.func57, Try.ntmps57
  go_wp2
  go_ret2
  exact ⟨rfl, (Below.refl _ w).alloc (Nat.le_refl _) _⟩
theorem bodyOf_ok (t : Nat) (a a' : Option Addr) (n c c' : Nat) (w : World) :
    Calls Try.prog 57 #[itV t a n c a' 0 c', .int .u8 (t : Nat)] w fun e w' => e = .returned (.tuple #[.slice a n c, .int .i64 0]) ∧ Below w.heap.size w w' := by
  go_enter Try.func57, Try.ntmps57
  go_wp2
  go_ret2
  exact ⟨rfl, (Below.refl _ w).alloc (Nat.le_refl _) _⟩
end Go.Proofs.Ytbabpmncdphnjaa
