/- The project's small calls: must, isTag, hasKids. No condition. -/
import Derived.Test.YtbabpmncdphnjaaMt
namespace Go.Proofs.Ytbabpmncdphnjaa
open Go.RowKit
set_option linter.unusedVariables false
set_option maxRecDepth 100000

/-- given up with an error -/
abbrev boom (c : Nat) : Ending := .panicked [{ v := .iface 26 (.int .i64 (c : Nat)), recovered := false }]

theorem must_ok (c : Int) (w : World) : Calls Try.prog 49 #[.bool true, .int .i64 c] w fun e w' => e = .returned (.tuple #[]) ∧ w' = w := by
  go_enter Try.func49, Try.ntmps49
  go_wp2
  go_end0
  exact ⟨rfl, rfl⟩
theorem must_bad (c : Int) (w : World) : Calls Try.prog 49 #[.bool false, .int .i64 c] w fun e w' => e = .panicked [{ v := .iface 26 (.int .i64 c), recovered := false }] ∧ w' = w := by
  go_enter Try.func49, Try.ntmps49
  go_wp2
  exact ⟨rfl, rfl, rfl⟩
theorem must_t {b : Bool} (hb : b = true) (c : Int) (w : World) : Calls Try.prog 49 #[.bool b, .int .i64 c] w fun e w' => e = .returned (.tuple #[]) ∧ w = w' := by
  subst hb; exact (must_ok c w).mono fun e w' h => ⟨h.1, h.2.symm⟩
theorem must_f {b : Bool} (hb : b = false) (c : Int) (w : World) : Calls Try.prog 49 #[.bool b, .int .i64 c] w fun e w' => e = .panicked [{ v := .iface 26 (.int .i64 c), recovered := false }] ∧ w = w' := by
  subst hb; exact (must_bad c w).mono fun e w' h => ⟨h.1, h.2.symm⟩
theorem and31 : ∀ t, t < 256 → ((t &&& 31) != 31) = !decide (t % 32 = 31) := by decide +kernel
theorem and32 : ∀ t, t < 256 → ((t &&& 32) != 0) = decide (t / 32 % 2 = 1) := by decide +kernel
theorem isTag_any (t : Nat) (ht : t < 256) (w : World) : Calls Try.prog 83 #[.int .u8 (t : Nat)] w fun e w' => e = .returned (.bool (!decide (t % 32 = 31))) ∧ w = w' := by
  have h1 : bits .and .u8 (t : Int) 31 = ((t &&& 31 : Nat) : Int) := u8_and_nat t 31 ht (by decide)
  have h2 : (((t &&& 31 : Nat) : Int) != 31) = !decide (t % 32 = 31) := by
    rw [← and31 t ht]; rw [Bool.eq_iff_iff]; simp; omega
  generalize (t &&& 31 : Nat) = z at *
  go_enter Try.func83, Try.ntmps83
  go_wp2
  go_ret
  exact ⟨rfl, rfl⟩
theorem hasKids_any (t : Nat) (ht : t < 256) (w : World) : Calls Try.prog 85 #[.int .u8 (t : Nat)] w fun e w' => e = .returned (.bool (decide (t / 32 % 2 = 1))) ∧ w = w' := by
  have h1 : bits .and .u8 (t : Int) 32 = ((t &&& 32 : Nat) : Int) := u8_and_nat t 32 ht (by decide)
  have h2 : (((t &&& 32 : Nat) : Int) != 0) = decide (t / 32 % 2 = 1) := by
    rw [← and32 t ht]; rw [Bool.eq_iff_iff]; simp
  generalize (t &&& 32 : Nat) = z at *
  go_enter Try.func85, Try.ntmps85
  go_wp2
  go_ret
  exact ⟨rfl, rfl⟩
end Go.Proofs.Ytbabpmncdphnjaa
