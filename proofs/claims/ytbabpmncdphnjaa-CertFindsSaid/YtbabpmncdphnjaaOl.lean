/- A length's bytes. No condition. -/
import Derived.Test.YtbabpmncdphnjaaPs
import Derived.Test.YtbabpmncdphnjaaOw
import Derived.Test.YtbabpmncdphnjaaEn
namespace Go.Proofs.Ytbabpmncdphnjaa
open Go.RowKit
set_option linter.unusedVariables false
set_option maxRecDepth 100000

theorem made_lit (w : World) (l : List Nat) (cs : Array Value) (hc : cs = (bytesV l).toArray) (hn : l.length ≤ 1048576) (n : Nat) (hl : l.length = n) : Made l w (.returned (.slice (some ⟨w.heap.size, 0, none⟩) n n)) (w.alloc (.cells cs 5)) := by
  subst hc hl
  have h := World.ownsRow_lit (base := w.heap.size) (e := 5) (size := 1) w (bytesV l).toArray l.length (Nat.le_refl _) (by simp only [maxLen]; omega) (by simp [bytesV])
  exact ⟨_, rfl, h, (Below.refl _ w).alloc (Nat.le_refl _) _⟩
set_option maxHeartbeats 1000000 in
theorem ofLength_any (n : Nat) (hn : n ≤ 65537) (w : World) : Calls Try.prog 87 #[.int .i64 (n : Nat)] w (Made (lenB n) w) := by
  by_cases h1 : n < 128
  · have h1i : (n : Int) < 128 := by omega
    have HX := Lib.hid (show lenB n = [n] by unfold lenB; rw [if_pos h1])
    go_enter Try.func87, Try.ntmps87
    go_wp2
    go_ret
    rw [HX.out]
    refine made_lit w [n] _ ?_ (by simp) 1 rfl
    simp [bytesV] <;> omega
  · have h1i : ¬ (n : Int) < 128 := by omega
    by_cases h2 : n < 256
    · have h2i : (n : Int) < 256 := by omega
      have HX := Lib.hid (show lenB n = [129, n] by unfold lenB; rw [if_neg h1, if_pos h2])
      go_enter Try.func87, Try.ntmps87
      go_wp2
      go_ret
      rw [HX.out]
      refine made_lit w [129, n] _ ?_ (by simp) 2 rfl
      simp [bytesV] <;> omega
    · have h2i : ¬ (n : Int) < 256 := by omega
      have HX := Lib.hid (show lenB n = [130, n / 256 % 256, n % 256] by unfold lenB; rw [if_neg h1, if_neg h2])
      go_enter Try.func87, Try.ntmps87
      go_wp2
      trace_state
      go_ret
      rw [HX.out]
      refine made_lit w [130, n / 256 % 256, n % 256] _ ?_ (by simp) 3 rfl
      simp [bytesV] <;> omega
end Go.Proofs.Ytbabpmncdphnjaa
