/- bytes.Clone answers the same bytes in new memory. -/
import Derived.Test.YtelfhpmbnficfaaBytes
namespace Go.Proofs.Ytelfhpmbnficfaa
open Go.RowKit
set_option linter.unusedVariables false
set_option maxRecDepth 100000

set_option maxHeartbeats 400000 in
theorem clone_any (a : Option Addr) (n c : Nat) (l : List Nat) (w : World) (h : BIn w a n c l) : Calls Try.prog 47 #[.slice a n c] w (Made l w) := by
  have H := Lib.hid h
  rcases a with _ | ad
  · obtain ⟨⟨hl, _⟩, hc1, _, _, hnil⟩ := h
    obtain rfl : c = 0 := hnil rfl
    obtain rfl : n = 0 := by omega
    obtain rfl : l = [] := List.eq_nil_of_length_eq_zero hl
    have hnil := fun (w : World) => Lib.run_eql_slice_nil (P := Try.prog) w 36 5 none 0 0 0 0 Try.underlying36
    go_enter Try.func47, Try.ntmps47
    go_wp2
    go_ret
    exact ⟨_, rfl, World.ownsRow_nil _ _ _ _, Below.refl _ _⟩
  · clear h
    have hnil := fun (w : World) => Lib.run_eql_slice_nil (P := Try.prog) w 36 5 (some ad) n c 0 0 Try.underlying36
    go_enter Try.func47, Try.ntmps47
    go_wp2_with (at_builtin; refine wpList_append_bytes _ rfl (.tmp 5) (.tmp 6) rfl w.heap.size _ 0 [] rfl (zero_row w) (some ad) n c l rfl (H.out.below ((Below.refl _ _).alloc (Nat.le_refl _) _)) (by have := H.out.2.2.2.1; omega) (by simp) ?_)
    intro v' w' hown hg
    go_wp2
    go_ret
    refine ⟨v', rfl, ?_, ((Below.refl _ _).alloc (Nat.le_refl _) _).grown hg (by simp) (by simp [Value.ownBlock])⟩
    have : l.length = n := H.out.1.1
    rw [this]
    simpa using hown
end Go.Proofs.Ytelfhpmbnficfaa
