/- The document's comparison of two lists answers true for one list twice. (Put the package for REF.) -/
import Derived.Test.YtidnlaibfkjgpaaDoorBytes
namespace Go.Proofs.YtidnlaibfkjgpaaDoor
open Go.RowKit
set_option linter.unusedVariables false

set_option maxHeartbeats 400000 in
theorem same_eq (a b : Option Addr) (n c d : Nat) (l : List Nat) (w : World) (ha : ByteRow w a n l) (hb : ByteRow w b n l) :
    Calls Tryd.prog 16 #[.slice a n c, .slice b n d] w fun e w' => e = .returned (.bool true) ∧ Below w.heap.size w w' := by
  obtain ⟨hl, hm, hlt, hra⟩ := ha
  obtain ⟨_, _, _, hrb⟩ := hb
  unfold maxLen at hm
  have HA := Lib.hid hra
  have HB := Lib.hid hrb
  clear hra hrb
  go_enter Tryd.func16, Tryd.ntmps16
  go_wp2
  go_loopw [5] (fun i wr => ∃ k : Nat, k ≤ n ∧ i = .int .i64 k ∧ Below w.heap.size w wr) (fun i _ => n - (intOf i).toNat)
  case atStart => exact ⟨0, Nat.zero_le _, rfl, Below.refl _ _⟩
  case round =>
    obtain ⟨k, hk, rfl, hbel⟩ := hrel
    by_cases hkn : k < n
    · obtain ⟨b1, o1, rfl, hc1⟩ := HA.out.resolve_left (by omega)
      obtain ⟨b2, o2, rfl, hc2⟩ := HB.out.resolve_left (by omega)
      have g1 := hc1 k hkn
      have g2 := hc2 k hkn
      have e1 : wr.cell? ⟨b1, o1 + k, none⟩ = some (.int .u8 (l.getD k 0 : Nat)) := (hbel.cell (World.block_lt_of_cell? w _ g1)).trans g1
      have e2 : wr.cell? ⟨b2, o2 + k, none⟩ = some (.int .u8 (l.getD k 0 : Nat)) := (hbel.cell (World.block_lt_of_cell? w _ g2)).trans g2
      clear hc1 hc2 g1 g2
      generalize l.getD k 0 = x at *
      have hki : (k : Int) < (n : Int) := by omega
      go_wp2_with fail
      go_quiet (fail)
      have hbel2 : Below w.heap.size w (wr.drewN nq) := ⟨hbel.os, hbel.tape, hbel.output, hbel.size, hbel.block⟩
      go_wp2
      go_roundw
      case rel => exact ⟨k + 1, by omega, by go_num, hbel2⟩
      case measure => simp [intOf]; omega
    · go_wp2
      go_ret
      exact ⟨rfl, hbel⟩
end Go.Proofs.YtidnlaibfkjgpaaDoor
