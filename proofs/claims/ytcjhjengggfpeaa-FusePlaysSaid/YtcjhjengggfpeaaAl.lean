/- The live question. No condition. -/
import Derived.Test.YtcjhjengggfpeaaFc
namespace Go.Proofs.Ytcjhjengggfpeaa
open Go.RowKit
set_option linter.unusedVariables false
set_option maxRecDepth 100000
set_option linter.unusedSimpArgs false
theorem grownB {B g : Nat} {a b c : World} (h : Below B a b) (k : b.grownBy c (some g)) (hg : B ≤ g) (hB : B ≤ b.heap.size) : Below B a c :=
  ⟨k.os.trans h.os, k.tape.trans h.tape, k.output.trans h.output, Nat.le_trans h.size k.size, fun i hi => (k.block i (Nat.lt_of_lt_of_le hi hB) (fun e => by injection e with e; omega)).trans (h.block i hi)⟩
set_option maxHeartbeats 1600000 in
theorem alive_any (w : World) : Calls Try.prog 7 #[] w fun e w' => e = .returned (.bool true) ∧ Below w.heap.size w w' := by
  go_enter Try.func7, Try.ntmps7
  go_wp2_with fail
  refine (new_any w).mono ?_
  rintro e w1 ⟨rfl, hF, hb⟩
  have HB := Lib.hid hb
  have HF := Lib.hid hF
  clear hb hF
  go_wp2_with fail
  refine (burn_any w.heap.size l0 c0 0 7 w1 HF.out ok0 (by unfold I64; omega)).mono ?_
  rintro e w2 ⟨rfl, hF2, hg2⟩
  rw [show burnE l0 0 = 0 from rfl]
  have HB2 := Lib.hid (grownB HB.out hg2 (Nat.le_refl _) HB.out.size)
  have HF2 := Lib.hid hF2
  clear hF2 hg2 HF HB
  go_wp2_with fail
  refine (burn_any w.heap.size (burnL l0 0 7) c0 0 7 w2 HF2.out (ok0.put 0 7 true (by omega)) (by unfold I64; omega)).mono ?_
  rintro e w3 ⟨rfl, hF3, hg3⟩
  rw [show burnE (burnL l0 0 7) 0 = 151 from rfl]
  have HB3 := Lib.hid (grownB HB2.out hg3 (Nat.le_refl _) HB2.out.size)
  have HF3 := Lib.hid hF3
  clear hF3 hg3 HF2 HB2
  go_wp2_with fail
  refine (read_any w.heap.size (burnL (burnL l0 0 7) 0 7) c0 0 w3 HF3.out (ok0.put 0 7 true (by omega)) (by unfold I64; omega)).mono ?_
  rintro e w4 ⟨rfl, hb4⟩
  rw [show rdV (burnL (burnL l0 0 7) 0 7) 0 = .tuple #[.int .u8 7, .bool true, .int .i64 0] from rfl]
  have HB4 := Lib.hid (HB3.out.trans (hb4.mono HB3.out.size))
  clear hb4 HF3 HB3
  go_wp2_with fail
  go_ret
  exact ⟨rfl, HB4.out⟩
end Go.Proofs.Ytcjhjengggfpeaa
