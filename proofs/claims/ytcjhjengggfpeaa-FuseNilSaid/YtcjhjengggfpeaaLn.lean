/- FuseNil: the law's walk. No condition. -/
import Derived.Test.YtcjhjengggfpeaaAl
namespace Go.Proofs.Ytcjhjengggfpeaa
open Go.RowKit
set_option linter.unusedVariables false
set_option maxRecDepth 100000
set_option linter.unusedSimpArgs false
theorem row_nil (i n : Int) (w : World) : Calls Try.prog 13 #[.pointer none, .int .i64 i, .int .i64 n] w fun e w' => e = .returned (.tuple #[.slice none 0 0, .bool false, .int .i64 1]) ∧ w = w' := by
  go_enter Try.func13, Try.ntmps13
  go_wp2_with (go_at_call 18; refine (closed_nil _ _ _ _).mono ?_; rintro e w' ⟨rfl, rfl⟩)
  go_ret3
  exact ⟨rfl, rfl⟩
set_option maxHeartbeats 3200000 in
theorem nil_walk (i : Int) (v : Value) (w : World) : Calls Try.prog 5 #[.int .i64 i, v] w fun e w' => e = .returned (.bool true) ∧ Below w.heap.size w w' := by
  have HA := Lib.hid (alive_any w)
  go_enter Try.func5, Try.ntmps5
  go_wp2_with (first
    | (go_at_call 16; refine (read_nil i w).mono ?_; rintro e w9 ⟨rfl, rfl⟩)
    | (go_at_call 13; refine (row_nil i 1 w).mono ?_; rintro e w9 ⟨rfl, rfl⟩)
    | (go_at_call 17; refine (counter_nil i w).mono ?_; rintro e w9 ⟨rfl, rfl⟩))
  refine HA.out.mono ?_
  rintro e w1 ⟨rfl, hb⟩
  have HB := Lib.hid hb
  clear hb HA
  go_wp2_with (first
    | (go_at_call 9; refine (burn_nil i v w1).mono ?_; rintro e w9 ⟨rfl, rfl⟩)
    | (go_at_call 11; refine (raise_nil i (.int .u32 1) w1).mono ?_; rintro e w9 ⟨rfl, rfl⟩)
    | (go_at_call 8; refine (copy_nil w1).mono ?_; rintro e w9 ⟨rfl, rfl⟩))
  go_ret
  exact ⟨rfl, HB.out⟩
end Go.Proofs.Ytcjhjengggfpeaa
