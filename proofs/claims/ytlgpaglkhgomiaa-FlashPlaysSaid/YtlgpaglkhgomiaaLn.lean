/- FlashNil: the law's walk. No condition. -/
import Derived.Test.YtlgpaglkhgomiaaAl
namespace Go.Proofs.Ytlgpaglkhgomiaa
open Go.RowKit
set_option linter.unusedVariables false
set_option maxRecDepth 100000
set_option linter.unusedSimpArgs false
theorem span_nil (a b x y : Value) (w : World) : Calls Try.prog 26 #[.pointer none, a, b, x, y] w fun e w' => e = .returned (.tuple #[.slice none 0 0, .int .i64 1]) ∧ w = w' := by
  go_enter Try.func26, Try.ntmps26
  go_wp2
  go_ret2
  exact ⟨rfl, rfl⟩
theorem blocks_nil (w : World) : Calls Try.prog 17 #[.pointer none] w fun e w' => e = .returned (.slice none 0 0) ∧ w = w' := by
  go_enter Try.func17, Try.ntmps17
  go_wp2
  go_ret
  exact ⟨rfl, rfl⟩
set_option maxHeartbeats 3200000 in
theorem nil_walk (n : Int) (v : Value) (w : World) : Calls Try.prog 6 #[.int .i64 n, v] w fun e w' => e = .returned (.bool true) ∧ Below w.heap.size w w' := by
  have HA := Lib.hid (alive_any w)
  unfold NewIs at HA
  go_enter Try.func6, Try.ntmps6
  go_wp2_with (first
    | (go_at_call 23; refine (read_nil n w).mono ?_; rintro e w9 ⟨rfl, rfl⟩)
    | (go_at_call 26; refine (span_nil _ _ _ _ w).mono ?_; rintro e w9 ⟨rfl, rfl⟩)
    | (go_at_call 24; refine (power_nil w).mono ?_; rintro e w9 ⟨rfl, rfl⟩))
  refine HA.out.mono ?_
  rintro e w1 ⟨rfl, hb⟩
  have HB := Lib.hid hb
  clear hb HA
  go_wp2_with (first
    | (go_at_call 22; refine (write_nil n v w1).mono ?_; rintro e w9 ⟨rfl, rfl⟩)
    | (go_at_call 20; refine (cut_nil n true w1).mono ?_; rintro e w9 ⟨rfl, rfl⟩)
    | (go_at_call 12; refine (on_nil w1).mono ?_; rintro e w9 ⟨rfl, rfl⟩)
    | (go_at_call 14; refine (size_nil w1).mono ?_; rintro e w9 ⟨rfl, rfl⟩)
    | (go_at_call 13; refine (writes_nil w1).mono ?_; rintro e w9 ⟨rfl, rfl⟩)
    | (go_at_call 17; refine (blocks_nil w1).mono ?_; rintro e w9 ⟨rfl, rfl⟩))
  go_ret
  exact ⟨rfl, HB.out⟩
end Go.Proofs.Ytlgpaglkhgomiaa
