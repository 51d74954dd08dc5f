/- The document's kinds. No condition. -/
import Derived.Test.YtidnlaibfkjgpaaDoorKShake
namespace Go.Proofs.YtidnlaibfkjgpaaDoor
open Go.RowKit
set_option linter.unusedVariables false
set_option maxHeartbeats 400000 in
theorem refKind_1 (w : World) : Calls Tryd.prog 38 #[.int .i64 1] w fun e w' => e = .returned (.tuple #[.int .i64 136, .int .u8 6, .int .i64 (32), .bool true]) ∧ w = w' := by
  go_enter Tryd.func38, Tryd.ntmps38
  go_wp2_with fail
  exact bodyPost_ret (by simp [results, Tryd.results38, go_sem]) rfl ⟨rfl, rfl⟩
set_option maxHeartbeats 400000 in
theorem refKind_2 (w : World) : Calls Tryd.prog 38 #[.int .i64 2] w fun e w' => e = .returned (.tuple #[.int .i64 104, .int .u8 6, .int .i64 (48), .bool true]) ∧ w = w' := by
  go_enter Tryd.func38, Tryd.ntmps38
  go_wp2_with fail
  exact bodyPost_ret (by simp [results, Tryd.results38, go_sem]) rfl ⟨rfl, rfl⟩
set_option maxHeartbeats 400000 in
theorem refKind_3 (w : World) : Calls Tryd.prog 38 #[.int .i64 3] w fun e w' => e = .returned (.tuple #[.int .i64 72, .int .u8 6, .int .i64 (64), .bool true]) ∧ w = w' := by
  go_enter Tryd.func38, Tryd.ntmps38
  go_wp2_with fail
  exact bodyPost_ret (by simp [results, Tryd.results38, go_sem]) rfl ⟨rfl, rfl⟩
set_option maxHeartbeats 400000 in
theorem refKind_4 (w : World) : Calls Tryd.prog 38 #[.int .i64 4] w fun e w' => e = .returned (.tuple #[.int .i64 168, .int .u8 31, .int .i64 (-1), .bool true]) ∧ w = w' := by
  go_enter Tryd.func38, Tryd.ntmps38
  go_wp2_with fail
  exact bodyPost_ret (by simp [results, Tryd.results38, go_sem]) rfl ⟨rfl, rfl⟩
set_option maxHeartbeats 400000 in
theorem refKind_5 (w : World) : Calls Tryd.prog 38 #[.int .i64 5] w fun e w' => e = .returned (.tuple #[.int .i64 136, .int .u8 31, .int .i64 (-1), .bool true]) ∧ w = w' := by
  go_enter Tryd.func38, Tryd.ntmps38
  go_wp2_with fail
  exact bodyPost_ret (by simp [results, Tryd.results38, go_sem]) rfl ⟨rfl, rfl⟩
theorem refKind_any (k : Nat) (hk : IsKind k) (w : World) :
    Calls Tryd.prog 38 #[.int .i64 (k : Nat)] w fun e w' => e = .returned (.tuple #[.int .i64 (rateK k : Nat), .int .u8 (endK k : Nat), .int .i64 (sizeK k), .bool true]) ∧ w = w' := by
  rcases hk with rfl | rfl | rfl | rfl | rfl
  · exact refKind_1 w
  · exact refKind_2 w
  · exact refKind_3 w
  · exact refKind_4 w
  · exact refKind_5 w
end Go.Proofs.YtidnlaibfkjgpaaDoor
