/- RamNil: the law's walk. No condition. -/
import Derived.Test.YtelfhpmbnficfaaAl
import Derived.Test.YtelfhpmbnficfaaDs
namespace Go.Proofs.Ytelfhpmbnficfaa
open Go.RowKit
set_option linter.unusedVariables false
set_option maxRecDepth 100000
set_option linter.unusedSimpArgs false
set_option maxHeartbeats 1600000 in
theorem find_nil (p : Value) (w : World) : Calls Try.prog 17 #[.pointer none, p] w fun e w' => e = .returned (.tuple #[.agg #[.int .u64 0, .int .u64 0, .bool false, .bool false, .bool false, .bool false], .bool false]) ∧ Below w.heap.size w w' := by
  have HD := Lib.hid (Blk.new w 34 (regD r0))
  have HG := Lib.hid (Gr.alloc w (.cells (regD r0).toArray 34))
  go_enter Try.func17, Try.ntmps17
  go_wp2_with (refine wpList_store_row rfl 34 (.tmp 4) (.tmp 9) rfl w.heap.size (regD r0).toArray rfl rfl 34 (regD r0).toArray HD.out info34 rfl (allD _) ?_)
  have D3 := HD.out.setRow (regD r0)
  refine bodyPost_ret (results_two Try.results17 _ _ w.heap.size 34 _ (0, 0) _ _ rfl rfl D3 Try.underlying34 rfl info34) rfl ?_
  exact ⟨rfl, below_setRow' HG.out (Nat.le_refl _) _⟩
theorem regions_nil (w : World) : Calls Try.prog 14 #[.pointer none] w fun e w' => e = .returned (.slice none 0 0) ∧ w = w' := by
  go_enter Try.func14, Try.ntmps14
  go_wp2
  go_ret
  exact ⟨rfl, rfl⟩
set_option maxHeartbeats 6400000 in
theorem nil_walk (b s : Nat) (rd wrt ex sc : Bool) (p : Nat) (B : Option Addr) (n cb : Nat) (w : World) : Calls Try.prog 6 #[.agg #[.int .u64 (b : Nat), .int .u64 (s : Nat), .bool rd, .bool wrt, .bool ex, .bool sc], .int .u64 (p : Nat), .slice B n cb] w fun e w' => e = .returned (.bool true) ∧ Below w.heap.size w w' := by
  have HX := Lib.hid (Blk.new w 34 (regD ⟨b, s, rd, wrt, ex, sc⟩))
  have HG0 := Lib.hid (Gr.alloc w (.cells (regD ⟨b, s, rd, wrt, ex, sc⟩).toArray 34))
  go_enter Try.func6, Try.ntmps6
  go_wp2_with (first
    | (go_at_call 20; refine (load_nil _ _ _ _).mono ?_; rintro e w9 ⟨rfl, rfl⟩)
    | (go_at_call 21; refine (fetch_nil _ _ _ _).mono ?_; rintro e w9 ⟨rfl, rfl⟩)
    | (go_at_call 10; refine (peek_nil _ _ _).mono ?_; rintro e w9 ⟨rfl, rfl⟩))
  refine (find_nil _ _).mono ?_
  rintro e w1 ⟨rfl, hb1⟩
  have HB1 := Lib.hid (show Gr w w1 from Gr.trans HG0.out hb1)
  have HX1 := Lib.hid (HX.out.below' hb1)
  clear hb1
  go_wp2_with (first
    | (go_at_call 22; refine (wipe_nil _).mono ?_; rintro e w9 ⟨rfl, rfl⟩)
    | (go_at_call 14; refine (regions_nil _).mono ?_; rintro e w9 ⟨rfl, rfl⟩))
  have HY2 := Lib.hid (Blk.new w1 34 (regD r0))
  have HB2 := Lib.hid (HB1.out.trans (Gr.alloc w1 (.cells (regD r0).toArray 34)))
  have HX2 := Lib.hid (HX1.out.alloc (.cells (regD r0).toArray 34))
  refine (alive_any _).mono ?_
  rintro e w3 ⟨rfl, hb3⟩
  have HB3 := Lib.hid (Gr.trans HB2.out hb3)
  obtain ⟨e0, e1, e2, e3, e4, e5⟩ := reg6 (blk_all (Blk.gr HX2.out hb3))
  obtain ⟨f0, f1, f2, f3, f4, f5⟩ := reg6 (blk_all (Blk.gr HY2.out hb3))
  clear hb3
  go_wp2_with fail
  refine (add_nil _ _ _ _ _ _ _).mono ?_
  rintro e w4 ⟨rfl, hb4⟩
  have HB4 := Lib.hid (Gr.trans HB3.out hb4)
  clear hb4 e0 e1 e2 e3 e4 e5 f0 f1 f2 f3 f4 f5
  go_wp2_with (first
    | (go_at_call 15; refine (drop_nil _ _).mono ?_; rintro e w9 ⟨rfl, rfl⟩)
    | (go_at_call 23; refine (may_nil _ _ _ _ _ (by omega)).mono ?_; rintro e w9 ⟨rfl, rfl⟩)
    | (go_at_call 19; refine (store_nil _ _ _ _ _ _).mono ?_; rintro e w9 ⟨rfl, rfl⟩)
    | (go_at_call 18; refine (place_nil _ _ _ _ _).mono ?_; rintro e w9 ⟨rfl, rfl⟩))
  go_ret
  exact ⟨by simp, HB4.out⟩
theorem nil_law (y : Reg) (p : Nat) (B : Option Addr) (n cb : Nat) (w : World) : Calls Try.prog 6 #[.agg (regD y).toArray, .int .u64 (p : Nat), .slice B n cb] w fun e w' => e = .returned (.bool true) ∧ Below w.heap.size w w' := by
  obtain ⟨b, s, rd, wrt, ex, sc⟩ := y
  exact nil_walk b s rd wrt ex sc p B n cb w
end Go.Proofs.Ytelfhpmbnficfaa
