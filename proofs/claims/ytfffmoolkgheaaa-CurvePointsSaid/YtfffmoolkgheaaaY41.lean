/- Parts of proofs of statements, each text behind those that it stands on. No condition of its own. -/
import Derived.Test.YtfffmoolkgheaaaY36
namespace Go.Proofs.Ytfffmoolkgheaaa
open Go.RowKit
set_option linter.unusedVariables false
set_option linter.unusedSimpArgs false
def l2X : List Nat := [11964737083406719352, 13873736548487404341, 9967090510939364035, 9003393950442278782]
theorem l2X_eq : nw g2X = l2X := by decide +kernel
set_option maxRecDepth 100000 in
set_option maxHeartbeats 1600000 in
theorem awake_w {lx ly my : List Nat} (hlx : lx.length = 4) (hly : ly.length = 4) (hmy : my.length = 4)
    (c1 : ∀ w, Calls Try.prog 30 #[] w fun e w' => e = .returned (.agg (pv lx ly false).toArray) ∧ Below w.heap.size w w')
    (c2 : ∀ w, Calls Try.prog 38 #[.agg (pv lx ly false).toArray, .agg (pv lx ly false).toArray] w fun e w' => e = .returned (.tuple #[.agg (pv l2X my false).toArray, .int .i64 0]) ∧ Below w.heap.size w w')
    (c3 : ∀ w, Calls Try.prog 29 #[.agg (pv lx ly false).toArray] w fun e w' => e = .returned (.bool true) ∧ Below w.heap.size w w') (w : World) :
    Calls Try.prog 24 #[] w fun e w' => e = .returned (.bool true) ∧ Below w.heap.size w w' := by
  have L_lx := Lib.hid hlx
  clear hlx
  have L_ly := Lib.hid hly
  clear hly
  have L_my := Lib.hid hmy
  clear hmy
  have Hc1 := Lib.hid c1
  clear c1
  have Hc2 := Lib.hid c2
  clear c2
  have Hc3 := Lib.hid c3
  clear c3
  have bel_ := Below.refl w.heap.size w
  go_enter Try.func24, Try.ntmps24
  go_wp2_with fail
  refine (Hc1.out _).mono ?_
  rintro e w1 ⟨rfl, hbw1⟩
  have hbel2 := bel_.trans (Below.mono hbw1 bel_.size)
  clear bel_
  clear hbw1
  go_wp2_with (first | (refine stB rfl 43 (.tmp 1) (.tmp 4) rfl w1.heap.size rfl (pv lx ly false) rfl 43 (pv (zeros 4) (zeros 4) false) (Blk.new w1 43 (pv (zeros 4) (zeros 4) false)) (i43 L_lx.out L_ly.out) (lenEq (show (pv (zeros 4) (zeros 4) false).length = 9 from rfl) (pv_len L_lx.out L_ly.out)) (pv_one _ _ _) ?_; generalize hW : World.setRow _ _ _ = w3; obtain ⟨hgw3, hnw3⟩ := newfacts hW; clear hW; have hbel6 := hbel2.trans (Below.mono hgw3 hbel2.size); clear hbel2; have D5 := Lib.hid hnw3; have szw3 := hgw3.size; clear hnw3 hgw3 szw3; generalize w1.heap.size = G4 at *) | (refine wpList_load_mid rfl 43 (.tmp 1) rfl G4 0 rfl (pv lx ly false) _ (blk_all (D5.out)) Try.underlying43 rfl (i43 L_lx.out L_ly.out) ?_) | (refine wpList_load_mid rfl 43 (.tmp 1) rfl G4 0 rfl (pv lx ly false) _ (blk_all (D5.out)) Try.underlying43 rfl (i43 L_lx.out L_ly.out) ?_))
  refine (Hc2.out _).mono ?_
  rintro e w7 ⟨rfl, hbw7⟩
  have C8 := Lib.hid (D5.out.gr hbw7)
  clear D5
  have hbel9 := hbel6.trans (Below.mono hbw7 hbel6.size)
  clear hbel6
  clear hbw7
  go_wp2_with (first | (refine stB rfl 43 (.tmp 2) (.tmp 9) rfl w7.heap.size rfl (pv l2X my false) rfl 43 (pv (zeros 4) (zeros 4) false) (Blk.new w7 43 (pv (zeros 4) (zeros 4) false)) (i43 (show l2X.length = 4 from rfl) L_my.out) (lenEq (show (pv (zeros 4) (zeros 4) false).length = 9 from rfl) (pv_len (show l2X.length = 4 from rfl) L_my.out)) (pv_one _ _ _) ?_; generalize hW : World.setRow _ _ _ = w10; obtain ⟨hgw10, hnw10⟩ := newfacts hW; clear hW; have C13 := Lib.hid (C8.out.gr hgw10); clear C8; have hbel14 := hbel9.trans (Below.mono hgw10 hbel9.size); clear hbel9; have D12 := Lib.hid hnw10; have szw10 := hgw10.size; clear hnw10 hgw10 szw10; generalize w7.heap.size = G11 at *) | (refine wpList_load_mid rfl 43 (.tmp 1) rfl G4 0 rfl (pv lx ly false) _ (blk_all (C13.out)) Try.underlying43 rfl (i43 L_lx.out L_ly.out) ?_))
  refine (Hc3.out _).mono ?_
  rintro e w15 ⟨rfl, hbw15⟩
  have C16 := Lib.hid (C13.out.gr hbw15)
  clear C13
  have C17 := Lib.hid (D12.out.gr hbw15)
  clear D12
  have hbel18 := hbel14.trans (Below.mono hbw15 hbel14.size)
  clear hbel14
  clear hbw15
  have c0 : w15.cell? ⟨G11, 0, none⟩ = some (.int .u64 11964737083406719352) := (C17.out.cell 0).trans rfl
  have c8 := pv_i C17.out (show l2X.length = 4 from rfl) L_my.out
  go_wp2_with fail
  go_ret
  exact ⟨rfl, hbel18⟩
theorem ptV_aff (x y : FP) : ptV (.aff x y) = .agg (pv (nw x) (nw y) false).toArray := rfl
theorem awake_of {X Y X2 Y2 : FP} (hb : Ans 30 #[] (ptV (.aff X Y))) (ha : Ans 38 #[ptV (.aff X Y), ptV (.aff X Y)] (.tuple #[ptV (.aff X2 Y2), .int .i64 0])) (ho : Ans 29 #[ptV (.aff X Y)] (.bool true)) (hl : nw X2 = l2X) : Ans 24 #[] (.bool true) := fun w => by
  rw [ptV_aff X2 Y2, hl] at ha
  exact awake_w (nw_len X) (nw_len Y) (nw_len Y2) hb ha ho w
theorem base_pt : Ans 30 #[] (ptV gP) := by
  have h : Ans 30 #[] (ptV (.aff gX gY)) := by rw [ptV_aff]; exact base_any
  exact h
theorem dbase_pt : Ans 31 #[] (ptV gP) := by
  have h : Ans 31 #[] (ptV (.aff gX gY)) := by rw [ptV_aff]; exact dbase_any
  exact h
theorem k_awake : Ans 24 #[] (.bool true) := by
  have h2 := k_addP on_gP on_gP
  rw [g2_eq] at h2
  exact awake_of base_pt h2 (k_onP on_gP) l2X_eq
end Go.Proofs.Ytfffmoolkgheaaa
