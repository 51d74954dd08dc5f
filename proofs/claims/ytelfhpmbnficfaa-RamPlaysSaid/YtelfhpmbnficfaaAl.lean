/- The live question. No condition. -/
import Derived.Test.YtelfhpmbnficfaaPc
namespace Go.Proofs.Ytelfhpmbnficfaa
open Go.RowKit
set_option linter.unusedVariables false
set_option maxRecDepth 100000
set_option linter.unusedSimpArgs false
def x0 : Reg := ⟨1073741824, 16, true, true, false, false⟩
theorem putM_read (m b : List Nat) (o : Nat) (h : o ≤ m.length) : ((putM m o b).drop o).take b.length = b := by
  unfold putM
  have hl : (m.take o).length = o := by rw [List.length_take]; omega
  have e := List.drop_left (l₁ := m.take o) (l₂ := b ++ m.drop (o + b.length))
  rw [hl] at e
  rw [e]
  exact List.take_left
theorem al_add : addE [] x0 = 0 ∧ addT [] x0 = [x0] := by constructor <;> rfl
theorem al_st : mayE [x0] false 2 1073741832 1 = 0 := by decide +kernel
theorem al_ld : mayE [x0] true 1 1073741832 1 = 0 := by decide +kernel
theorem al_st9 : mayE [x0] false 2 1073741832 9 = 165 := by decide +kernel
theorem al_tok : TOk [x0] := by have := addT_ok TOk.nil x0; rwa [al_add.2] at this
theorem bin_one' (w : World) (x : Nat) (hx : x < 256) : BIn (w.alloc (.cells #[.int .u8 (x : Nat)] 5)) (some ⟨w.heap.size, 0, none⟩) 1 1 [x] :=
  ⟨⟨rfl, by unfold maxLen; omega, by simpa using hx, .inr ⟨_, 0, rfl, fun i hi => by
    obtain rfl : i = 0 := by omega
    exact (Blk.new w 5 [.int .u8 (x : Nat)]).cell 0⟩⟩, Nat.le_refl _, by unfold maxLen; omega, by omega, fun h => by cases h⟩
theorem hmk9 (w : World) : (Instr.makeSlice 36 (.int .i64 9) (.int .i64 9)).run Try.prog w = .ok (.slice (some ⟨w.heap.size, 0, none⟩) 9 9) (w.alloc (.cells (natsV .u8 (List.replicate 9 0)).toArray 5)) := by kernel_rfl
theorem bin_nine (w : World) : BIn (w.alloc (.cells (natsV .u8 (List.replicate 9 0)).toArray 5)) (some ⟨w.heap.size, 0, none⟩) 9 9 (List.replicate 9 0) :=
  ⟨⟨rfl, by unfold maxLen; omega, fun x hx => by rw [(List.mem_replicate.1 hx).2]; omega, .inr ⟨_, 0, rfl, fun i hi => by
    rw [Nat.zero_add]
    exact (Blk.new w 5 (natsV .u8 (List.replicate 9 0))).nat i (by simpa using hi)⟩⟩, Nat.le_refl _, by unfold maxLen; omega, by omega, fun h => by cases h⟩
set_option maxHeartbeats 3200000 in
theorem alive_any (w : World) : Calls Try.prog 8 #[] w fun e w' => e = .returned (.bool true) ∧ Below w.heap.size w w' := by
  go_enter Try.func8, Try.ntmps8
  go_wp2_with fail
  refine (new_any w).mono ?_
  rintro e w1 ⟨rfl, hP, hb⟩
  have HB := Lib.hid hb
  have HP := Lib.hid hP
  clear hb hP
  go_wp2_with fail
  have hA := add_any w.heap.size w.heap.size x0 m0 [] none 0 w1 HP.out m0_ok TOk.nil (Nat.le_refl _) HB.out.size (by unfold RFit x0; decide)
  rw [al_add.1, al_add.2] at hA
  refine (show Calls _ _ #[_, .agg #[.int .u64 1073741824, .int .u64 16, .bool true, .bool true, .bool false, .bool false]] _ _ from hA).mono ?_
  rintro e w2 ⟨rfl, ⟨A2, c2, hp2⟩, hf2⟩
  have HP2 := Lib.hid hp2
  have HB2 := Lib.hid (show Below w.heap.size w w2 from HB.out.trans (hf2.below HB.out.size))
  clear hA hp2 hf2 HP HB
  go_wp2_with fail
  have hg3 := Gr.alloc w2 (.cells #[.int .u8 (7 : Nat)] 5)
  have hS := store_any w.heap.size w.heap.size 1073741832 1 1 false (some ⟨w2.heap.size, 0, none⟩) [7] m0 [x0] A2 c2 (w2.alloc (.cells #[.int .u8 (7 : Nat)] 5)) (HP2.out.bel hg3) m0_ok al_tok (Nat.le_refl _) (by unfold U64; omega) (bin_one' w2 7 (by omega))
  rw [al_st] at hS
  have em : stM m0 [x0] false 1073741832 [7] = putM m0 8 [7] := by unfold stM; rw [show [7].length = 1 from rfl, if_pos al_st]
  rw [em] at hS
  have HG3 := Lib.hid hg3
  refine hS.mono ?_
  rintro e w3 ⟨rfl, ⟨A3, c3, hp3⟩, hf3⟩
  have HP3 := Lib.hid hp3
  have HB3 := Lib.hid (show Below w.heap.size w w3 from (HB2.out.trans (HG3.out.mono HB2.out.size)).trans (hf3.below (Nat.le_trans HB2.out.size HG3.out.size)))
  clear hS hp3 hf3 HP2 HB2 hg3 HG3 em
  go_wp2_with fail
  have hmk : MOk (putM m0 8 [7]) := putM_ok m0_ok (by simp) (by simp)
  have HMK := Lib.hid hmk
  have hL := load_any w.heap.size w.heap.size 1073741832 1 true (putM m0 8 [7]) [x0] A3 c3 w3 HP3.out hmk al_tok (by unfold U64; omega) (by unfold U64; omega)
  have el : ldL (putM m0 8 [7]) [x0] true 1 1073741832 1 = [7] := by
    unfold ldL
    rw [if_pos al_ld]
    exact putM_read m0 [7] 8 (by rw [m0_ok.ln]; omega)
  rw [al_ld, el] at hL
  refine hL.mono ?_
  rintro e w4 ⟨A4, c4, rfl, hown4, hb4⟩
  have HP4 := Lib.hid (HP3.out.bel hb4)
  have HB4 := Lib.hid (show Below w.heap.size w w4 from HB3.out.trans (hb4.mono HB3.out.size))
  have HO4 := Lib.hid hown4
  clear hL el hmk hown4 hb4 HP3 HB3
  go_wp2_with fail
  rw [hmk9]
  go_wp2_with fail
  have hg5 := Gr.alloc w4 (.cells (natsV .u8 (List.replicate 9 0)).toArray 5)
  have hS := store_any w.heap.size w.heap.size 1073741832 9 9 false (some ⟨w4.heap.size, 0, none⟩) (List.replicate 9 0) (putM m0 8 [7]) [x0] A3 c3 _ (HP4.out.bel hg5) HMK.out al_tok (Nat.le_refl _) (by unfold U64; omega) (bin_nine w4)
  rw [al_st9] at hS
  have HG5 := Lib.hid hg5
  refine hS.mono ?_
  rintro e w5 ⟨rfl, _, hf5⟩
  have HB5 := Lib.hid (show Below w.heap.size w w5 from (HB4.out.trans (HG5.out.mono HB4.out.size)).trans (hf5.below (Nat.le_trans HB4.out.size HG5.out.size)))
  have HO5 := (FrT.own hf5 (own_below HO4.out HG5.out) (by decide))
  have hf := World.ownsRow.form HO5 (by decide)
  obtain ⟨g, cp, e4, _⟩ := hf
  injection e4 with e1 e2 e3
  subst e1
  have hc := (own_cells HO5).2 0 (by decide)
  simp at hc
  clear HO5 e2 e3 hS hg5 hf5
  go_wp2_with fail
  go_ret
  exact ⟨by simp, HB5.out⟩
end Go.Proofs.Ytelfhpmbnficfaa
