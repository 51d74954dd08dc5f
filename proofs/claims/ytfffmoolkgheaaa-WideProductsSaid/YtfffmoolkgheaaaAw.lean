/- The head of each statement answers true. No condition. -/
import Derived.Test.YtfffmoolkgheaaaD
import Derived.Test.YtfffmoolkgheaaaBl
namespace Go.Proofs.Ytfffmoolkgheaaa
open Go.RowKit
set_option linter.unusedVariables false
set_option linter.unusedSimpArgs false
theorem num_lit0 : (.agg #[.int .u64 0, .int .u64 0, .int .u64 0, .int .u64 0] : Value) = .agg (natsV .u64 (wds 4 0)).toArray := by
  rw [show wds 4 0 = [0, 0, 0, 0] by decide +kernel]; rfl
theorem num_lit1 : (.agg #[.int .u64 1, .int .u64 0, .int .u64 0, .int .u64 0] : Value) = .agg (natsV .u64 (wds 4 1)).toArray := by
  rw [show wds 4 1 = [1, 0, 0, 0] by decide +kernel]; rfl
theorem num_zero : wds 4 0 = zeros 4 := by decide +kernel
theorem Sub_lit (w : World) : Calls Try.prog 47 #[.agg #[.int .u64 0, .int .u64 0, .int .u64 0, .int .u64 0], .agg #[.int .u64 1, .int .u64 0, .int .u64 0, .int .u64 0]] w fun e w' => e = .returned (.tuple #[.agg (natsV .u64 (wds 4 (2 ^ 256 - 1))).toArray, .int .i64 1]) ∧ Below w.heap.size w w' := by
  rw [num_lit0, num_lit1]
  exact Sub_any 0 1 w (by decide) (by decide)
theorem Add_lit (w : World) : Calls Try.prog 48 #[.agg (natsV .u64 (wds 4 (2 ^ 256 - 1))).toArray, .agg #[.int .u64 1, .int .u64 0, .int .u64 0, .int .u64 0]] w fun e w' => e = .returned (.tuple #[.agg (natsV .u64 (wds 4 0)).toArray, .int .i64 1]) ∧ Below w.heap.size w w' := by
  rw [num_lit1, show wds 4 0 = wds 4 (2 ^ 256 - 1 + 1) by decide +kernel]
  exact Add_any (2 ^ 256 - 1) 1 w (by decide) (by decide)
set_option maxRecDepth 100000 in
set_option maxHeartbeats 800000 in
theorem awake_any (w : World) : Calls Try.prog 10 #[] w fun e w' => e = .returned (.bool true) ∧ Below w.heap.size w w' := by
  have HSUB := Lib.hid (fun w => Sub_lit w)
  have HADD := Lib.hid (fun w => Add_lit w)
  have HBITS := Lib.hid (fun w => show Calls Try.prog 49 #[.agg (natsV .u64 (wds 4 (2 ^ 256 - 1))).toArray] w fun e w' => e = .returned (.int .i64 256) ∧ Below w.heap.size w w' from Bits_any (2 ^ 256 - 1) w (by decide))
  have LX := Lib.hid (wds_len 4 (2 ^ 256 - 1))
  have HX3 := Lib.hid (show (wds 4 (2 ^ 256 - 1)).getD 3 0 = 18446744073709551615 by decide +kernel)
  have L0 := Lib.hid (wds_len 4 0)
  have H0 := Lib.hid (show (.agg #[.int .u64 0, .int .u64 0, .int .u64 0, .int .u64 0] : Value) = .agg (natsV .u64 (wds 4 0)).toArray from num_lit0)
  have HEQ := Lib.hid (fun w => eql24 (wds 4 0) (wds 4 0) L0.out L0.out w)
  rw [← num_lit0] at HEQ
  generalize wds 4 (2 ^ 256 - 1) = lx at *
  rw [num_zero] at *
  go_enter Try.func10, Try.ntmps10
  go_wp2_with fail
  refine (HSUB.out _).mono ?_
  rintro e w1 ⟨rfl, hb1⟩
  have B1 := Lib.hid (Blk.new w1 24 (natsV .u64 (zeros 4)))
  have hbel1 := hb1.alloc hb1.size (.cells (natsV .u64 (zeros 4)).toArray 24)
  have C1 := Lib.hid (B1.out.setRow (natsV .u64 lx))
  have hbel2 := below_setRow' hbel1 hb1.size (natsV .u64 lx).toArray
  go_wp2_with (first | (refine st24 rfl (.tmp 1) (.tmp 9) rfl w1.heap.size rfl lx rfl LX.out (zeros 4) B1.out rfl ?_) | (refine ld24 rfl (.tmp 1) rfl w1.heap.size rfl lx C1.out LX.out ?_))
  clear B1 hb1 hbel1
  refine (HADD.out _).mono ?_
  rintro e w2 ⟨rfl, hb2⟩
  have D1 := Lib.hid ((C1.out.below' hb2).alloc (.cells (natsV .u64 (zeros 4)).toArray 24))
  have D2 := Lib.hid (Blk.new w2 24 (natsV .u64 (zeros 4)))
  have hbel3 := (hbel2.trans (hb2.mono hbel2.size)).alloc (Nat.le_trans hbel2.size hb2.size) (.cells (natsV .u64 (zeros 4)).toArray 24)
  have hsz : w1.heap.size < w2.heap.size := (C1.out.below' hb2).lt
  have hsz0 : w.heap.size ≤ w2.heap.size := Nat.le_trans hbel2.size hb2.size
  clear C1 hbel2 hb2
  have E1 := Lib.hid (D1.out.row (natsV .u64 (zeros 4)).toArray (show w1.heap.size ≠ w2.heap.size by omega))
  have E2 := Lib.hid (D2.out.setRow (natsV .u64 (zeros 4)))
  have hbel4 := below_setRow' hbel3 hsz0 (natsV .u64 (zeros 4)).toArray
  have q := fun w => (show (binOp .eql 24 (.agg #[.int .u64 0, .int .u64 0, .int .u64 0, .int .u64 0]) (.agg #[.int .u64 0, .int .u64 0, .int .u64 0, .int .u64 0])).run Try.prog w = .ok (.bool true) w from (HEQ.out w).trans (by simp))
  clear HEQ
  go_wp2_with (first | (refine st24 rfl (.tmp 3) (.tmp 15) rfl w2.heap.size rfl (zeros 4) rfl rfl (zeros 4) D2.out rfl ?_; generalize hW : World.setRow _ _ _ = W; have hb5 : Below w.heap.size w W := (by rw [← hW]; exact hbel4); have E3 : Blk W w1.heap.size 24 (natsV .u64 lx) := (by rw [← hW]; exact E1.out); have E4 : Blk W w2.heap.size 24 (natsV .u64 (zeros 4)) := (by rw [← hW]; exact E2.out); clear hW; have c3 := E3.nat 3 (by rw [LX.out]; decide); rw [HX3.out] at c3; have E5 := Lib.hid E3; have z0 : W.cell? ⟨w2.heap.size, 0, none⟩ = some (.int .u64 0) := E4.nat 0 (by decide); have z1 : W.cell? ⟨w2.heap.size, 1, none⟩ = some (.int .u64 0) := E4.nat 1 (by decide); have z2 : W.cell? ⟨w2.heap.size, 2, none⟩ = some (.int .u64 0) := E4.nat 2 (by decide); have z3 : W.cell? ⟨w2.heap.size, 3, none⟩ = some (.int .u64 0) := E4.nat 3 (by decide); clear E3 E4 E1 E2 D1 D2 hbel4 hbel3) | (refine ldg rfl 24 (.tmp 1) rfl w1.heap.size rfl .u64 lx E5.out _ _ Try.underlying24 (by rw [info24, LX.out]) ?_))
  clear q
  refine (HBITS.out _).mono ?_
  rintro e w3 ⟨rfl, hb3⟩
  have hbel5 := hb5.trans (hb3.mono hb5.size)
  go_wp2_with fail
  go_ret
  exact ⟨rfl, hbel5⟩
end Go.Proofs.Ytfffmoolkgheaaa
