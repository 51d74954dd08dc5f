/- The head of each statement of the field answers true. No condition. -/
import Derived.Test.YtfffmoolkgheaaaFt
namespace Go.Proofs.Ytfffmoolkgheaaa
open Go.RowKit
set_option linter.unusedVariables false
set_option linter.unusedSimpArgs false
theorem toP1 : toF mP 1 = 26959946660873538059280334323183841250350249843923952699046031785985 := by decide +kernel
theorem wds_F1 : wds 4 (toF mP 1) = [1, 18446744069414584320, 18446744073709551615, 4294967294] := by decide +kernel
theorem ofP1 : ofF mP vP (toF mP 1) = 1 := by decide +kernel
theorem toP1_lt : toF mP 1 < mP := by decide +kernel
set_option maxRecDepth 100000 in
set_option maxHeartbeats 800000 in
theorem fawake_any (w : World) : Calls Try.prog 18 #[] w fun e w' => e = .returned (.bool true) ∧ Below w.heap.size w w' := by
  have HIN := Lib.hid (fun w => In_ok 1 mP 1 vP 1 w .p (by decide))
  rw [← num_lit1, wds_F1] at HIN
  have HOUT := Lib.hid (fun w => Out_ok 1 mP 1 vP (toF mP 1) w fld_P (Nat.lt_trans toP1_lt fld_P.lt) (pok_1 1 mP 1 vP _ .p toP1_lt))
  rw [ofP1, wds_F1] at HOUT
  have L1 := Lib.hid (wds_len 4 1)
  have Q := Lib.hid (fun w => show (binOp .eql 24 (.agg (natsV .u64 (wds 4 1)).toArray) (.agg #[.int .u64 1, .int .u64 0, .int .u64 0, .int .u64 0])).run Try.prog w = .ok (.bool true) w from by
    rw [num_lit1, eql24 _ _ (wds_len 4 1) (wds_len 4 1)]; simp)
  obtain ⟨lx, hlx⟩ : ∃ l, l = [1, 18446744069414584320, 18446744073709551615, 4294967294] := ⟨_, rfl⟩
  rw [← hlx] at HIN HOUT
  have LX := Lib.hid (show lx.length = 4 by rw [hlx]; rfl)
  have X0 := Lib.hid (show lx.getD 0 0 = 1 by rw [hlx]; rfl)
  have X1 := Lib.hid (show lx.getD 1 0 = 18446744069414584320 by rw [hlx]; rfl)
  clear hlx
  generalize wds 4 1 = l1 at *
  go_enter Try.func18, Try.ntmps18
  go_wp2_with fail
  refine (HIN.out _).mono ?_
  rintro e w1 ⟨rfl, hb1⟩
  have Z3 := Lib.hid (Blk.new w1 24 (natsV .u64 (zeros 4)))
  have hz4 := Lib.hid (below_setRow' (hb1.alloc hb1.size (.cells (natsV .u64 (zeros 4)).toArray 24)) hb1.size (natsV .u64 lx).toArray)
  have Y5 := Lib.hid (Z3.out.setRow (natsV .u64 lx))
  go_wp2_with (first | (refine st24 rfl (.tmp 1) (.tmp 8) rfl w1.heap.size rfl lx rfl LX.out (zeros 4) Z3.out rfl ?_; generalize hW : World.setRow _ _ _ = w2; have D7 := Lib.hid (show Blk w2 w1.heap.size 24 (natsV .u64 lx) from (by rw [← hW]; exact Y5.out)); have hbel8 : Below w.heap.size w w2 := (by rw [← hW]; exact hz4.out); clear hW Z3 hz4   Y5 hb1; generalize w1.heap.size = G6 at *) | (refine ld24 rfl (.tmp 1) rfl G6 rfl lx D7.out LX.out ?_))
  refine (HOUT.out _).mono ?_
  rintro e w9 ⟨rfl, hbw9⟩
  have C10 := Lib.hid (D7.out.below' hbw9)
  have hbel11 := hbel8.trans (hbw9.mono hbel8.size)
  clear D7 hbw9 hbel8
  have Z13 := Lib.hid (Blk.new w9 24 (natsV .u64 (zeros 4)))
  have hz14 := Lib.hid (below_setRow' (hbel11.alloc hbel11.size (.cells (natsV .u64 (zeros 4)).toArray 24)) hbel11.size (natsV .u64 l1).toArray)
  have Y15 := Lib.hid ((C10.out.alloc (.cells (natsV .u64 (zeros 4)).toArray 24)).row (natsV .u64 l1).toArray (Nat.ne_of_lt C10.out.lt))
  have Y16 := Lib.hid (Z13.out.setRow (natsV .u64 l1))
  have q := Q.out
  go_wp2_with (first | (refine st24 rfl (.tmp 3) (.tmp 13) rfl w9.heap.size rfl l1 rfl L1.out (zeros 4) Z13.out rfl ?_; generalize hW : World.setRow _ _ _ = w12; have D18 := Lib.hid (show Blk w12 G6 24 (natsV .u64 lx) from (by rw [← hW]; exact Y15.out)); have D19 := Lib.hid (show Blk w12 w9.heap.size 24 (natsV .u64 l1) from (by rw [← hW]; exact Y16.out)); have LE_D19 := (hbel11).size; have NE_D18 := Nat.ne_of_lt C10.out.lt; have hbel20 : Below w.heap.size w w12 := (by rw [← hW]; exact hz14.out); clear hW Z13 hz14 C10 Y15 Y16 hbel11; generalize w9.heap.size = G17 at *; have c0 := D18.out.nat 0 (by rw [LX.out]; decide); rw [X0.out] at c0; have c1 := D18.out.nat 1 (by rw [LX.out]; decide); rw [X1.out] at c1) | (refine ldw 24 (.tmp 3) rfl G17 rfl .u64 l1 D19.out _ _ Try.underlying24 (by rw [info24, L1.out]) 16 rfl 31 rfl rfl ?_; as_aux_lemma => (go_wp2_with fail; go_ret; exact ⟨rfl, hbel20⟩)))
end Go.Proofs.Ytfffmoolkgheaaa
