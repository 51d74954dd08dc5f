/- FieldForms: a case. No condition but 256 bits. -/
import Derived.Test.YtfaoajljaggklaaFf
namespace Go.Proofs.Ytfaoajljaggklaa
open Go.RowKit
set_option linter.unusedVariables false
set_option linter.unusedSimpArgs false
set_option maxRecDepth 100000 in
set_option maxHeartbeats 1600000 in
theorem forms_no (k : Int) (x : Nat) (w : World) (hx : x < 2 ^ 256) (h : k ≠ 1 ∧ k ≠ 2) :
    Calls Try.prog 5 #[.int .i64 k, .agg (natsV .u64 (wds 4 x)).toArray] w fun e w' => e = .returned (.bool true) ∧ Below w.heap.size w w' := by
  have HP := Lib.hid (fun w => DPrime_no k w h)
  have HM := Lib.hid (fun w => Modulus_no k w h)
  have HI := Lib.hid (fun w => In_no k x w h)
  have HO := Lib.hid (fun w => Out_err k 51 x w (by decide) (perr_no 1 _ k h))
  have LX := Lib.hid (wds_len 4 x)
  generalize wds 4 x = lx at *
  clear hx
  have u24 := Try.underlying24
  have B1 := Lib.hid (Blk.new w 24 (natsV .u64 lx))
  have BEL := Lib.hid ((Below.refl w.heap.size w).alloc (Nat.le_refl _) (.cells (natsV .u64 lx).toArray 24))
  go_enter Try.func5, Try.ntmps5
  go_wp2_with fail
  refine (fawake_any _).mono ?_
  rintro e w1 ⟨rfl, hbw1⟩
  have C2 := Lib.hid (B1.out.below' hbw1)
  have hbel3 := BEL.out.trans (hbw1.mono BEL.out.size)
  clear B1 hbw1
  go_wp2_with fail
  refine (HP.out _).mono ?_
  rintro e w4 ⟨rfl, hbw4⟩
  have C5 := Lib.hid (C2.out.below' hbw4)
  have hbel6 := hbel3.trans (hbw4.mono hbel3.size)
  clear C2 hbw4 hbel3
  have Z8 := Lib.hid (Blk.new w4 24 (natsV .u64 (zeros 4)))
  have hz9 := Lib.hid (below_setRow' (hbel6.alloc hbel6.size (.cells (natsV .u64 (zeros 4)).toArray 24)) hbel6.size (natsV .u64 (zeros 4)).toArray)
  have Y10 := Lib.hid ((C5.out.alloc (.cells (natsV .u64 (zeros 4)).toArray 24)).row (natsV .u64 (zeros 4)).toArray (Nat.ne_of_lt C5.out.lt))
  have Y11 := Lib.hid (Z8.out.setRow (natsV .u64 (zeros 4)))
  go_wp2_with (first | (refine st24 rfl (.tmp 6) (.tmp 22) rfl w4.heap.size rfl (zeros 4) rfl rfl (zeros 4) Z8.out rfl ?_; generalize hW : World.setRow _ _ _ = w7; have D13 := Lib.hid (show Blk w7 w.heap.size 24 (natsV .u64 lx) from (by rw [← hW]; exact Y10.out)); have D14 := Lib.hid (show Blk w7 w4.heap.size 24 (natsV .u64 (zeros 4)) from (by rw [← hW]; exact Y11.out)); have LE_D14 := (hbel6).size; have NE_D13 := Nat.ne_of_lt C5.out.lt; have hbel15 : Below w.heap.size w w7 := (by rw [← hW]; exact hz9.out); clear hW Z8 hz9 C5 Y10 Y11 hbel6; generalize w4.heap.size = G12 at *))
  refine (HM.out _).mono ?_
  rintro e w16 ⟨rfl, hbw16⟩
  have C17 := Lib.hid (D13.out.below' hbw16)
  have C18 := Lib.hid (D14.out.below' hbw16)
  have hbel19 := hbel15.trans (hbw16.mono hbel15.size)
  clear D13 D14 hbw16 hbel15
  have Z21 := Lib.hid (Blk.new w16 24 (natsV .u64 (zeros 4)))
  have hz22 := Lib.hid (below_setRow' (hbel19.alloc hbel19.size (.cells (natsV .u64 (zeros 4)).toArray 24)) hbel19.size (natsV .u64 (zeros 4)).toArray)
  have Y23 := Lib.hid ((C17.out.alloc (.cells (natsV .u64 (zeros 4)).toArray 24)).row (natsV .u64 (zeros 4)).toArray (Nat.ne_of_lt C17.out.lt))
  have Y24 := Lib.hid ((C18.out.alloc (.cells (natsV .u64 (zeros 4)).toArray 24)).row (natsV .u64 (zeros 4)).toArray (Nat.ne_of_lt C18.out.lt))
  have Y25 := Lib.hid (Z21.out.setRow (natsV .u64 (zeros 4)))
  go_wp2_with (first | (refine st24 rfl (.tmp 8) (.tmp 27) rfl w16.heap.size rfl (zeros 4) rfl rfl (zeros 4) Z21.out rfl ?_; generalize hW : World.setRow _ _ _ = w20; have D27 := Lib.hid (show Blk w20 w.heap.size 24 (natsV .u64 lx) from (by rw [← hW]; exact Y23.out)); have D28 := Lib.hid (show Blk w20 G12 24 (natsV .u64 (zeros 4)) from (by rw [← hW]; exact Y24.out)); have D29 := Lib.hid (show Blk w20 w16.heap.size 24 (natsV .u64 (zeros 4)) from (by rw [← hW]; exact Y25.out)); have LE_D29 := (hbel19).size; have NE_D28 := Nat.ne_of_lt C18.out.lt; have hbel30 : Below w.heap.size w w20 := (by rw [← hW]; exact hz22.out); clear hW Z21 hz22 C17 C18 Y23 Y24 Y25 hbel19; generalize w16.heap.size = G26 at *) | (refine ld24 rfl (.tmp 3) rfl w.heap.size rfl lx D27.out LX.out ?_))
  refine (HI.out _).mono ?_
  rintro e w31 ⟨rfl, hbw31⟩
  have C32 := Lib.hid (D27.out.below' hbw31)
  have C33 := Lib.hid (D28.out.below' hbw31)
  have C34 := Lib.hid (D29.out.below' hbw31)
  have hbel35 := hbel30.trans (hbw31.mono hbel30.size)
  clear D27 D28 D29 hbw31 hbel30
  have Z37 := Lib.hid (Blk.new w31 24 (natsV .u64 (zeros 4)))
  have hz38 := Lib.hid (below_setRow' (hbel35.alloc hbel35.size (.cells (natsV .u64 (zeros 4)).toArray 24)) hbel35.size (natsV .u64 (zeros 4)).toArray)
  have Y39 := Lib.hid ((C32.out.alloc (.cells (natsV .u64 (zeros 4)).toArray 24)).row (natsV .u64 (zeros 4)).toArray (Nat.ne_of_lt C32.out.lt))
  have Y40 := Lib.hid ((C33.out.alloc (.cells (natsV .u64 (zeros 4)).toArray 24)).row (natsV .u64 (zeros 4)).toArray (Nat.ne_of_lt C33.out.lt))
  have Y41 := Lib.hid ((C34.out.alloc (.cells (natsV .u64 (zeros 4)).toArray 24)).row (natsV .u64 (zeros 4)).toArray (Nat.ne_of_lt C34.out.lt))
  have Y42 := Lib.hid (Z37.out.setRow (natsV .u64 (zeros 4)))
  go_wp2_with (first | (refine st24 rfl (.tmp 10) (.tmp 33) rfl w31.heap.size rfl (zeros 4) rfl rfl (zeros 4) Z37.out rfl ?_; generalize hW : World.setRow _ _ _ = w36; have D44 := Lib.hid (show Blk w36 w.heap.size 24 (natsV .u64 lx) from (by rw [← hW]; exact Y39.out)); have D45 := Lib.hid (show Blk w36 G12 24 (natsV .u64 (zeros 4)) from (by rw [← hW]; exact Y40.out)); have D46 := Lib.hid (show Blk w36 G26 24 (natsV .u64 (zeros 4)) from (by rw [← hW]; exact Y41.out)); have D47 := Lib.hid (show Blk w36 w31.heap.size 24 (natsV .u64 (zeros 4)) from (by rw [← hW]; exact Y42.out)); have LE_D47 := (hbel35).size; have NE_D46 := Nat.ne_of_lt C34.out.lt; have hbel48 : Below w.heap.size w w36 := (by rw [← hW]; exact hz38.out); clear hW Z37 hz38 C32 C33 C34 Y39 Y40 Y41 Y42 hbel35; generalize w31.heap.size = G43 at *) | (refine ld24 rfl (.tmp 3) rfl w.heap.size rfl lx D44.out LX.out ?_))
  refine (HO.out _).mono ?_
  rintro e w49 ⟨rfl, hbw49⟩
  have C50 := Lib.hid (D44.out.below' hbw49)
  have C51 := Lib.hid (D45.out.below' hbw49)
  have C52 := Lib.hid (D46.out.below' hbw49)
  have C53 := Lib.hid (D47.out.below' hbw49)
  have hbel54 := hbel48.trans (hbw49.mono hbel48.size)
  clear D44 D45 D46 D47 hbw49 hbel48
  have Z56 := Lib.hid (Blk.new w49 24 (natsV .u64 (zeros 4)))
  have hz57 := Lib.hid (below_setRow' (hbel54.alloc hbel54.size (.cells (natsV .u64 (zeros 4)).toArray 24)) hbel54.size (natsV .u64 (zeros 4)).toArray)
  have Y58 := Lib.hid ((C50.out.alloc (.cells (natsV .u64 (zeros 4)).toArray 24)).row (natsV .u64 (zeros 4)).toArray (Nat.ne_of_lt C50.out.lt))
  have Y59 := Lib.hid ((C51.out.alloc (.cells (natsV .u64 (zeros 4)).toArray 24)).row (natsV .u64 (zeros 4)).toArray (Nat.ne_of_lt C51.out.lt))
  have Y60 := Lib.hid ((C52.out.alloc (.cells (natsV .u64 (zeros 4)).toArray 24)).row (natsV .u64 (zeros 4)).toArray (Nat.ne_of_lt C52.out.lt))
  have Y61 := Lib.hid ((C53.out.alloc (.cells (natsV .u64 (zeros 4)).toArray 24)).row (natsV .u64 (zeros 4)).toArray (Nat.ne_of_lt C53.out.lt))
  have Y62 := Lib.hid (Z56.out.setRow (natsV .u64 (zeros 4)))
  go_upto_region 7 with (first | (refine st24 rfl (.tmp 12) (.tmp 39) rfl w49.heap.size rfl (zeros 4) rfl rfl (zeros 4) Z56.out rfl ?_; generalize hW : World.setRow _ _ _ = w55; have D64 := Lib.hid (show Blk w55 w.heap.size 24 (natsV .u64 lx) from (by rw [← hW]; exact Y58.out)); have D65 := Lib.hid (show Blk w55 G12 24 (natsV .u64 (zeros 4)) from (by rw [← hW]; exact Y59.out)); have D66 := Lib.hid (show Blk w55 G26 24 (natsV .u64 (zeros 4)) from (by rw [← hW]; exact Y60.out)); have D67 := Lib.hid (show Blk w55 G43 24 (natsV .u64 (zeros 4)) from (by rw [← hW]; exact Y61.out)); have D68 := Lib.hid (show Blk w55 w49.heap.size 24 (natsV .u64 (zeros 4)) from (by rw [← hW]; exact Y62.out)); have LE_D68 := (hbel54).size; have NE_D67 := Nat.ne_of_lt C53.out.lt; have hbel69 : Below w.heap.size w w55 := (by rw [← hW]; exact hz57.out); clear hW Z56 hz57 C50 C51 C52 C53 Y58 Y59 Y60 Y61 Y62 hbel54; generalize w49.heap.size = G63 at *))
  have Z71 := Lib.hid (Blk.new w55 24 (natsV .u64 (zeros 4)))
  have hz72 := Lib.hid (below_setRow' (hbel69.alloc hbel69.size (.cells (natsV .u64 (zeros 4)).toArray 24)) hbel69.size (natsV .u64 (zeros 4)).toArray)
  have Y73 := Lib.hid ((D64.out.alloc (.cells (natsV .u64 (zeros 4)).toArray 24)).row (natsV .u64 (zeros 4)).toArray (Nat.ne_of_lt D64.out.lt))
  have Y74 := Lib.hid ((D65.out.alloc (.cells (natsV .u64 (zeros 4)).toArray 24)).row (natsV .u64 (zeros 4)).toArray (Nat.ne_of_lt D65.out.lt))
  have Y75 := Lib.hid ((D66.out.alloc (.cells (natsV .u64 (zeros 4)).toArray 24)).row (natsV .u64 (zeros 4)).toArray (Nat.ne_of_lt D66.out.lt))
  have Y76 := Lib.hid ((D67.out.alloc (.cells (natsV .u64 (zeros 4)).toArray 24)).row (natsV .u64 (zeros 4)).toArray (Nat.ne_of_lt D67.out.lt))
  have Y77 := Lib.hid ((D68.out.alloc (.cells (natsV .u64 (zeros 4)).toArray 24)).row (natsV .u64 (zeros 4)).toArray (Nat.ne_of_lt D68.out.lt))
  have Y78 := Lib.hid (Z71.out.setRow (natsV .u64 (zeros 4)))
  have q := eqS (zeros 4) rfl
  go_wp2_with (first | (refine st24 rfl (.tmp 14) (.tmp 43) rfl w55.heap.size rfl (zeros 4) (num_lit0.trans (by rw [num_zero])) rfl (zeros 4) Z71.out rfl ?_; generalize hW : World.setRow _ _ _ = w70; have D80 := Lib.hid (show Blk w70 w.heap.size 24 (natsV .u64 lx) from (by rw [← hW]; exact Y73.out)); have D81 := Lib.hid (show Blk w70 G12 24 (natsV .u64 (zeros 4)) from (by rw [← hW]; exact Y74.out)); have D82 := Lib.hid (show Blk w70 G26 24 (natsV .u64 (zeros 4)) from (by rw [← hW]; exact Y75.out)); have D83 := Lib.hid (show Blk w70 G43 24 (natsV .u64 (zeros 4)) from (by rw [← hW]; exact Y76.out)); have D84 := Lib.hid (show Blk w70 G63 24 (natsV .u64 (zeros 4)) from (by rw [← hW]; exact Y77.out)); have D85 := Lib.hid (show Blk w70 w55.heap.size 24 (natsV .u64 (zeros 4)) from (by rw [← hW]; exact Y78.out)); have LE_D85 := (hbel69).size; have NE_D84 := Nat.ne_of_lt D68.out.lt; have hbel86 : Below w.heap.size w w70 := (by rw [← hW]; exact hz72.out); clear hW Z71 hz72 D64 D65 D66 D67 D68 Y73 Y74 Y75 Y76 Y77 Y78 hbel69; generalize w55.heap.size = G79 at *) | (refine ldw 24 (.tmp 8) rfl G26 rfl .u64 (zeros 4) D82.out _ _ Try.underlying24 (by rw [info24]; rfl) 1 rfl 45 rfl rfl ?_) | (refine ldw 24 (.tmp 14) rfl G79 rfl .u64 (zeros 4) D85.out _ _ Try.underlying24 (by rw [info24]; rfl) 1 rfl 45 rfl rfl ?_) | (refine ldw 24 (.tmp 10) rfl G43 rfl .u64 (zeros 4) D83.out _ _ Try.underlying24 (by rw [info24]; rfl) 6 rfl 50 rfl rfl ?_) | (refine ldw 24 (.tmp 14) rfl G79 rfl .u64 (zeros 4) D85.out _ _ Try.underlying24 (by rw [info24]; rfl) 6 rfl 50 rfl rfl ?_) | (refine ldw 24 (.tmp 12) rfl G63 rfl .u64 (zeros 4) D84.out _ _ Try.underlying24 (by rw [info24]; rfl) 11 rfl 55 rfl rfl ?_) | (refine ldw 24 (.tmp 14) rfl G79 rfl .u64 (zeros 4) D85.out _ _ Try.underlying24 (by rw [info24]; rfl) 11 rfl 55 rfl rfl ?_; as_aux_lemma => (go_wp2_with fail; go_ret; exact ⟨rfl, hbel86⟩)))
end Go.Proofs.Ytfaoajljaggklaa
