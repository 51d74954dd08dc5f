/- FieldForms: a case. No condition but 256 bits. -/
import Derived.Test.YtfaoajljaggklaaFf
namespace Go.Proofs.Ytfaoajljaggklaa
open Go.RowKit
set_option linter.unusedVariables false
set_option linter.unusedSimpArgs false
set_option maxRecDepth 100000 in
set_option maxHeartbeats 1600000 in
theorem forms_ok (k : Int) (m f v : Nat) (x : Nat) (w : World) (hx : x < 2 ^ 256) (h : Wh k m f v) (hc : x < m) :
    Calls Try.prog 5 #[.int .i64 k, .agg (natsV .u64 (wds 4 x)).toArray] w fun e w' => e = .returned (.bool true) ∧ Below w.heap.size w w' := by
  have H := h.fld
  have hm := H.lt
  have hgt := H.gt
  have hpos := H.pos
  have HP := Lib.hid (fun w => DPrime_ok k m f v w h)
  have HM := Lib.hid (fun w => Modulus_ok k m f v w h)
  have HI := Lib.hid (fun w => In_ok k m f v x w h hx)
  have HR := Lib.hid (fun w => Rest_any x m false w hm hx (by simp; omega))
  rw [show (x + 2 ^ 256 * false.toNat) % m = x % m by simp] at HR
  have HF := Lib.hid (fun w => Form_any (x % m) m f v w H (Nat.mod_lt _ hpos))
  rw [toF_mod] at HF
  have HL := Lib.hid (fun w => Less_any x m w hx hm)
  have HO := Lib.hid (fun w => Out_ok k m f v x w H hx (pok_1 k m f v x h hc))
  rw [decide_eq_true hc] at HL
  have HO2 := Lib.hid (fun w => Out_ok k m f v (toF m x) w H (Nat.lt_trans (toF_lt H x) hm) (pok_1 k m f v _ h (toF_lt H x)))
  rw [H.of_to, Nat.mod_eq_of_lt hc] at HO2
  have HPL := Lib.hid (fun w => Plain_any x m f v w H hc)
  have LO := Lib.hid (wds_len 4 (ofF m v x))
  have LM := Lib.hid (wds_len 4 m)
  have LF := Lib.hid (wds_len 4 (toF m x))
  generalize wds 4 (toF m x) = lF at *
  generalize wds 4 (x % m) = lrest at *
  generalize wds 4 (ofF m v x) = lO at *
  generalize wds 4 m = lm at *
  clear h H hm hgt hpos hc
  have LX := Lib.hid (wds_len 4 x)
  generalize wds 4 x = lx at *
  clear hx
  have i24m : (Try.prog.info? 24).map (·.size) = some (natsV .u64 lm).length := by rw [info24, natsV_length, LM.out]
  have i24f : (Try.prog.info? 24).map (·.size) = some (natsV .u64 lF).length := by rw [info24, natsV_length, LF.out]
  have i24x : (Try.prog.info? 24).map (·.size) = some (natsV .u64 lx).length := by rw [info24, natsV_length, LX.out]
  have i24o : (Try.prog.info? 24).map (·.size) = some (natsV .u64 lO).length := by rw [info24, natsV_length, LO.out]
  have u24 := Try.underlying24
  have B1 := Lib.hid (Blk.new w 24 (natsV .u64 lx))
  have BEL := Lib.hid ((Below.refl w.heap.size w).alloc (Nat.le_refl _) (.cells (natsV .u64 lx).toArray 24))
  go_enter Try.func5, Try.ntmps5
  go_wp2_with fail
  refine (fawake_any _).mono ?_
  rintro e w1 ⟨rfl, hbw1⟩
  have C2 := Lib.hid (B1.out.below' hbw1)
  have hbel3 := BEL.out.trans (hbw1.mono BEL.out.size)
  clear B1 hbw1
  go_wp2_with fail
  refine (HP.out _).mono ?_
  rintro e w4 ⟨rfl, hbw4⟩
  have C5 := Lib.hid (C2.out.below' hbw4)
  have hbel6 := hbel3.trans (hbw4.mono hbel3.size)
  clear C2 hbw4 hbel3
  have Z8 := Lib.hid (Blk.new w4 24 (natsV .u64 (zeros 4)))
  have hz9 := Lib.hid (below_setRow' (hbel6.alloc hbel6.size (.cells (natsV .u64 (zeros 4)).toArray 24)) hbel6.size (natsV .u64 lm).toArray)
  have Y10 := Lib.hid ((C5.out.alloc (.cells (natsV .u64 (zeros 4)).toArray 24)).row (natsV .u64 lm).toArray (Nat.ne_of_lt C5.out.lt))
  have Y11 := Lib.hid (Z8.out.setRow (natsV .u64 lm))
  go_wp2_with (first | (refine st24 rfl (.tmp 6) (.tmp 22) rfl w4.heap.size rfl lm rfl LM.out (zeros 4) Z8.out rfl ?_; generalize hW : World.setRow _ _ _ = w7; have D13 := Lib.hid (show Blk w7 w.heap.size 24 (natsV .u64 lx) from (by rw [← hW]; exact Y10.out)); have D14 := Lib.hid (show Blk w7 w4.heap.size 24 (natsV .u64 lm) from (by rw [← hW]; exact Y11.out)); have LE_D14 := (hbel6).size; have NE_D13 := Nat.ne_of_lt C5.out.lt; have hbel15 : Below w.heap.size w w7 := (by rw [← hW]; exact hz9.out); clear hW Z8 hz9 C5 Y10 Y11 hbel6; generalize w4.heap.size = G12 at *))
  refine (HM.out _).mono ?_
  rintro e w16 ⟨rfl, hbw16⟩
  have C17 := Lib.hid (D13.out.below' hbw16)
  have C18 := Lib.hid (D14.out.below' hbw16)
  have hbel19 := hbel15.trans (hbw16.mono hbel15.size)
  clear D13 D14 hbw16 hbel15
  have Z21 := Lib.hid (Blk.new w16 24 (natsV .u64 (zeros 4)))
  have hz22 := Lib.hid (below_setRow' (hbel19.alloc hbel19.size (.cells (natsV .u64 (zeros 4)).toArray 24)) hbel19.size (natsV .u64 lm).toArray)
  have Y23 := Lib.hid ((C17.out.alloc (.cells (natsV .u64 (zeros 4)).toArray 24)).row (natsV .u64 lm).toArray (Nat.ne_of_lt C17.out.lt))
  have Y24 := Lib.hid ((C18.out.alloc (.cells (natsV .u64 (zeros 4)).toArray 24)).row (natsV .u64 lm).toArray (Nat.ne_of_lt C18.out.lt))
  have Y25 := Lib.hid (Z21.out.setRow (natsV .u64 lm))
  go_wp2_with (first | (refine st24 rfl (.tmp 8) (.tmp 27) rfl w16.heap.size rfl lm rfl LM.out (zeros 4) Z21.out rfl ?_; generalize hW : World.setRow _ _ _ = w20; have D27 := Lib.hid (show Blk w20 w.heap.size 24 (natsV .u64 lx) from (by rw [← hW]; exact Y23.out)); have D28 := Lib.hid (show Blk w20 G12 24 (natsV .u64 lm) from (by rw [← hW]; exact Y24.out)); have D29 := Lib.hid (show Blk w20 w16.heap.size 24 (natsV .u64 lm) from (by rw [← hW]; exact Y25.out)); have LE_D29 := (hbel19).size; have NE_D28 := Nat.ne_of_lt C18.out.lt; have hbel30 : Below w.heap.size w w20 := (by rw [← hW]; exact hz22.out); clear hW Z21 hz22 C17 C18 Y23 Y24 Y25 hbel19; generalize w16.heap.size = G26 at *) | (refine ld24 rfl (.tmp 3) rfl w.heap.size rfl lx D27.out LX.out ?_))
  refine (HI.out _).mono ?_
  rintro e w31 ⟨rfl, hbw31⟩
  have C32 := Lib.hid (D27.out.below' hbw31)
  have C33 := Lib.hid (D28.out.below' hbw31)
  have C34 := Lib.hid (D29.out.below' hbw31)
  have hbel35 := hbel30.trans (hbw31.mono hbel30.size)
  clear D27 D28 D29 hbw31 hbel30
  have Z37 := Lib.hid (Blk.new w31 24 (natsV .u64 (zeros 4)))
  have hz38 := Lib.hid (below_setRow' (hbel35.alloc hbel35.size (.cells (natsV .u64 (zeros 4)).toArray 24)) hbel35.size (natsV .u64 lF).toArray)
  have Y39 := Lib.hid ((C32.out.alloc (.cells (natsV .u64 (zeros 4)).toArray 24)).row (natsV .u64 lF).toArray (Nat.ne_of_lt C32.out.lt))
  have Y40 := Lib.hid ((C33.out.alloc (.cells (natsV .u64 (zeros 4)).toArray 24)).row (natsV .u64 lF).toArray (Nat.ne_of_lt C33.out.lt))
  have Y41 := Lib.hid ((C34.out.alloc (.cells (natsV .u64 (zeros 4)).toArray 24)).row (natsV .u64 lF).toArray (Nat.ne_of_lt C34.out.lt))
  have Y42 := Lib.hid (Z37.out.setRow (natsV .u64 lF))
  go_wp2_with (first | (refine st24 rfl (.tmp 10) (.tmp 33) rfl w31.heap.size rfl lF rfl LF.out (zeros 4) Z37.out rfl ?_; generalize hW : World.setRow _ _ _ = w36; have D44 := Lib.hid (show Blk w36 w.heap.size 24 (natsV .u64 lx) from (by rw [← hW]; exact Y39.out)); have D45 := Lib.hid (show Blk w36 G12 24 (natsV .u64 lm) from (by rw [← hW]; exact Y40.out)); have D46 := Lib.hid (show Blk w36 G26 24 (natsV .u64 lm) from (by rw [← hW]; exact Y41.out)); have D47 := Lib.hid (show Blk w36 w31.heap.size 24 (natsV .u64 lF) from (by rw [← hW]; exact Y42.out)); have LE_D47 := (hbel35).size; have NE_D46 := Nat.ne_of_lt C34.out.lt; have hbel48 : Below w.heap.size w w36 := (by rw [← hW]; exact hz38.out); clear hW Z37 hz38 C32 C33 C34 Y39 Y40 Y41 Y42 hbel35; generalize w31.heap.size = G43 at *) | (refine ld24 rfl (.tmp 3) rfl w.heap.size rfl lx D44.out LX.out ?_))
  refine (HO.out _).mono ?_
  rintro e w49 ⟨rfl, hbw49⟩
  have C50 := Lib.hid (D44.out.below' hbw49)
  have C51 := Lib.hid (D45.out.below' hbw49)
  have C52 := Lib.hid (D46.out.below' hbw49)
  have C53 := Lib.hid (D47.out.below' hbw49)
  have hbel54 := hbel48.trans (hbw49.mono hbel48.size)
  clear D44 D45 D46 D47 hbw49 hbel48
  have Z56 := Lib.hid (Blk.new w49 24 (natsV .u64 (zeros 4)))
  have hz57 := Lib.hid (below_setRow' (hbel54.alloc hbel54.size (.cells (natsV .u64 (zeros 4)).toArray 24)) hbel54.size (natsV .u64 lO).toArray)
  have Y58 := Lib.hid ((C50.out.alloc (.cells (natsV .u64 (zeros 4)).toArray 24)).row (natsV .u64 lO).toArray (Nat.ne_of_lt C50.out.lt))
  have Y59 := Lib.hid ((C51.out.alloc (.cells (natsV .u64 (zeros 4)).toArray 24)).row (natsV .u64 lO).toArray (Nat.ne_of_lt C51.out.lt))
  have Y60 := Lib.hid ((C52.out.alloc (.cells (natsV .u64 (zeros 4)).toArray 24)).row (natsV .u64 lO).toArray (Nat.ne_of_lt C52.out.lt))
  have Y61 := Lib.hid ((C53.out.alloc (.cells (natsV .u64 (zeros 4)).toArray 24)).row (natsV .u64 lO).toArray (Nat.ne_of_lt C53.out.lt))
  have Y62 := Lib.hid (Z56.out.setRow (natsV .u64 lO))
  go_wp2_with (first | (refine st24 rfl (.tmp 12) (.tmp 39) rfl w49.heap.size rfl lO rfl LO.out (zeros 4) Z56.out rfl ?_; generalize hW : World.setRow _ _ _ = w55; have D64 := Lib.hid (show Blk w55 w.heap.size 24 (natsV .u64 lx) from (by rw [← hW]; exact Y58.out)); have D65 := Lib.hid (show Blk w55 G12 24 (natsV .u64 lm) from (by rw [← hW]; exact Y59.out)); have D66 := Lib.hid (show Blk w55 G26 24 (natsV .u64 lm) from (by rw [← hW]; exact Y60.out)); have D67 := Lib.hid (show Blk w55 G43 24 (natsV .u64 lF) from (by rw [← hW]; exact Y61.out)); have D68 := Lib.hid (show Blk w55 w49.heap.size 24 (natsV .u64 lO) from (by rw [← hW]; exact Y62.out)); have LE_D68 := (hbel54).size; have NE_D67 := Nat.ne_of_lt C53.out.lt; have hbel69 : Below w.heap.size w w55 := (by rw [← hW]; exact hz57.out); clear hW Z56 hz57 C50 C51 C52 C53 Y58 Y59 Y60 Y61 Y62 hbel54; generalize w49.heap.size = G63 at *))
  as_aux_lemma =>
  refine wp_region_held_drew (S := (fun w' => w'.rangeAt G26 0 (natsV .u64 lm) ∧ w'.rangeAt G12 0 (natsV .u64 lm) ∧ w'.rangeAt G43 0 (natsV .u64 lF) ∧ w'.rangeAt w.heap.size 0 (natsV .u64 lx))) (by kernel_rfl) ⟨blk_rangeV D66.out.drew, blk_rangeV D65.out.drew, blk_rangeV D67.out.drew, blk_rangeV D64.out.drew⟩ (fun hHeld => ?_)
  refine wpAnyH_take (i := 0) (oi := _) (v := _) rfl (by kernel_rfl) (by kernel_rfl) (by kernel_rfl) (fun _ _ _ h => h) (Or.inl ⟨by rfl, by intro w hSw; (try dsimp only at hSw); go_simp; first | done | with_reducible rfl⟩) hHeld ?_
  try simp only [Act.put, List.getElem_toArray, List.getElem_cons_succ, List.getElem_cons_zero, List.setIfInBounds_toArray, List.set_cons_zero, List.set_cons_succ]
  refine wpAnyH_take (i := 1) (oi := _) (v := _) rfl (by kernel_rfl) (by kernel_rfl) (by kernel_rfl) (fun _ _ _ h => h) (Or.inl ⟨by rfl, by intro w hSw; (try dsimp only at hSw); go_simp; first | done | with_reducible rfl⟩) hHeld ?_
  try simp only [Act.put, List.getElem_toArray, List.getElem_cons_succ, List.getElem_cons_zero, List.setIfInBounds_toArray, List.set_cons_zero, List.set_cons_succ]
  refine wpAnyH_take (i := 2) (oi := _) (v := _) rfl (by kernel_rfl) (by kernel_rfl) (by kernel_rfl) (fun _ _ _ h => h) (Or.inl ⟨by rfl, by intro w hSw; (try dsimp only at hSw); go_simp; first | done | with_reducible rfl⟩) hHeld ?_
  try simp only [Act.put, List.getElem_toArray, List.getElem_cons_succ, List.getElem_cons_zero, List.setIfInBounds_toArray, List.set_cons_zero, List.set_cons_succ]
  refine wpAnyH_take (i := 3) (oi := _) (v := _) rfl (by kernel_rfl) (by kernel_rfl) (by kernel_rfl) (fun _ _ _ h => h) (Or.inl ⟨by rfl, by intro w hSw; (try dsimp only at hSw); go_simp; first | done | with_reducible rfl⟩) hHeld ?_
  try simp only [Act.put, List.getElem_toArray, List.getElem_cons_succ, List.getElem_cons_zero, List.setIfInBounds_toArray, List.set_cons_zero, List.set_cons_succ]
  refine wpAnyH_take (i := 4) (oi := _) (v := _) rfl (by kernel_rfl) (by kernel_rfl) (by kernel_rfl) (fun _ _ _ h => h) (Or.inl ⟨by rfl, by intro w hSw; (try dsimp only at hSw); go_simp; first | done | with_reducible rfl⟩) hHeld ?_
  try simp only [Act.put, List.getElem_toArray, List.getElem_cons_succ, List.getElem_cons_zero, List.setIfInBounds_toArray, List.set_cons_zero, List.set_cons_succ]
  refine wpAnyH_take (i := 5) (oi := _) (v := _) rfl (by kernel_rfl) (by kernel_rfl) (by kernel_rfl) (fun _ _ _ h => h) (Or.inl ⟨by rfl, by intro w hSw; (try dsimp only at hSw); go_simp; first | done | with_reducible rfl⟩) hHeld ?_
  try simp only [Act.put, List.getElem_toArray, List.getElem_cons_succ, List.getElem_cons_zero, List.setIfInBounds_toArray, List.set_cons_zero, List.set_cons_succ]
  refine wpAnyH_take (i := 6) (oi := _) (v := _) rfl (by kernel_rfl) (by kernel_rfl) (by kernel_rfl) (fun _ _ _ h => h) (Or.inl ⟨by rfl, by intro w hSw; (try dsimp only at hSw); go_simp; first | done | with_reducible rfl⟩) hHeld ?_
  try simp only [Act.put, List.getElem_toArray, List.getElem_cons_succ, List.getElem_cons_zero, List.setIfInBounds_toArray, List.set_cons_zero, List.set_cons_succ]
  refine wpAnyH_take (i := 7) (oi := _) (v := _) rfl (by kernel_rfl) (by kernel_rfl) (by kernel_rfl) (fun _ _ _ h => h) (yieldsIf_load_mid (by rfl) _ _ rfl _ _ rfl _ _ (by intro w hSw; exact hSw.1) u24 rfl i24m) hHeld ?_
  try simp only [Act.put, List.getElem_toArray, List.getElem_cons_succ, List.getElem_cons_zero, List.setIfInBounds_toArray, List.set_cons_zero, List.set_cons_succ]
  refine wpAnyH_take (i := 8) (oi := _) (v := _) rfl (by kernel_rfl) (by kernel_rfl) (by kernel_rfl) (fun _ _ _ h => h) (yieldsIf_load_mid (by rfl) _ _ rfl _ _ rfl _ _ (by intro w hSw; exact hSw.2.1) u24 rfl i24m) hHeld ?_
  try simp only [Act.put, List.getElem_toArray, List.getElem_cons_succ, List.getElem_cons_zero, List.setIfInBounds_toArray, List.set_cons_zero, List.set_cons_succ]
  have q := neS lm LM.out
  refine wpAnyH_take (i := 9) (oi := _) (v := _) rfl (by kernel_rfl) (by kernel_rfl) (by kernel_rfl) (fun _ _ _ h => h) (Or.inl ⟨by rfl, by intro w hSw; (try dsimp only at hSw); go_simp; first | done | with_reducible rfl⟩) hHeld ?_
  try simp only [Act.put, List.getElem_toArray, List.getElem_cons_succ, List.getElem_cons_zero, List.setIfInBounds_toArray, List.set_cons_zero, List.set_cons_succ]
  clear q
  refine wpAnyH_take (i := 10) (oi := _) (v := _) rfl (by kernel_rfl) (by kernel_rfl) (by kernel_rfl) (fun _ _ _ h => h) (Or.inl ⟨by rfl, by intro w hSw; (try dsimp only at hSw); go_simp; first | done | with_reducible rfl⟩) hHeld ?_
  try simp only [Act.put, List.getElem_toArray, List.getElem_cons_succ, List.getElem_cons_zero, List.setIfInBounds_toArray, List.set_cons_zero, List.set_cons_succ]
  refine wpAnyH_take (i := 11) (oi := _) (v := _) rfl (by kernel_rfl) (by kernel_rfl) (by kernel_rfl) (fun _ _ _ h => h) (Or.inl ⟨by rfl, by intro w hSw; (try dsimp only at hSw); go_simp; first | done | with_reducible rfl⟩) hHeld ?_
  try simp only [Act.put, List.getElem_toArray, List.getElem_cons_succ, List.getElem_cons_zero, List.setIfInBounds_toArray, List.set_cons_zero, List.set_cons_succ]
  refine wpAnyH_take (i := 12) (oi := _) (v := _) rfl (by kernel_rfl) (by kernel_rfl) (by kernel_rfl) (fun _ _ _ h => h) (Or.inl ⟨by rfl, by intro w hSw; (try dsimp only at hSw); go_simp; first | done | with_reducible rfl⟩) hHeld ?_
  try simp only [Act.put, List.getElem_toArray, List.getElem_cons_succ, List.getElem_cons_zero, List.setIfInBounds_toArray, List.set_cons_zero, List.set_cons_succ]
  refine wpAnyH_take (i := 13) (oi := _) (v := _) rfl (by kernel_rfl) (by kernel_rfl) (by kernel_rfl) (fun _ _ _ h => h) (Or.inl ⟨by rfl, by intro w hSw; (try dsimp only at hSw); go_simp; first | done | with_reducible rfl⟩) hHeld ?_
  try simp only [Act.put, List.getElem_toArray, List.getElem_cons_succ, List.getElem_cons_zero, List.setIfInBounds_toArray, List.set_cons_zero, List.set_cons_succ]
  refine wpAnyH_take (i := 14) (oi := _) (v := _) rfl (by kernel_rfl) (by kernel_rfl) (by kernel_rfl) (fun _ _ _ h => h) (Or.inl ⟨by rfl, by intro w hSw; (try dsimp only at hSw); go_simp; first | done | with_reducible rfl⟩) hHeld ?_
  try simp only [Act.put, List.getElem_toArray, List.getElem_cons_succ, List.getElem_cons_zero, List.setIfInBounds_toArray, List.set_cons_zero, List.set_cons_succ]
  refine wpAnyH_take (i := 15) (oi := _) (v := _) rfl (by kernel_rfl) (by kernel_rfl) (by kernel_rfl) (fun _ _ _ h => h) (Or.inl ⟨by rfl, by intro w hSw; (try dsimp only at hSw); go_simp; first | done | with_reducible rfl⟩) hHeld ?_
  try simp only [Act.put, List.getElem_toArray, List.getElem_cons_succ, List.getElem_cons_zero, List.setIfInBounds_toArray, List.set_cons_zero, List.set_cons_succ]
  refine wpAnyH_take (i := 16) (oi := _) (v := _) rfl (by kernel_rfl) (by kernel_rfl) (by kernel_rfl) (fun _ _ _ h => h) (yieldsIf_load_mid (by rfl) _ _ rfl _ _ rfl _ _ (by intro w hSw; exact hSw.2.2.1) u24 rfl i24f) hHeld ?_
  try simp only [Act.put, List.getElem_toArray, List.getElem_cons_succ, List.getElem_cons_zero, List.setIfInBounds_toArray, List.set_cons_zero, List.set_cons_succ]
  refine wpAnyH_take (i := 17) (oi := _) (v := _) rfl (by kernel_rfl) (by kernel_rfl) (by kernel_rfl) (fun _ _ _ h => h) (yieldsIf_load_mid (by rfl) _ _ rfl _ _ rfl _ _ (by intro w hSw; exact hSw.2.2.2) u24 rfl i24x) hHeld ?_
  try simp only [Act.put, List.getElem_toArray, List.getElem_cons_succ, List.getElem_cons_zero, List.setIfInBounds_toArray, List.set_cons_zero, List.set_cons_succ]
  refine wpAnyH_take (i := 18) (oi := _) (v := _) rfl (by kernel_rfl) (by kernel_rfl) (by kernel_rfl) (fun _ _ _ h => h) (yieldsIf_load_mid (by rfl) _ _ rfl _ _ rfl _ _ (by intro w hSw; exact hSw.2.1) u24 rfl i24m) hHeld ?_
  try simp only [Act.put, List.getElem_toArray, List.getElem_cons_succ, List.getElem_cons_zero, List.setIfInBounds_toArray, List.set_cons_zero, List.set_cons_succ]
  refine wpAnyH_take (i := 20) (oi := _) (v := _) rfl (by kernel_rfl) (by kernel_rfl) (by kernel_rfl) (fun _ _ _ h => h) (yieldsIf_load_mid (by rfl) _ _ rfl _ _ rfl _ _ (by intro w hSw; exact hSw.2.1) u24 rfl i24m) hHeld ?_
  try simp only [Act.put, List.getElem_toArray, List.getElem_cons_succ, List.getElem_cons_zero, List.setIfInBounds_toArray, List.set_cons_zero, List.set_cons_succ]
  refine wpAnyH_ready (rs := [19]) (by kernel_rfl) (by simp) ?_
  refine AllReadyH.cons (o := _) rfl (fun K hK => ?_) AllReadyH.nil
  go_simp
  go_at_call 24
  refine (HR.out _).mono ?_
  rintro e wx91 ⟨rfl, hbx91⟩
  refine hK.out _ _ (keepF4 hbx91 hHeld) (fun hHeld2 => ?_)
  clear hK K hHeld
  have hHeld := hHeld2
  clear hHeld2
  try simp only [Act.put, List.getElem_toArray, List.getElem_cons_succ, List.getElem_cons_zero, List.setIfInBounds_toArray, List.set_cons_zero, List.set_cons_succ]
  refine wpAnyH_ready (rs := [21]) (by kernel_rfl) (by simp) ?_
  refine AllReadyH.cons (o := _) rfl (fun K hK => ?_) AllReadyH.nil
  go_simp
  go_at_call 23
  refine (HF.out _).mono ?_
  rintro e wx92 ⟨rfl, hbx92⟩
  refine hK.out _ _ (keepF4 hbx92 hHeld) (fun hHeld2 => ?_)
  clear hK K hHeld
  have hHeld := hHeld2
  clear hHeld2
  try simp only [Act.put, List.getElem_toArray, List.getElem_cons_succ, List.getElem_cons_zero, List.setIfInBounds_toArray, List.set_cons_zero, List.set_cons_succ]
  have q := neS lF LF.out
  refine wpAnyH_take (i := 22) (oi := _) (v := _) rfl (by kernel_rfl) (by kernel_rfl) (by kernel_rfl) (fun _ _ _ h => h) (Or.inl ⟨by rfl, by intro w hSw; (try dsimp only at hSw); go_simp; first | done | with_reducible rfl⟩) hHeld ?_
  try simp only [Act.put, List.getElem_toArray, List.getElem_cons_succ, List.getElem_cons_zero, List.setIfInBounds_toArray, List.set_cons_zero, List.set_cons_succ]
  clear q
  refine wpAnyH_take (i := 23) (oi := _) (v := _) rfl (by kernel_rfl) (by kernel_rfl) (by kernel_rfl) (fun _ _ _ h => h) (Or.inl ⟨by rfl, by intro w hSw; (try dsimp only at hSw); go_simp; first | done | with_reducible rfl⟩) hHeld ?_
  try simp only [Act.put, List.getElem_toArray, List.getElem_cons_succ, List.getElem_cons_zero, List.setIfInBounds_toArray, List.set_cons_zero, List.set_cons_succ]
  refine wpAnyH_done (by kernel_rfl) ?_ _
  have E70 := Lib.hid ((D64.out.drew.below' hbx91).below' hbx92)
  have E71 := Lib.hid ((D65.out.drew.below' hbx91).below' hbx92)
  have E72 := Lib.hid ((D66.out.drew.below' hbx91).below' hbx92)
  have E73 := Lib.hid ((D67.out.drew.below' hbx91).below' hbx92)
  have E74 := Lib.hid ((D68.out.drew.below' hbx91).below' hbx92)
  have hbel75 := (hbel69.drew).trans (hbx91.mono (hbel69.drew).size)
  have hbel76 := (hbel75).trans (hbx92.mono (hbel75).size)
  clear hHeld hbx91 hbx92 D64 D65 D66 D67 D68
  as_aux_lemma =>
  go_wp2_with (first | (refine ld24 rfl (.tmp 3) rfl w.heap.size rfl lx E70.out LX.out ?_) | (refine ld24 rfl (.tmp 6) rfl G12 rfl lm E71.out LM.out ?_))
  refine (HL.out _).mono ?_
  rintro e w77 ⟨rfl, hbw77⟩
  have C78 := Lib.hid (E70.out.below' hbw77)
  have C79 := Lib.hid (E71.out.below' hbw77)
  have C80 := Lib.hid (E72.out.below' hbw77)
  have C81 := Lib.hid (E73.out.below' hbw77)
  have C82 := Lib.hid (E74.out.below' hbw77)
  have hbel83 := hbel76.trans (hbw77.mono hbel76.size)
  clear E70 E71 E72 E73 E74 hbw77 hbel76
  go_wp2_with (first | (refine ld24 rfl (.tmp 10) rfl G43 rfl lF C81.out LF.out ?_))
  refine (HO2.out _).mono ?_
  rintro e w84 ⟨rfl, hbw84⟩
  have C85 := Lib.hid (C78.out.below' hbw84)
  have C86 := Lib.hid (C79.out.below' hbw84)
  have C87 := Lib.hid (C80.out.below' hbw84)
  have C88 := Lib.hid (C81.out.below' hbw84)
  have C89 := Lib.hid (C82.out.below' hbw84)
  have hbel90 := hbel83.trans (hbw84.mono hbel83.size)
  clear C78 C79 C80 C81 C82 hbw84 hbel83
  have Z92 := Lib.hid (Blk.new w84 24 (natsV .u64 (zeros 4)))
  have hz93 := Lib.hid (below_setRow' (hbel90.alloc hbel90.size (.cells (natsV .u64 (zeros 4)).toArray 24)) hbel90.size (natsV .u64 lx).toArray)
  have Y94 := Lib.hid ((C85.out.alloc (.cells (natsV .u64 (zeros 4)).toArray 24)).row (natsV .u64 lx).toArray (Nat.ne_of_lt C85.out.lt))
  have Y95 := Lib.hid ((C86.out.alloc (.cells (natsV .u64 (zeros 4)).toArray 24)).row (natsV .u64 lx).toArray (Nat.ne_of_lt C86.out.lt))
  have Y96 := Lib.hid ((C87.out.alloc (.cells (natsV .u64 (zeros 4)).toArray 24)).row (natsV .u64 lx).toArray (Nat.ne_of_lt C87.out.lt))
  have Y97 := Lib.hid ((C88.out.alloc (.cells (natsV .u64 (zeros 4)).toArray 24)).row (natsV .u64 lx).toArray (Nat.ne_of_lt C88.out.lt))
  have Y98 := Lib.hid ((C89.out.alloc (.cells (natsV .u64 (zeros 4)).toArray 24)).row (natsV .u64 lx).toArray (Nat.ne_of_lt C89.out.lt))
  have Y99 := Lib.hid (Z92.out.setRow (natsV .u64 lx))
  go_wp2_with (first | (refine st24 rfl (.tmp 16) (.tmp 114) rfl w84.heap.size rfl lx rfl LX.out (zeros 4) Z92.out rfl ?_; generalize hW : World.setRow _ _ _ = w91; have D101 := Lib.hid (show Blk w91 w.heap.size 24 (natsV .u64 lx) from (by rw [← hW]; exact Y94.out)); have D102 := Lib.hid (show Blk w91 G12 24 (natsV .u64 lm) from (by rw [← hW]; exact Y95.out)); have D103 := Lib.hid (show Blk w91 G26 24 (natsV .u64 lm) from (by rw [← hW]; exact Y96.out)); have D104 := Lib.hid (show Blk w91 G43 24 (natsV .u64 lF) from (by rw [← hW]; exact Y97.out)); have D105 := Lib.hid (show Blk w91 G63 24 (natsV .u64 lO) from (by rw [← hW]; exact Y98.out)); have D106 := Lib.hid (show Blk w91 w84.heap.size 24 (natsV .u64 lx) from (by rw [← hW]; exact Y99.out)); have LE_D106 := (hbel90).size; have NE_D105 := Nat.ne_of_lt C89.out.lt; have hbel107 : Below w.heap.size w w91 := (by rw [← hW]; exact hz93.out); clear hW Z92 hz93 C85 C86 C87 C88 C89 Y94 Y95 Y96 Y97 Y98 Y99 hbel90; generalize w84.heap.size = G100 at *))
  as_aux_lemma =>
  refine wp_region_held_drew (S := (fun w' => w'.rangeAt G63 0 (natsV .u64 lO) ∧ w'.rangeAt w.heap.size 0 (natsV .u64 lx) ∧ w'.rangeAt G12 0 (natsV .u64 lm) ∧ w'.rangeAt G100 0 (natsV .u64 lx))) (by kernel_rfl) ⟨blk_rangeV D105.out.drew, blk_rangeV D101.out.drew, blk_rangeV D102.out.drew, blk_rangeV D106.out.drew⟩ (fun hHeld => ?_)
  refine wpAnyH_take (i := 0) (oi := _) (v := _) rfl (by kernel_rfl) (by kernel_rfl) (by kernel_rfl) (fun _ _ _ h => h) (Or.inl ⟨by rfl, by intro w hSw; (try dsimp only at hSw); go_simp; first | done | with_reducible rfl⟩) hHeld ?_
  try simp only [Act.put, List.getElem_toArray, List.getElem_cons_succ, List.getElem_cons_zero, List.setIfInBounds_toArray, List.set_cons_zero, List.set_cons_succ]
  refine wpAnyH_take (i := 1) (oi := _) (v := _) rfl (by kernel_rfl) (by kernel_rfl) (by kernel_rfl) (fun _ _ _ h => h) (Or.inl ⟨by rfl, by intro w hSw; (try dsimp only at hSw); go_simp; first | done | with_reducible rfl⟩) hHeld ?_
  try simp only [Act.put, List.getElem_toArray, List.getElem_cons_succ, List.getElem_cons_zero, List.setIfInBounds_toArray, List.set_cons_zero, List.set_cons_succ]
  refine wpAnyH_take (i := 2) (oi := _) (v := _) rfl (by kernel_rfl) (by kernel_rfl) (by kernel_rfl) (fun _ _ _ h => h) (Or.inl ⟨by rfl, by intro w hSw; (try dsimp only at hSw); go_simp; first | done | with_reducible rfl⟩) hHeld ?_
  try simp only [Act.put, List.getElem_toArray, List.getElem_cons_succ, List.getElem_cons_zero, List.setIfInBounds_toArray, List.set_cons_zero, List.set_cons_succ]
  refine wpAnyH_take (i := 3) (oi := _) (v := _) rfl (by kernel_rfl) (by kernel_rfl) (by kernel_rfl) (fun _ _ _ h => h) (yieldsIf_load_mid (by rfl) _ _ rfl _ _ rfl _ _ (by intro w hSw; exact hSw.1) u24 rfl i24o) hHeld ?_
  try simp only [Act.put, List.getElem_toArray, List.getElem_cons_succ, List.getElem_cons_zero, List.setIfInBounds_toArray, List.set_cons_zero, List.set_cons_succ]
  refine wpAnyH_take (i := 4) (oi := _) (v := _) rfl (by kernel_rfl) (by kernel_rfl) (by kernel_rfl) (fun _ _ _ h => h) (yieldsIf_load_mid (by rfl) _ _ rfl _ _ rfl _ _ (by intro w hSw; exact hSw.2.1) u24 rfl i24x) hHeld ?_
  try simp only [Act.put, List.getElem_toArray, List.getElem_cons_succ, List.getElem_cons_zero, List.setIfInBounds_toArray, List.set_cons_zero, List.set_cons_succ]
  refine wpAnyH_take (i := 5) (oi := _) (v := _) rfl (by kernel_rfl) (by kernel_rfl) (by kernel_rfl) (fun _ _ _ h => h) (yieldsIf_load_mid (by rfl) _ _ rfl _ _ rfl _ _ (by intro w hSw; exact hSw.2.2.1) u24 rfl i24m) hHeld ?_
  try simp only [Act.put, List.getElem_toArray, List.getElem_cons_succ, List.getElem_cons_zero, List.setIfInBounds_toArray, List.set_cons_zero, List.set_cons_succ]
  refine wpAnyH_ready (rs := [6]) (by kernel_rfl) (by simp) ?_
  refine AllReadyH.cons (o := _) rfl (fun K hK => ?_) AllReadyH.nil
  go_simp
  go_at_call 26
  refine (HPL.out _).mono ?_
  rintro e wx93 ⟨rfl, hbx93⟩
  refine hK.out _ _ (keepF4 hbx93 hHeld) (fun hHeld2 => ?_)
  clear hK K hHeld
  have hHeld := hHeld2
  clear hHeld2
  try simp only [Act.put, List.getElem_toArray, List.getElem_cons_succ, List.getElem_cons_zero, List.setIfInBounds_toArray, List.set_cons_zero, List.set_cons_succ]
  have q := eqS lO LO.out
  refine wpAnyH_take (i := 7) (oi := _) (v := _) rfl (by kernel_rfl) (by kernel_rfl) (by kernel_rfl) (fun _ _ _ h => h) (Or.inl ⟨by rfl, by intro w hSw; (try dsimp only at hSw); go_simp; first | done | with_reducible rfl⟩) hHeld ?_
  try simp only [Act.put, List.getElem_toArray, List.getElem_cons_succ, List.getElem_cons_zero, List.setIfInBounds_toArray, List.set_cons_zero, List.set_cons_succ]
  clear q
  refine wpAnyH_take (i := 8) (oi := _) (v := _) rfl (by kernel_rfl) (by kernel_rfl) (by kernel_rfl) (fun _ _ _ h => h) (Or.inl ⟨by rfl, by intro w hSw; (try dsimp only at hSw); go_simp; first | done | with_reducible rfl⟩) hHeld ?_
  try simp only [Act.put, List.getElem_toArray, List.getElem_cons_succ, List.getElem_cons_zero, List.setIfInBounds_toArray, List.set_cons_zero, List.set_cons_succ]
  refine wpAnyH_take (i := 9) (oi := _) (v := _) rfl (by kernel_rfl) (by kernel_rfl) (by kernel_rfl) (fun _ _ _ h => h) (Or.inl ⟨by rfl, by intro w hSw; (try dsimp only at hSw); go_simp; first | done | with_reducible rfl⟩) hHeld ?_
  try simp only [Act.put, List.getElem_toArray, List.getElem_cons_succ, List.getElem_cons_zero, List.setIfInBounds_toArray, List.set_cons_zero, List.set_cons_succ]
  refine wpAnyH_take (i := 10) (oi := _) (v := _) rfl (by kernel_rfl) (by kernel_rfl) (by kernel_rfl) (fun _ _ _ h => h) (Or.inl ⟨by rfl, by intro w hSw; (try dsimp only at hSw); go_simp; first | done | with_reducible rfl⟩) hHeld ?_
  try simp only [Act.put, List.getElem_toArray, List.getElem_cons_succ, List.getElem_cons_zero, List.setIfInBounds_toArray, List.set_cons_zero, List.set_cons_succ]
  refine wpAnyH_take (i := 11) (oi := _) (v := _) rfl (by kernel_rfl) (by kernel_rfl) (by kernel_rfl) (fun _ _ _ h => h) (Or.inl ⟨by rfl, by intro w hSw; (try dsimp only at hSw); go_simp; first | done | with_reducible rfl⟩) hHeld ?_
  try simp only [Act.put, List.getElem_toArray, List.getElem_cons_succ, List.getElem_cons_zero, List.setIfInBounds_toArray, List.set_cons_zero, List.set_cons_succ]
  refine wpAnyH_take (i := 12) (oi := _) (v := _) rfl (by kernel_rfl) (by kernel_rfl) (by kernel_rfl) (fun _ _ _ h => h) (Or.inl ⟨by rfl, by intro w hSw; (try dsimp only at hSw); go_simp; first | done | with_reducible rfl⟩) hHeld ?_
  try simp only [Act.put, List.getElem_toArray, List.getElem_cons_succ, List.getElem_cons_zero, List.setIfInBounds_toArray, List.set_cons_zero, List.set_cons_succ]
  refine wpAnyH_take (i := 13) (oi := _) (v := _) rfl (by kernel_rfl) (by kernel_rfl) (by kernel_rfl) (fun _ _ _ h => h) (Or.inl ⟨by rfl, by intro w hSw; (try dsimp only at hSw); go_simp; first | done | with_reducible rfl⟩) hHeld ?_
  try simp only [Act.put, List.getElem_toArray, List.getElem_cons_succ, List.getElem_cons_zero, List.setIfInBounds_toArray, List.set_cons_zero, List.set_cons_succ]
  refine wpAnyH_take (i := 14) (oi := _) (v := _) rfl (by kernel_rfl) (by kernel_rfl) (by kernel_rfl) (fun _ _ _ h => h) (yieldsIf_load_mid (by rfl) _ _ rfl _ _ rfl _ _ (by intro w hSw; exact hSw.2.2.2) u24 rfl i24x) hHeld ?_
  try simp only [Act.put, List.getElem_toArray, List.getElem_cons_succ, List.getElem_cons_zero, List.setIfInBounds_toArray, List.set_cons_zero, List.set_cons_succ]
  refine wpAnyH_take (i := 15) (oi := _) (v := _) rfl (by kernel_rfl) (by kernel_rfl) (by kernel_rfl) (fun _ _ _ h => h) (yieldsIf_load_mid (by rfl) _ _ rfl _ _ rfl _ _ (by intro w hSw; exact hSw.2.1) u24 rfl i24x) hHeld ?_
  try simp only [Act.put, List.getElem_toArray, List.getElem_cons_succ, List.getElem_cons_zero, List.setIfInBounds_toArray, List.set_cons_zero, List.set_cons_succ]
  have q := eqS lx LX.out
  refine wpAnyH_take (i := 16) (oi := _) (v := _) rfl (by kernel_rfl) (by kernel_rfl) (by kernel_rfl) (fun _ _ _ h => h) (Or.inl ⟨by rfl, by intro w hSw; (try dsimp only at hSw); go_simp; first | done | with_reducible rfl⟩) hHeld ?_
  try simp only [Act.put, List.getElem_toArray, List.getElem_cons_succ, List.getElem_cons_zero, List.setIfInBounds_toArray, List.set_cons_zero, List.set_cons_succ]
  clear q
  refine wpAnyH_take (i := 17) (oi := _) (v := _) rfl (by kernel_rfl) (by kernel_rfl) (by kernel_rfl) (fun _ _ _ h => h) (Or.inl ⟨by rfl, by intro w hSw; (try dsimp only at hSw); go_simp; first | done | with_reducible rfl⟩) hHeld ?_
  try simp only [Act.put, List.getElem_toArray, List.getElem_cons_succ, List.getElem_cons_zero, List.setIfInBounds_toArray, List.set_cons_zero, List.set_cons_succ]
  refine wpAnyH_take (i := 18) (oi := _) (v := _) rfl (by kernel_rfl) (by kernel_rfl) (by kernel_rfl) (fun _ _ _ h => h) (Or.inl ⟨by rfl, by intro w hSw; (try dsimp only at hSw); go_simp; first | done | with_reducible rfl⟩) hHeld ?_
  try simp only [Act.put, List.getElem_toArray, List.getElem_cons_succ, List.getElem_cons_zero, List.setIfInBounds_toArray, List.set_cons_zero, List.set_cons_succ]
  refine wpAnyH_done (by kernel_rfl) ?_ _
  have E108 := Lib.hid (D101.out.drew.below' hbx93)
  have E109 := Lib.hid (D102.out.drew.below' hbx93)
  have E110 := Lib.hid (D103.out.drew.below' hbx93)
  have E111 := Lib.hid (D104.out.drew.below' hbx93)
  have E112 := Lib.hid (D105.out.drew.below' hbx93)
  have E113 := Lib.hid (D106.out.drew.below' hbx93)
  have hbel114 := (hbel107.drew).trans (hbx93.mono (hbel107.drew).size)
  clear hHeld hbx93 D101 D102 D103 D104 D105 D106
  as_aux_lemma =>
  go_wp2_with fail
  go_ret
  exact ⟨rfl, hbel114⟩
end Go.Proofs.Ytfaoajljaggklaa
