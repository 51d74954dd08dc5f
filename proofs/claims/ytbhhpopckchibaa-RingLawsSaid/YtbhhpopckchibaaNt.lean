/- The transform of any polynomial, and the way back. Condition: the coefficients are 32-bit numbers. -/
import Derived.Test.YtbhhpopckchibaaPb
import Derived.Test.YtbhhpopckchibaaVb
namespace Go.Proofs.Ytbhhpopckchibaa
open Go.RowKit
set_option linter.unusedVariables false
set_option linter.unusedSimpArgs false
set_option maxRecDepth 100000 in
set_option maxHeartbeats 4000000 in
theorem NTT_t (f : Nat → FQ) (w : World) : Calls Try.prog 21 #[.agg (iv (PL f)).toArray] w fun e w' => e = .returned (.tuple #[.agg (iv (PL (ntt f))).toArray, .int .i64 0]) ∧ Below w.heap.size w w' := by
  have HV := Lib.hid (valuesOf_any f)
  have HP := Lib.hid (fun (w : World) (g_ : Nat) (h : Blk w g_ 23 (iv (PL f))) => plain1 (IsP_PL f) (allP_PL1 f) h)
  have LA := Lib.hid (PL_length f)
  have LM := Lib.hid (PL_length (ntt f))
  generalize PL (ntt f) = m at *
  generalize PL f = a at *
  have B1 := Lib.hid ((Blk.new w 23 (iv a)).alloc (.cells (iv zerI).toArray 23))
  have B2 := Lib.hid (Blk.new2 w (.cells (iv a).toArray 23) 23 (iv zerI))
  have B3 := Lib.hid (Blk.new3 w (.cells (iv a).toArray 23) (.cells (iv zerI).toArray 23) 23 (iv a))
  have BEL := Lib.hid ((((Below.refl w.heap.size w).alloc (Nat.le_refl _) (.cells (iv a).toArray 23)).alloc (by simp) (.cells (iv zerI).toArray 23)).alloc (by simp; omega) (.cells (iv a).toArray 23))
  have z23 := zero23
  go_enter Try.func21, Try.ntmps21
  go_wp2_with (first | (refine wpList_load_row rfl 23 (.tmp 1) rfl w.heap.size rfl 23 (iv a).toArray (0, 0) _ B1.out Try.underlying23 rfl (j23 LA.out) ?_) | (refine bs1 rfl _ rfl rfl LA.out ?_))
  refine (HP.out _ _ B3.out).mono ?_
  rintro e w1 ⟨rfl, hb1⟩
  have C1 := Lib.hid ((B1.out.alloc (.cells (iv a).toArray 23)).below' hb1)
  have C2 := Lib.hid ((B2.out.alloc (.cells (iv a).toArray 23)).below' hb1)
  have hbel := Lib.hid (BEL.out.trans (hb1.mono BEL.out.size))
  clear B1 B2 B3 BEL HP hb1
  go_wp2_with (first | (refine wpList_load_row rfl 23 (.tmp 1) rfl w.heap.size rfl 23 (iv a).toArray (0, 0) _ C1.out Try.underlying23 rfl (j23 LA.out) ?_))
  refine (HV.out _).mono ?_
  rintro e w2 ⟨rfl, hb2⟩
  have D2 := Lib.hid (C2.out.below' hb2)
  have hbel2 := hbel.out.trans (hb2.mono hbel.out.size)
  clear C1 C2 hbel hb2
  go_wp2_with (first | (refine wpList_store_row rfl 23 (.tmp 2) (.tmp 10) rfl (w.heap.size + 1) (iv m).toArray rfl rfl 23 (iv zerI).toArray D2.out (j23 LM.out) (by rw [iv_size, iv_size, LM.out, zerI_length]) (iv_all _) ?_))
  have j2 := D2.out.setRow (iv m)
  have hb3 := below_setRow' hbel2 (show w.heap.size ≤ w.heap.size + 1 by omega) (iv m).toArray
  refine bodyPost_ret (v := .tuple #[.agg (iv m).toArray, .int .i64 0]) ?_ rfl ⟨rfl, hb3⟩
  exact results_two Try.results21 _ _ (w.heap.size + 1) 23 _ (0, 0) _ _ rfl rfl j2 Try.underlying23 rfl (j23 LM.out)
set_option maxRecDepth 100000 in
set_option maxHeartbeats 4000000 in
theorem NTT_f (a : List Int) (ha : IsP a) (hno : allP [a] = false) (w : World) : Calls Try.prog 21 #[.agg (iv a).toArray] w fun e w' => e = .returned (.tuple #[.agg (iv zerI).toArray, .int .i64 81]) ∧ Below w.heap.size w w' := by
  have HP := Lib.hid (fun (w : World) (g_ : Nat) (h : Blk w g_ 23 (iv a)) => plain1 ha hno h)
  have LA := Lib.hid ha.1
  clear ha hno
  have B1 := Lib.hid ((Blk.new w 23 (iv a)).alloc (.cells (iv zerI).toArray 23))
  have B2 := Lib.hid (Blk.new2 w (.cells (iv a).toArray 23) 23 (iv zerI))
  have B3 := Lib.hid (Blk.new3 w (.cells (iv a).toArray 23) (.cells (iv zerI).toArray 23) 23 (iv a))
  have BEL := Lib.hid ((((Below.refl w.heap.size w).alloc (Nat.le_refl _) (.cells (iv a).toArray 23)).alloc (by simp) (.cells (iv zerI).toArray 23)).alloc (by simp; omega) (.cells (iv a).toArray 23))
  have z23 := zero23
  go_enter Try.func21, Try.ntmps21
  go_wp2_with (first | (refine wpList_load_row rfl 23 (.tmp 1) rfl w.heap.size rfl 23 (iv a).toArray (0, 0) _ B1.out Try.underlying23 rfl (j23 LA.out) ?_) | (refine bs1 rfl _ rfl rfl LA.out ?_))
  refine (HP.out _ _ B3.out).mono ?_
  rintro e w1 ⟨rfl, hb1⟩
  have C1 := Lib.hid ((B1.out.alloc (.cells (iv a).toArray 23)).below' hb1)
  have C2 := Lib.hid ((B2.out.alloc (.cells (iv a).toArray 23)).below' hb1)
  have hbel := Lib.hid (BEL.out.trans (hb1.mono BEL.out.size))
  clear B1 B2 B3 BEL HP hb1
  go_wp2_with (first | (refine wpList_build_is rfl 23 #[] rfl (iv zerI).toArray built0 ?_) | (refine wpList_store_row rfl 23 (.tmp 2) (.tmp 8) rfl (w.heap.size + 1) (iv zerI).toArray rfl rfl 23 (iv zerI).toArray C2.out (j23 zerI_length) rfl (iv_all _) ?_))
  have j2 := C2.out.setRow (iv zerI)
  have hb2 := below_setRow' hbel.out (show w.heap.size ≤ w.heap.size + 1 by omega) (iv zerI).toArray
  refine bodyPost_ret (v := .tuple #[.agg (iv zerI).toArray, .int .i64 81]) ?_ rfl ⟨rfl, hb2⟩
  exact results_two Try.results21 _ _ (w.heap.size + 1) 23 _ (0, 0) _ _ rfl rfl j2 Try.underlying23 rfl (j23 zerI_length)
set_option maxRecDepth 100000 in
set_option maxHeartbeats 4000000 in
theorem Back_t (f : Nat → FQ) (w : World) : Calls Try.prog 22 #[.agg (iv (PL f)).toArray] w fun e w' => e = .returned (.tuple #[.agg (iv (PL (bck f))).toArray, .int .i64 0]) ∧ Below w.heap.size w w' := by
  have HV := Lib.hid (behind_any f)
  have HP := Lib.hid (fun (w : World) (g_ : Nat) (h : Blk w g_ 23 (iv (PL f))) => plain1 (IsP_PL f) (allP_PL1 f) h)
  have LA := Lib.hid (PL_length f)
  have LM := Lib.hid (PL_length (bck f))
  generalize PL (bck f) = m at *
  generalize PL f = a at *
  have B1 := Lib.hid ((Blk.new w 23 (iv a)).alloc (.cells (iv zerI).toArray 23))
  have B2 := Lib.hid (Blk.new2 w (.cells (iv a).toArray 23) 23 (iv zerI))
  have B3 := Lib.hid (Blk.new3 w (.cells (iv a).toArray 23) (.cells (iv zerI).toArray 23) 23 (iv a))
  have BEL := Lib.hid ((((Below.refl w.heap.size w).alloc (Nat.le_refl _) (.cells (iv a).toArray 23)).alloc (by simp) (.cells (iv zerI).toArray 23)).alloc (by simp; omega) (.cells (iv a).toArray 23))
  have z23 := zero23
  go_enter Try.func22, Try.ntmps22
  go_wp2_with (first | (refine wpList_load_row rfl 23 (.tmp 1) rfl w.heap.size rfl 23 (iv a).toArray (0, 0) _ B1.out Try.underlying23 rfl (j23 LA.out) ?_) | (refine bs1 rfl _ rfl rfl LA.out ?_))
  refine (HP.out _ _ B3.out).mono ?_
  rintro e w1 ⟨rfl, hb1⟩
  have C1 := Lib.hid ((B1.out.alloc (.cells (iv a).toArray 23)).below' hb1)
  have C2 := Lib.hid ((B2.out.alloc (.cells (iv a).toArray 23)).below' hb1)
  have hbel := Lib.hid (BEL.out.trans (hb1.mono BEL.out.size))
  clear B1 B2 B3 BEL HP hb1
  go_wp2_with (first | (refine wpList_load_row rfl 23 (.tmp 1) rfl w.heap.size rfl 23 (iv a).toArray (0, 0) _ C1.out Try.underlying23 rfl (j23 LA.out) ?_))
  refine (HV.out _).mono ?_
  rintro e w2 ⟨rfl, hb2⟩
  have D2 := Lib.hid (C2.out.below' hb2)
  have hbel2 := hbel.out.trans (hb2.mono hbel.out.size)
  clear C1 C2 hbel hb2
  go_wp2_with (first | (refine wpList_store_row rfl 23 (.tmp 2) (.tmp 10) rfl (w.heap.size + 1) (iv m).toArray rfl rfl 23 (iv zerI).toArray D2.out (j23 LM.out) (by rw [iv_size, iv_size, LM.out, zerI_length]) (iv_all _) ?_))
  have j2 := D2.out.setRow (iv m)
  have hb3 := below_setRow' hbel2 (show w.heap.size ≤ w.heap.size + 1 by omega) (iv m).toArray
  refine bodyPost_ret (v := .tuple #[.agg (iv m).toArray, .int .i64 0]) ?_ rfl ⟨rfl, hb3⟩
  exact results_two Try.results22 _ _ (w.heap.size + 1) 23 _ (0, 0) _ _ rfl rfl j2 Try.underlying23 rfl (j23 LM.out)
set_option maxRecDepth 100000 in
set_option maxHeartbeats 4000000 in
theorem Back_f (a : List Int) (ha : IsP a) (hno : allP [a] = false) (w : World) : Calls Try.prog 22 #[.agg (iv a).toArray] w fun e w' => e = .returned (.tuple #[.agg (iv zerI).toArray, .int .i64 81]) ∧ Below w.heap.size w w' := by
  have HP := Lib.hid (fun (w : World) (g_ : Nat) (h : Blk w g_ 23 (iv a)) => plain1 ha hno h)
  have LA := Lib.hid ha.1
  clear ha hno
  have B1 := Lib.hid ((Blk.new w 23 (iv a)).alloc (.cells (iv zerI).toArray 23))
  have B2 := Lib.hid (Blk.new2 w (.cells (iv a).toArray 23) 23 (iv zerI))
  have B3 := Lib.hid (Blk.new3 w (.cells (iv a).toArray 23) (.cells (iv zerI).toArray 23) 23 (iv a))
  have BEL := Lib.hid ((((Below.refl w.heap.size w).alloc (Nat.le_refl _) (.cells (iv a).toArray 23)).alloc (by simp) (.cells (iv zerI).toArray 23)).alloc (by simp; omega) (.cells (iv a).toArray 23))
  have z23 := zero23
  go_enter Try.func22, Try.ntmps22
  go_wp2_with (first | (refine wpList_load_row rfl 23 (.tmp 1) rfl w.heap.size rfl 23 (iv a).toArray (0, 0) _ B1.out Try.underlying23 rfl (j23 LA.out) ?_) | (refine bs1 rfl _ rfl rfl LA.out ?_))
  refine (HP.out _ _ B3.out).mono ?_
  rintro e w1 ⟨rfl, hb1⟩
  have C1 := Lib.hid ((B1.out.alloc (.cells (iv a).toArray 23)).below' hb1)
  have C2 := Lib.hid ((B2.out.alloc (.cells (iv a).toArray 23)).below' hb1)
  have hbel := Lib.hid (BEL.out.trans (hb1.mono BEL.out.size))
  clear B1 B2 B3 BEL HP hb1
  go_wp2_with (first | (refine wpList_build_is rfl 23 #[] rfl (iv zerI).toArray built0 ?_) | (refine wpList_store_row rfl 23 (.tmp 2) (.tmp 8) rfl (w.heap.size + 1) (iv zerI).toArray rfl rfl 23 (iv zerI).toArray C2.out (j23 zerI_length) rfl (iv_all _) ?_))
  have j2 := C2.out.setRow (iv zerI)
  have hb2 := below_setRow' hbel.out (show w.heap.size ≤ w.heap.size + 1 by omega) (iv zerI).toArray
  refine bodyPost_ret (v := .tuple #[.agg (iv zerI).toArray, .int .i64 81]) ?_ rfl ⟨rfl, hb2⟩
  exact results_two Try.results22 _ _ (w.heap.size + 1) 23 _ (0, 0) _ _ rfl rfl j2 Try.underlying23 rfl (j23 zerI_length)
end Go.Proofs.Ytbhhpopckchibaa
