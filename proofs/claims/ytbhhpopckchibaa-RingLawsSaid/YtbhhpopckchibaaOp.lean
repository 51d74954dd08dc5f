/- Sums, differences and products place by place, told by the calls. Condition: the coefficients are 32-bit numbers. -/
import Derived.Test.YtbhhpopckchibaaPb
namespace Go.Proofs.Ytbhhpopckchibaa
open Go.RowKit
set_option linter.unusedVariables false
set_option linter.unusedSimpArgs false
set_option maxRecDepth 100000 in
set_option maxHeartbeats 4000000 in
theorem Add_t (f g : Nat → FQ) (w : World) : Calls Try.prog 9 #[.agg (iv (PL f)).toArray, .agg (iv (PL g)).toArray] w fun e w' => e = .returned (.tuple #[.agg (iv (PL (fun i => f i + g i))).toArray, .int .i64 0]) ∧ Below w.heap.size w w' := by
  have HP := Lib.hid (pbp33 f g)
  have LA := Lib.hid (PL_length f)
  have LB := Lib.hid (PL_length g)
  have LM := Lib.hid (PL_length (fun i => f i + g i))
  generalize PL (fun i => f i + g i) = m at *
  generalize PL f = a at *
  generalize PL g = b at *
  have B1 := Lib.hid (((Blk.new w 23 (iv a)).alloc (.cells (iv b).toArray 23)).alloc (.cells (iv zerI).toArray 23))
  have B2 := Lib.hid ((Blk.new2 w (.cells (iv a).toArray 23) 23 (iv b)).alloc (.cells (iv zerI).toArray 23))
  have B3 := Lib.hid (Blk.new3 w (.cells (iv a).toArray 23) (.cells (iv b).toArray 23) 23 (iv zerI))
  have BEL := Lib.hid ((((Below.refl w.heap.size w).alloc (Nat.le_refl _) (.cells (iv a).toArray 23)).alloc (by simp) (.cells (iv b).toArray 23)).alloc (by simp; omega) (.cells (iv zerI).toArray 23))
  have z23 := zero23
  go_enter Try.func9, Try.ntmps9
  go_wp2_with (first | (refine wpList_load_row rfl 23 (.tmp 2) rfl w.heap.size rfl 23 (iv a).toArray (0, 0) _ B1.out Try.underlying23 rfl (j23 LA.out) ?_) | (refine wpList_load_row rfl 23 (.tmp 3) rfl (w.heap.size + 1) rfl 23 (iv b).toArray (0, 0) _ B2.out Try.underlying23 rfl (j23 LB.out) ?_))
  refine (HP.out _).mono ?_
  rintro e w1 ⟨rfl, hb1⟩
  have C3 := Lib.hid (B3.out.below' hb1)
  have hbel := BEL.out.trans (hb1.mono BEL.out.size)
  clear B1 B2 B3 BEL HP hb1 z23
  go_wp2_with (first | (refine wpList_store_row rfl 23 (.tmp 4) (.tmp 9) rfl (w.heap.size + 1 + 1) (iv m).toArray rfl rfl 23 (iv zerI).toArray C3.out (j23 LM.out) (by rw [iv_size, iv_size, LM.out, zerI_length]) (iv_all _) ?_))
  have j2 := C3.out.setRow (iv m)
  have hb2 := below_setRow' hbel (show w.heap.size ≤ w.heap.size + 1 + 1 by omega) (iv m).toArray
  refine bodyPost_ret (v := .tuple #[.agg (iv m).toArray, .int .i64 0]) ?_ rfl ⟨rfl, hb2⟩
  exact results_two Try.results9 _ _ (w.heap.size + 1 + 1) 23 _ (0, 0) _ _ rfl rfl j2 Try.underlying23 rfl (j23 LM.out)
set_option maxRecDepth 100000 in
set_option maxHeartbeats 4000000 in
theorem Add_f (a b : List Int) (ha : IsP a) (hb : IsP b) (hno : allP [a, b] = false) (w : World) : Calls Try.prog 9 #[.agg (iv a).toArray, .agg (iv b).toArray] w fun e w' => e = .returned (.tuple #[.agg (iv zerI).toArray, .int .i64 81]) ∧ Below w.heap.size w w' := by
  have HP := Lib.hid (pbp_f a b 33 ha hb hno)
  have LA := Lib.hid ha.1
  have LB := Lib.hid hb.1
  clear ha hb hno
  have B1 := Lib.hid (((Blk.new w 23 (iv a)).alloc (.cells (iv b).toArray 23)).alloc (.cells (iv zerI).toArray 23))
  have B2 := Lib.hid ((Blk.new2 w (.cells (iv a).toArray 23) 23 (iv b)).alloc (.cells (iv zerI).toArray 23))
  have B3 := Lib.hid (Blk.new3 w (.cells (iv a).toArray 23) (.cells (iv b).toArray 23) 23 (iv zerI))
  have BEL := Lib.hid ((((Below.refl w.heap.size w).alloc (Nat.le_refl _) (.cells (iv a).toArray 23)).alloc (by simp) (.cells (iv b).toArray 23)).alloc (by simp; omega) (.cells (iv zerI).toArray 23))
  have z23 := zero23
  go_enter Try.func9, Try.ntmps9
  go_wp2_with (first | (refine wpList_load_row rfl 23 (.tmp 2) rfl w.heap.size rfl 23 (iv a).toArray (0, 0) _ B1.out Try.underlying23 rfl (j23 LA.out) ?_) | (refine wpList_load_row rfl 23 (.tmp 3) rfl (w.heap.size + 1) rfl 23 (iv b).toArray (0, 0) _ B2.out Try.underlying23 rfl (j23 LB.out) ?_))
  refine (HP.out _).mono ?_
  rintro e w1 ⟨rfl, hb1⟩
  have C3 := Lib.hid (B3.out.below' hb1)
  have hbel := BEL.out.trans (hb1.mono BEL.out.size)
  clear B1 B2 B3 BEL HP hb1 z23
  go_wp2_with (first | (refine wpList_store_row rfl 23 (.tmp 4) (.tmp 9) rfl (w.heap.size + 1 + 1) (iv zerI).toArray rfl rfl 23 (iv zerI).toArray C3.out (j23 zerI_length) rfl (iv_all _) ?_))
  have j2 := C3.out.setRow (iv zerI)
  have hb2 := below_setRow' hbel (show w.heap.size ≤ w.heap.size + 1 + 1 by omega) (iv zerI).toArray
  refine bodyPost_ret (v := .tuple #[.agg (iv zerI).toArray, .int .i64 81]) ?_ rfl ⟨rfl, hb2⟩
  exact results_two Try.results9 _ _ (w.heap.size + 1 + 1) 23 _ (0, 0) _ _ rfl rfl j2 Try.underlying23 rfl (j23 zerI_length)
set_option maxRecDepth 100000 in
set_option maxHeartbeats 4000000 in
theorem Sub_t (f g : Nat → FQ) (w : World) : Calls Try.prog 10 #[.agg (iv (PL f)).toArray, .agg (iv (PL g)).toArray] w fun e w' => e = .returned (.tuple #[.agg (iv (PL (fun i => f i - g i))).toArray, .int .i64 0]) ∧ Below w.heap.size w w' := by
  have HP := Lib.hid (pbp34 f g)
  have LA := Lib.hid (PL_length f)
  have LB := Lib.hid (PL_length g)
  have LM := Lib.hid (PL_length (fun i => f i - g i))
  generalize PL (fun i => f i - g i) = m at *
  generalize PL f = a at *
  generalize PL g = b at *
  have B1 := Lib.hid (((Blk.new w 23 (iv a)).alloc (.cells (iv b).toArray 23)).alloc (.cells (iv zerI).toArray 23))
  have B2 := Lib.hid ((Blk.new2 w (.cells (iv a).toArray 23) 23 (iv b)).alloc (.cells (iv zerI).toArray 23))
  have B3 := Lib.hid (Blk.new3 w (.cells (iv a).toArray 23) (.cells (iv b).toArray 23) 23 (iv zerI))
  have BEL := Lib.hid ((((Below.refl w.heap.size w).alloc (Nat.le_refl _) (.cells (iv a).toArray 23)).alloc (by simp) (.cells (iv b).toArray 23)).alloc (by simp; omega) (.cells (iv zerI).toArray 23))
  have z23 := zero23
  go_enter Try.func10, Try.ntmps10
  go_wp2_with (first | (refine wpList_load_row rfl 23 (.tmp 2) rfl w.heap.size rfl 23 (iv a).toArray (0, 0) _ B1.out Try.underlying23 rfl (j23 LA.out) ?_) | (refine wpList_load_row rfl 23 (.tmp 3) rfl (w.heap.size + 1) rfl 23 (iv b).toArray (0, 0) _ B2.out Try.underlying23 rfl (j23 LB.out) ?_))
  refine (HP.out _).mono ?_
  rintro e w1 ⟨rfl, hb1⟩
  have C3 := Lib.hid (B3.out.below' hb1)
  have hbel := BEL.out.trans (hb1.mono BEL.out.size)
  clear B1 B2 B3 BEL HP hb1 z23
  go_wp2_with (first | (refine wpList_store_row rfl 23 (.tmp 4) (.tmp 9) rfl (w.heap.size + 1 + 1) (iv m).toArray rfl rfl 23 (iv zerI).toArray C3.out (j23 LM.out) (by rw [iv_size, iv_size, LM.out, zerI_length]) (iv_all _) ?_))
  have j2 := C3.out.setRow (iv m)
  have hb2 := below_setRow' hbel (show w.heap.size ≤ w.heap.size + 1 + 1 by omega) (iv m).toArray
  refine bodyPost_ret (v := .tuple #[.agg (iv m).toArray, .int .i64 0]) ?_ rfl ⟨rfl, hb2⟩
  exact results_two Try.results10 _ _ (w.heap.size + 1 + 1) 23 _ (0, 0) _ _ rfl rfl j2 Try.underlying23 rfl (j23 LM.out)
set_option maxRecDepth 100000 in
set_option maxHeartbeats 4000000 in
theorem Sub_f (a b : List Int) (ha : IsP a) (hb : IsP b) (hno : allP [a, b] = false) (w : World) : Calls Try.prog 10 #[.agg (iv a).toArray, .agg (iv b).toArray] w fun e w' => e = .returned (.tuple #[.agg (iv zerI).toArray, .int .i64 81]) ∧ Below w.heap.size w w' := by
  have HP := Lib.hid (pbp_f a b 34 ha hb hno)
  have LA := Lib.hid ha.1
  have LB := Lib.hid hb.1
  clear ha hb hno
  have B1 := Lib.hid (((Blk.new w 23 (iv a)).alloc (.cells (iv b).toArray 23)).alloc (.cells (iv zerI).toArray 23))
  have B2 := Lib.hid ((Blk.new2 w (.cells (iv a).toArray 23) 23 (iv b)).alloc (.cells (iv zerI).toArray 23))
  have B3 := Lib.hid (Blk.new3 w (.cells (iv a).toArray 23) (.cells (iv b).toArray 23) 23 (iv zerI))
  have BEL := Lib.hid ((((Below.refl w.heap.size w).alloc (Nat.le_refl _) (.cells (iv a).toArray 23)).alloc (by simp) (.cells (iv b).toArray 23)).alloc (by simp; omega) (.cells (iv zerI).toArray 23))
  have z23 := zero23
  go_enter Try.func10, Try.ntmps10
  go_wp2_with (first | (refine wpList_load_row rfl 23 (.tmp 2) rfl w.heap.size rfl 23 (iv a).toArray (0, 0) _ B1.out Try.underlying23 rfl (j23 LA.out) ?_) | (refine wpList_load_row rfl 23 (.tmp 3) rfl (w.heap.size + 1) rfl 23 (iv b).toArray (0, 0) _ B2.out Try.underlying23 rfl (j23 LB.out) ?_))
  refine (HP.out _).mono ?_
  rintro e w1 ⟨rfl, hb1⟩
  have C3 := Lib.hid (B3.out.below' hb1)
  have hbel := BEL.out.trans (hb1.mono BEL.out.size)
  clear B1 B2 B3 BEL HP hb1 z23
  go_wp2_with (first | (refine wpList_store_row rfl 23 (.tmp 4) (.tmp 9) rfl (w.heap.size + 1 + 1) (iv zerI).toArray rfl rfl 23 (iv zerI).toArray C3.out (j23 zerI_length) rfl (iv_all _) ?_))
  have j2 := C3.out.setRow (iv zerI)
  have hb2 := below_setRow' hbel (show w.heap.size ≤ w.heap.size + 1 + 1 by omega) (iv zerI).toArray
  refine bodyPost_ret (v := .tuple #[.agg (iv zerI).toArray, .int .i64 81]) ?_ rfl ⟨rfl, hb2⟩
  exact results_two Try.results10 _ _ (w.heap.size + 1 + 1) 23 _ (0, 0) _ _ rfl rfl j2 Try.underlying23 rfl (j23 zerI_length)
set_option maxRecDepth 100000 in
set_option maxHeartbeats 4000000 in
theorem Times_t (f g : Nat → FQ) (w : World) : Calls Try.prog 12 #[.agg (iv (PL f)).toArray, .agg (iv (PL g)).toArray] w fun e w' => e = .returned (.tuple #[.agg (iv (PL (fun i => f i * g i))).toArray, .int .i64 0]) ∧ Below w.heap.size w w' := by
  have HP := Lib.hid (pbp38 f g)
  have LA := Lib.hid (PL_length f)
  have LB := Lib.hid (PL_length g)
  have LM := Lib.hid (PL_length (fun i => f i * g i))
  generalize PL (fun i => f i * g i) = m at *
  generalize PL f = a at *
  generalize PL g = b at *
  have B1 := Lib.hid (((Blk.new w 23 (iv a)).alloc (.cells (iv b).toArray 23)).alloc (.cells (iv zerI).toArray 23))
  have B2 := Lib.hid ((Blk.new2 w (.cells (iv a).toArray 23) 23 (iv b)).alloc (.cells (iv zerI).toArray 23))
  have B3 := Lib.hid (Blk.new3 w (.cells (iv a).toArray 23) (.cells (iv b).toArray 23) 23 (iv zerI))
  have BEL := Lib.hid ((((Below.refl w.heap.size w).alloc (Nat.le_refl _) (.cells (iv a).toArray 23)).alloc (by simp) (.cells (iv b).toArray 23)).alloc (by simp; omega) (.cells (iv zerI).toArray 23))
  have z23 := zero23
  go_enter Try.func12, Try.ntmps12
  go_wp2_with (first | (refine wpList_load_row rfl 23 (.tmp 2) rfl w.heap.size rfl 23 (iv a).toArray (0, 0) _ B1.out Try.underlying23 rfl (j23 LA.out) ?_) | (refine wpList_load_row rfl 23 (.tmp 3) rfl (w.heap.size + 1) rfl 23 (iv b).toArray (0, 0) _ B2.out Try.underlying23 rfl (j23 LB.out) ?_))
  refine (HP.out _).mono ?_
  rintro e w1 ⟨rfl, hb1⟩
  have C3 := Lib.hid (B3.out.below' hb1)
  have hbel := BEL.out.trans (hb1.mono BEL.out.size)
  clear B1 B2 B3 BEL HP hb1 z23
  go_wp2_with (first | (refine wpList_store_row rfl 23 (.tmp 4) (.tmp 9) rfl (w.heap.size + 1 + 1) (iv m).toArray rfl rfl 23 (iv zerI).toArray C3.out (j23 LM.out) (by rw [iv_size, iv_size, LM.out, zerI_length]) (iv_all _) ?_))
  have j2 := C3.out.setRow (iv m)
  have hb2 := below_setRow' hbel (show w.heap.size ≤ w.heap.size + 1 + 1 by omega) (iv m).toArray
  refine bodyPost_ret (v := .tuple #[.agg (iv m).toArray, .int .i64 0]) ?_ rfl ⟨rfl, hb2⟩
  exact results_two Try.results12 _ _ (w.heap.size + 1 + 1) 23 _ (0, 0) _ _ rfl rfl j2 Try.underlying23 rfl (j23 LM.out)
set_option maxRecDepth 100000 in
set_option maxHeartbeats 4000000 in
theorem Times_f (a b : List Int) (ha : IsP a) (hb : IsP b) (hno : allP [a, b] = false) (w : World) : Calls Try.prog 12 #[.agg (iv a).toArray, .agg (iv b).toArray] w fun e w' => e = .returned (.tuple #[.agg (iv zerI).toArray, .int .i64 81]) ∧ Below w.heap.size w w' := by
  have HP := Lib.hid (pbp_f a b 38 ha hb hno)
  have LA := Lib.hid ha.1
  have LB := Lib.hid hb.1
  clear ha hb hno
  have B1 := Lib.hid (((Blk.new w 23 (iv a)).alloc (.cells (iv b).toArray 23)).alloc (.cells (iv zerI).toArray 23))
  have B2 := Lib.hid ((Blk.new2 w (.cells (iv a).toArray 23) 23 (iv b)).alloc (.cells (iv zerI).toArray 23))
  have B3 := Lib.hid (Blk.new3 w (.cells (iv a).toArray 23) (.cells (iv b).toArray 23) 23 (iv zerI))
  have BEL := Lib.hid ((((Below.refl w.heap.size w).alloc (Nat.le_refl _) (.cells (iv a).toArray 23)).alloc (by simp) (.cells (iv b).toArray 23)).alloc (by simp; omega) (.cells (iv zerI).toArray 23))
  have z23 := zero23
  go_enter Try.func12, Try.ntmps12
  go_wp2_with (first | (refine wpList_load_row rfl 23 (.tmp 2) rfl w.heap.size rfl 23 (iv a).toArray (0, 0) _ B1.out Try.underlying23 rfl (j23 LA.out) ?_) | (refine wpList_load_row rfl 23 (.tmp 3) rfl (w.heap.size + 1) rfl 23 (iv b).toArray (0, 0) _ B2.out Try.underlying23 rfl (j23 LB.out) ?_))
  refine (HP.out _).mono ?_
  rintro e w1 ⟨rfl, hb1⟩
  have C3 := Lib.hid (B3.out.below' hb1)
  have hbel := BEL.out.trans (hb1.mono BEL.out.size)
  clear B1 B2 B3 BEL HP hb1 z23
  go_wp2_with (first | (refine wpList_store_row rfl 23 (.tmp 4) (.tmp 9) rfl (w.heap.size + 1 + 1) (iv zerI).toArray rfl rfl 23 (iv zerI).toArray C3.out (j23 zerI_length) rfl (iv_all _) ?_))
  have j2 := C3.out.setRow (iv zerI)
  have hb2 := below_setRow' hbel (show w.heap.size ≤ w.heap.size + 1 + 1 by omega) (iv zerI).toArray
  refine bodyPost_ret (v := .tuple #[.agg (iv zerI).toArray, .int .i64 81]) ?_ rfl ⟨rfl, hb2⟩
  exact results_two Try.results12 _ _ (w.heap.size + 1 + 1) 23 _ (0, 0) _ _ rfl rfl j2 Try.underlying23 rfl (j23 zerI_length)
end Go.Proofs.Ytbhhpopckchibaa
