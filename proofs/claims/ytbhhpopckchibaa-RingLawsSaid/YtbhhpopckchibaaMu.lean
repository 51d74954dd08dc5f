/- The product of any two polynomials. Condition: the coefficients are 32-bit numbers. -/
import Derived.Test.YtbhhpopckchibaaOp
import Derived.Test.YtbhhpopckchibaaVb
namespace Go.Proofs.Ytbhhpopckchibaa
open Go.RowKit
set_option linter.unusedVariables false
set_option linter.unusedSimpArgs false
theorem ag23 (w : World) : (Instr.alloc 23 true (.tuple #[])).run Try.prog w = .ok (.pointer (some ⟨w.heap.size, 0, none⟩)) (w.alloc (.cells (iv zerI).toArray 23)) := alloc23 w
set_option maxRecDepth 100000 in
set_option maxHeartbeats 4000000 in
theorem Mul_t (f g : Nat → FQ) (w : World) : Calls Try.prog 11 #[.agg (iv (PL f)).toArray, .agg (iv (PL g)).toArray] w fun e w' => e = .returned (.tuple #[.agg (iv (PL (mulF f g))).toArray, .int .i64 0]) ∧ Below w.heap.size w w' := by
  have HP := Lib.hid (fun (w : World) (g_ : Nat) (h : Blk w g_ 23 (iv (PL f) ++ iv (PL g))) => plain2 (IsP_PL f) (IsP_PL g) (allP_PL2 f g) h)
  have HVA := Lib.hid (valuesOf_any f)
  have HVB := Lib.hid (valuesOf_any g)
  have HT := Lib.hid (Times_t (ntt f) (ntt g))
  have HB := Lib.hid (fun w => show Calls Try.prog 37 #[.agg (iv (PL (fun i => ntt f i * ntt g i))).toArray] w fun e w' => e = .returned (.agg (iv (PL (mulF f g))).toArray) ∧ Below w.heap.size w w' from behind_any (fun i => ntt f i * ntt g i) w)
  have LA := Lib.hid (PL_length f)
  have LB := Lib.hid (PL_length g)
  have LT := Lib.hid (PL_length (fun i => ntt f i * ntt g i))
  have LM := Lib.hid (PL_length (mulF f g))
  generalize PL (mulF f g) = m at *
  generalize PL (fun i => ntt f i * ntt g i) = v at *
  generalize PL (ntt f) = va at *
  generalize PL (ntt g) = vb at *
  generalize PL f = a at *
  generalize PL g = b at *
  have B1 := Lib.hid (((Blk.new w 23 (iv a)).alloc (.cells (iv b).toArray 23)).alloc (.cells (iv zerI).toArray 23))
  have B2 := Lib.hid ((Blk.new2 w (.cells (iv a).toArray 23) 23 (iv b)).alloc (.cells (iv zerI).toArray 23))
  have B3 := Lib.hid (Blk.new3 w (.cells (iv a).toArray 23) (.cells (iv b).toArray 23) 23 (iv zerI))
  have B4 := Lib.hid (Blk.new4 w (.cells (iv a).toArray 23) (.cells (iv b).toArray 23) (.cells (iv zerI).toArray 23) 23 (iv a ++ iv b))
  have BEL := Lib.hid (((((Below.refl w.heap.size w).alloc (Nat.le_refl _) (.cells (iv a).toArray 23)).alloc (by simp) (.cells (iv b).toArray 23)).alloc (by simp; omega) (.cells (iv zerI).toArray 23)).alloc (by simp; omega) (.cells (iv a ++ iv b).toArray 23))
  have z23 := zero23
  go_enter Try.func11, Try.ntmps11
  go_wp2_with (first | (refine wpList_load_row rfl 23 (.tmp 2) rfl w.heap.size rfl 23 (iv a).toArray (0, 0) _ B1.out Try.underlying23 rfl (j23 LA.out) ?_) | (refine wpList_load_row rfl 23 (.tmp 3) rfl (w.heap.size + 1) rfl 23 (iv b).toArray (0, 0) _ B2.out Try.underlying23 rfl (j23 LB.out) ?_) | (refine bs2 rfl _ _ rfl rfl rfl LA.out LB.out ?_))
  refine (HP.out _ _ B4.out).mono ?_
  rintro e w1 ⟨rfl, hb1⟩
  have C1 := Lib.hid ((B1.out.alloc (.cells (iv a ++ iv b).toArray 23)).below' hb1)
  have C2 := Lib.hid ((B2.out.alloc (.cells (iv a ++ iv b).toArray 23)).below' hb1)
  have C3 := Lib.hid ((B3.out.alloc (.cells (iv a ++ iv b).toArray 23)).below' hb1)
  have hbel := Lib.hid (BEL.out.trans (hb1.mono BEL.out.size))
  clear B1 B2 B3 B4 BEL HP hb1
  go_wp2_with fail
  refine wp_region_G (fun w_ => Blk w_ w.heap.size 23 (iv a) ∧ Blk w_ (w.heap.size + 1) 23 (iv b)) 11 (by kernel_rfl) ⟨C1.out.drew, C2.out.drew⟩ ?_
  refine wpAnyG_take (oi := _) (v := _) (fun _ _ hS_ hb_ => ⟨hS_.1.gr hb_, hS_.2.gr hb_⟩) (i := 0) rfl (by kernel_rfl) (fun _ _ _ h => h) (loadG (by rfl) _ _ rfl _ _ rfl (iv a) _ (fun _ hS_ => blk_all hS_.1) Try.underlying23 rfl (i23 LA.out)) ?_
  try simp only [Act.put, List.getElem_toArray, List.getElem_cons_succ, List.getElem_cons_zero, List.setIfInBounds_toArray, List.set_cons_zero, List.set_cons_succ]
  refine wpAnyG_take (oi := _) (v := _) (fun _ _ hS_ hb_ => ⟨hS_.1.gr hb_, hS_.2.gr hb_⟩) (i := 1) rfl (by kernel_rfl) (fun _ _ _ h => h) (callG (by rfl) rfl Try.func36 (by kernel_rfl) (by kernel_rfl) (#[.agg (iv a).toArray]) (by simp [Act.eval]) (fun W_ _ => HVA.out W_)) ?_
  try simp only [Act.put, List.getElem_toArray, List.getElem_cons_succ, List.getElem_cons_zero, List.setIfInBounds_toArray, List.set_cons_zero, List.set_cons_succ]
  refine wpAnyG_take (oi := _) (v := _) (fun _ _ hS_ hb_ => ⟨hS_.1.gr hb_, hS_.2.gr hb_⟩) (i := 2) rfl (by kernel_rfl) (fun _ _ _ h => h) (loadG (by rfl) _ _ rfl _ _ rfl (iv b) _ (fun _ hS_ => blk_all hS_.2) Try.underlying23 rfl (i23 LB.out)) ?_
  try simp only [Act.put, List.getElem_toArray, List.getElem_cons_succ, List.getElem_cons_zero, List.setIfInBounds_toArray, List.set_cons_zero, List.set_cons_succ]
  refine wpAnyG_take (oi := _) (v := _) (fun _ _ hS_ hb_ => ⟨hS_.1.gr hb_, hS_.2.gr hb_⟩) (i := 3) rfl (by kernel_rfl) (fun _ _ _ h => h) (callG (by rfl) rfl Try.func36 (by kernel_rfl) (by kernel_rfl) (#[.agg (iv b).toArray]) (by simp [Act.eval]) (fun W_ _ => HVB.out W_)) ?_
  try simp only [Act.put, List.getElem_toArray, List.getElem_cons_succ, List.getElem_cons_zero, List.setIfInBounds_toArray, List.set_cons_zero, List.set_cons_succ]
  refine wpAnyG_take (oi := _) (v := _) (fun _ _ hS_ hb_ => ⟨hS_.1.gr hb_, hS_.2.gr hb_⟩) (i := 4) rfl (by kernel_rfl) (fun _ _ _ h => h) (callG (by rfl) rfl Try.func12 (by kernel_rfl) (by kernel_rfl) (#[.agg (iv va).toArray, .agg (iv vb).toArray]) (by simp [Act.eval]) (fun W_ _ => HT.out W_)) ?_
  try simp only [Act.put, List.getElem_toArray, List.getElem_cons_succ, List.getElem_cons_zero, List.setIfInBounds_toArray, List.set_cons_zero, List.set_cons_succ]
  refine wpAnyG_take (oi := _) (v := _) (fun _ _ hS_ hb_ => ⟨hS_.1.gr hb_, hS_.2.gr hb_⟩) (i := 5) rfl (by kernel_rfl) (fun _ _ _ h => h) (pureG (by rfl) (by intro w_; go_simp; first | done | with_reducible rfl)) ?_
  try simp only [Act.put, List.getElem_toArray, List.getElem_cons_succ, List.getElem_cons_zero, List.setIfInBounds_toArray, List.set_cons_zero, List.set_cons_succ]
  refine wpAnyG_take (oi := _) (v := _) (fun _ _ hS_ hb_ => ⟨hS_.1.gr hb_, hS_.2.gr hb_⟩) (i := 6) rfl (by kernel_rfl) (fun _ _ _ h => h) (pureG (by rfl) (by intro w_; go_simp; first | done | with_reducible rfl)) ?_
  try simp only [Act.put, List.getElem_toArray, List.getElem_cons_succ, List.getElem_cons_zero, List.setIfInBounds_toArray, List.set_cons_zero, List.set_cons_succ]
  refine wpAnyG_take (oi := _) (v := _) (fun _ _ hS_ hb_ => ⟨hS_.1.gr hb_, hS_.2.gr hb_⟩) (i := 7) rfl (by kernel_rfl) (fun _ _ _ h => h) (pureG (by rfl) (by intro w_; go_simp; first | done | with_reducible rfl)) ?_
  try simp only [Act.put, List.getElem_toArray, List.getElem_cons_succ, List.getElem_cons_zero, List.setIfInBounds_toArray, List.set_cons_zero, List.set_cons_succ]
  refine wpAnyG_alloc (i := 8) (fun _ _ hS_ hb_ => ⟨hS_.1.gr hb_, hS_.2.gr hb_⟩) (by kernel_rfl) rfl (allocG (by rfl) rfl _ ag23) ?_
  intro w2 g2 hg2 hz2 hn2
  try simp only [Act.put, List.getElem_toArray, List.getElem_cons_succ, List.getElem_cons_zero, List.setIfInBounds_toArray, List.set_cons_zero, List.set_cons_succ]
  have hsz := hbel.out.size
  have hl3 := C3.out.lt
  have D3 := C3.out.drew.gr hg2
  have hbel2 := hbel.out.drew.trans (Below.mono hg2 hbel.out.drew.size)
  have hlt : w.heap.size + 1 + 1 < g2 := Nat.lt_of_lt_of_le hl3 hz2
  clear C1 C2 C3 hbel hg2
  refine wpAnyG_store (i := 9) (by kernel_rfl) rfl hn2 (lenEq (show (iv zerI).length = 256 by rw [iv_length, zerI_length]) (by rw [iv_length, LT.out])) (StoresG.mk (cs := iv v) (by rfl) 23 _ _ rfl rfl rfl (i23 LT.out) (iv_one _)) (.inr (fun _ hS_ => ⟨hS_.1.row _ (by omega), hS_.2.row _ (by omega)⟩)) ?_
  intro w3 hg3 hn3
  try simp only [Act.put, List.getElem_toArray, List.getElem_cons_succ, List.getElem_cons_zero, List.setIfInBounds_toArray, List.set_cons_zero, List.set_cons_succ]
  have E3 := D3.grown hg3 (fun e => by have := Option.some.inj e; omega)
  have hbel3 := belStore hbel2 hg3 (by omega)
  clear D3 hbel2 hg3 hn2
  refine wpAnyG_take (oi := _) (v := _) (fun _ _ hS_ hb_ => ⟨hS_.1.gr hb_, hS_.2.gr hb_⟩) (i := 10) rfl (by kernel_rfl) (fun _ _ _ h => h) (pureG (by rfl) (by intro w_; go_simp; first | done | with_reducible rfl)) ?_
  try simp only [Act.put, List.getElem_toArray, List.getElem_cons_succ, List.getElem_cons_zero, List.setIfInBounds_toArray, List.set_cons_zero, List.set_cons_succ]
  refine wpAnyG_done (by kernel_rfl) ?_ _
  intro w4 hg4
  try simp only [Act.put, List.getElem_toArray, List.getElem_cons_succ, List.getElem_cons_zero, List.setIfInBounds_toArray, List.set_cons_zero, List.set_cons_succ]
  have V4 := Lib.hid (hn3.gr hg4)
  have R4 := Lib.hid (E3.gr hg4)
  have hbel4 := Lib.hid (hbel3.trans (Below.mono hg4 hbel3.size))
  clear hn3 E3 hbel3 hg4 z23
  go_wp2_with (first | (refine wpList_load_row rfl 23 (.tmp 6) rfl g2 rfl 23 (iv v).toArray (0, 0) _ V4.out Try.underlying23 rfl (j23 LT.out) ?_))
  refine (HB.out _).mono ?_
  rintro e w5 ⟨rfl, hb5⟩
  have R5 := Lib.hid (R4.out.below' hb5)
  have hbel5 := hbel4.out.trans (hb5.mono hbel4.out.size)
  clear R4 V4 hbel4 hb5
  go_wp2_with (first | (refine wpList_store_row rfl 23 (.tmp 4) (.tmp 23) rfl (w.heap.size + 1 + 1) (iv m).toArray rfl rfl 23 (iv zerI).toArray R5.out (j23 LM.out) (by rw [iv_size, iv_size, LM.out, zerI_length]) (iv_all _) ?_))
  have j2 := R5.out.setRow (iv m)
  have hb2 := below_setRow' hbel5 (show w.heap.size ≤ w.heap.size + 1 + 1 by omega) (iv m).toArray
  refine bodyPost_ret (v := .tuple #[.agg (iv m).toArray, .int .i64 0]) ?_ rfl ⟨rfl, hb2⟩
  exact results_two Try.results11 _ _ (w.heap.size + 1 + 1) 23 _ (0, 0) _ _ rfl rfl j2 Try.underlying23 rfl (j23 LM.out)
set_option maxRecDepth 100000 in
set_option maxHeartbeats 4000000 in
theorem Mul_f (a b : List Int) (ha : IsP a) (hb : IsP b) (hno : allP [a, b] = false) (w : World) : Calls Try.prog 11 #[.agg (iv a).toArray, .agg (iv b).toArray] w fun e w' => e = .returned (.tuple #[.agg (iv zerI).toArray, .int .i64 81]) ∧ Below w.heap.size w w' := by
  have HP := Lib.hid (fun (w : World) (g_ : Nat) (h : Blk w g_ 23 (iv a ++ iv b)) => plain2 ha hb hno h)
  have LA := Lib.hid ha.1
  have LB := Lib.hid hb.1
  clear ha hb hno
  have B1 := Lib.hid (((Blk.new w 23 (iv a)).alloc (.cells (iv b).toArray 23)).alloc (.cells (iv zerI).toArray 23))
  have B2 := Lib.hid ((Blk.new2 w (.cells (iv a).toArray 23) 23 (iv b)).alloc (.cells (iv zerI).toArray 23))
  have B3 := Lib.hid (Blk.new3 w (.cells (iv a).toArray 23) (.cells (iv b).toArray 23) 23 (iv zerI))
  have B4 := Lib.hid (Blk.new4 w (.cells (iv a).toArray 23) (.cells (iv b).toArray 23) (.cells (iv zerI).toArray 23) 23 (iv a ++ iv b))
  have BEL := Lib.hid (((((Below.refl w.heap.size w).alloc (Nat.le_refl _) (.cells (iv a).toArray 23)).alloc (by simp) (.cells (iv b).toArray 23)).alloc (by simp; omega) (.cells (iv zerI).toArray 23)).alloc (by simp; omega) (.cells (iv a ++ iv b).toArray 23))
  have z23 := zero23
  go_enter Try.func11, Try.ntmps11
  go_wp2_with (first | (refine wpList_load_row rfl 23 (.tmp 2) rfl w.heap.size rfl 23 (iv a).toArray (0, 0) _ B1.out Try.underlying23 rfl (j23 LA.out) ?_) | (refine wpList_load_row rfl 23 (.tmp 3) rfl (w.heap.size + 1) rfl 23 (iv b).toArray (0, 0) _ B2.out Try.underlying23 rfl (j23 LB.out) ?_) | (refine bs2 rfl _ _ rfl rfl rfl LA.out LB.out ?_))
  refine (HP.out _ _ B4.out).mono ?_
  rintro e w1 ⟨rfl, hb1⟩
  have C1 := Lib.hid ((B1.out.alloc (.cells (iv a ++ iv b).toArray 23)).below' hb1)
  have C2 := Lib.hid ((B2.out.alloc (.cells (iv a ++ iv b).toArray 23)).below' hb1)
  have C3 := Lib.hid ((B3.out.alloc (.cells (iv a ++ iv b).toArray 23)).below' hb1)
  have hbel := Lib.hid (BEL.out.trans (hb1.mono BEL.out.size))
  clear B1 B2 B3 B4 BEL HP hb1
  go_wp2_with (first | (refine wpList_build_is rfl 23 #[] rfl (iv zerI).toArray built0 ?_) | (refine wpList_store_row rfl 23 (.tmp 4) (.tmp 13) rfl (w.heap.size + 1 + 1) (iv zerI).toArray rfl rfl 23 (iv zerI).toArray C3.out (j23 zerI_length) rfl (iv_all _) ?_))
  have j2 := C3.out.setRow (iv zerI)
  have hb2 := below_setRow' hbel.out (show w.heap.size ≤ w.heap.size + 1 + 1 by omega) (iv zerI).toArray
  refine bodyPost_ret (v := .tuple #[.agg (iv zerI).toArray, .int .i64 81]) ?_ rfl ⟨rfl, hb2⟩
  exact results_two Try.results11 _ _ (w.heap.size + 1 + 1) 23 _ (0, 0) _ _ rfl rfl j2 Try.underlying23 rfl (j23 zerI_length)
end Go.Proofs.Ytbhhpopckchibaa
