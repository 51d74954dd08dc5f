/- RingValues: the walk. Condition: the coefficients are 32-bit numbers. -/
import Derived.Test.YtbhhpopckchibaaAw
import Derived.Test.YtbhhpopckchibaaRg
namespace Go.Proofs.Ytbhhpopckchibaa
open Go.RowKit
set_option linter.unusedVariables false
set_option linter.unusedSimpArgs false
theorem pln_one {a : List Int} (h : pln a = false) : allP [a] = false := by simp [allP, h]
set_option maxRecDepth 100000 in
set_option maxHeartbeats 3200000 in
theorem values_no (a : List Int) (ha : IsP a) (hno : pln a = false) (w : World) : Calls Try.prog 4 #[.agg (iv a).toArray] w fun e w' => e = .returned (.bool true) ∧ Below w.heap.size w w' := by
  have HA := Lib.hid awake_any
  have HN := Lib.hid (NTT_f a ha (pln_one hno))
  have HB := Lib.hid (Back_f a ha (pln_one hno))
  have HP := Lib.hid (dPlain_any a ha.1)
  rw [hno] at HP
  have L_a := Lib.hid ha.1
  clear ha hno
  have z23 := zero23
  have heq := fun w => eqin23 zerI zerI zerI_length zerI_length w
  have B0_ := Lib.hid (Blk.new w  23 (iv a))
  have bel_ := ((Below.refl w.heap.size w).alloc (Nat.le_refl _) (.cells (iv a).toArray 23))
  go_enter Try.func4, Try.ntmps4
  go_wp2_with fail
  refine (HA.out _).mono ?_
  rintro e w1 ⟨rfl, hbw1⟩
  have C2 := Lib.hid (B0_.out.gr hbw1)
  clear B0_
  have hbel3 := bel_.trans (Below.mono hbw1 bel_.size)
  clear bel_
  clear hbw1
  go_wp2_with (first | (refine wpList_load_mid rfl 23 (.tmp 1) rfl w.heap.size 0 rfl (iv a) _ (blk_all (C2.out)) Try.underlying23 rfl (i23 L_a.out) ?_))
  refine (HN.out _).mono ?_
  rintro e w4 ⟨rfl, hbw4⟩
  have C5 := Lib.hid (C2.out.gr hbw4)
  clear C2
  have hbel6 := hbel3.trans (Below.mono hbw4 hbel3.size)
  clear hbel3
  clear hbw4
  go_wp2_with (first | (refine stB rfl 23 (.tmp 4) (.tmp 14) rfl w4.heap.size rfl (iv zerI) rfl 23 (iv zerI) (Blk.new w4 23 (iv zerI)) (i23 zerI_length) (lenEq (show (iv zerI).length = 256 by rw [iv_length, zerI_length]) (show (iv zerI).length = 256 by rw [iv_length, zerI_length])) (iv_one _) ?_; generalize hW : World.setRow _ _ _ = w7; obtain ⟨hgw7, hnw7⟩ := newfacts hW; clear hW; have C10 := Lib.hid (C5.out.gr hgw7); clear C5; have hbel11 := hbel6.trans (Below.mono hgw7 hbel6.size); clear hbel6; have D9 := Lib.hid hnw7; have szw7 := hgw7.size; clear hnw7 hgw7 szw7; generalize w4.heap.size = G8 at *) | (refine wpList_load_mid rfl 23 (.tmp 1) rfl w.heap.size 0 rfl (iv a) _ (blk_all (C10.out)) Try.underlying23 rfl (i23 L_a.out) ?_))
  refine (HB.out _).mono ?_
  rintro e w12 ⟨rfl, hbw12⟩
  have C13 := Lib.hid (C10.out.gr hbw12)
  clear C10
  have C14 := Lib.hid (D9.out.gr hbw12)
  clear D9
  have hbel15 := hbel11.trans (Below.mono hbw12 hbel11.size)
  clear hbel11
  clear hbw12
  go_wp2_with (first | (refine stB rfl 23 (.tmp 6) (.tmp 19) rfl w12.heap.size rfl (iv zerI) rfl 23 (iv zerI) (Blk.new w12 23 (iv zerI)) (i23 zerI_length) (lenEq (show (iv zerI).length = 256 by rw [iv_length, zerI_length]) (show (iv zerI).length = 256 by rw [iv_length, zerI_length])) (iv_one _) ?_; generalize hW : World.setRow _ _ _ = w16; obtain ⟨hgw16, hnw16⟩ := newfacts hW; clear hW; have C19 := Lib.hid (C13.out.gr hgw16); clear C13; have C20 := Lib.hid (C14.out.gr hgw16); clear C14; have hbel21 := hbel15.trans (Below.mono hgw16 hbel15.size); clear hbel15; have D18 := Lib.hid hnw16; have szw16 := hgw16.size; clear hnw16 hgw16 szw16; generalize w12.heap.size = G17 at *) | (refine wpList_load_mid rfl 23 (.tmp 1) rfl w.heap.size 0 rfl (iv a) _ (blk_all (C19.out)) Try.underlying23 rfl (i23 L_a.out) ?_))
  refine (HP.out _).mono ?_
  rintro e w22 ⟨rfl, hbw22⟩
  have C23 := Lib.hid (C19.out.gr hbw22)
  clear C19
  have C24 := Lib.hid (C20.out.gr hbw22)
  clear C20
  have C25 := Lib.hid (D18.out.gr hbw22)
  clear D18
  have hbel26 := hbel21.trans (Below.mono hbw22 hbel21.size)
  clear hbel21
  clear hbw22
  go_wp2_with (first | (refine wpList_build_is rfl 23 _ rfl (iv zerI).toArray built0 ?_) | (refine stB rfl 23 (.tmp 9) (.tmp 25) rfl w22.heap.size rfl (iv zerI) rfl 23 (iv zerI) (Blk.new w22 23 (iv zerI)) (i23 zerI_length) (lenEq (show (iv zerI).length = 256 by rw [iv_length, zerI_length]) (show (iv zerI).length = 256 by rw [iv_length, zerI_length])) (iv_one _) ?_; generalize hW : World.setRow _ _ _ = w27; obtain ⟨hgw27, hnw27⟩ := newfacts hW; clear hW; have C30 := Lib.hid (C23.out.gr hgw27); clear C23; have C31 := Lib.hid (C24.out.gr hgw27); clear C24; have C32 := Lib.hid (C25.out.gr hgw27); clear C25; have hbel33 := hbel26.trans (Below.mono hgw27 hbel26.size); clear hbel26; have D29 := Lib.hid hnw27; have szw27 := hgw27.size; clear hnw27 hgw27 szw27; generalize w22.heap.size = G28 at *) | (refine ldwM 23 (.tmp 4) rfl G8 0 rfl (iv zerI) _ (blk_all (C31.out)) Try.underlying23 rfl (i23 zerI_length) 10 true rfl 36 rfl rfl ?_) | (refine ldwM 23 (.tmp 9) rfl G28 0 rfl (iv zerI) _ (blk_all (D29.out)) Try.underlying23 rfl (i23 zerI_length) 10 true rfl 36 rfl rfl ?_) | (refine ldwM 23 (.tmp 6) rfl G17 0 rfl (iv zerI) _ (blk_all (C32.out)) Try.underlying23 rfl (i23 zerI_length) 15 true rfl 41 rfl rfl ?_) | (refine ldwM 23 (.tmp 9) rfl G28 0 rfl (iv zerI) _ (blk_all (D29.out)) Try.underlying23 rfl (i23 zerI_length) 15 true rfl 41 rfl rfl ?_))
  go_ret
  exact ⟨rfl, hbel33⟩
set_option maxRecDepth 100000 in
set_option maxHeartbeats 3200000 in
theorem values_yes (f : Nat → FQ) (w : World) : Calls Try.prog 4 #[.agg (iv (PL f)).toArray] w fun e w' => e = .returned (.bool true) ∧ Below w.heap.size w w' := by
  have HA := Lib.hid awake_any
  have HN := Lib.hid (NTT_t f)
  have HB := Lib.hid (Back_t f)
  have HP := Lib.hid (dPlain_any (PL f) (PL_length f))
  rw [pln_PL] at HP
  have HV := Lib.hid (dNTT_any f)
  have HW := Lib.hid (dNTT_any (bck f))
  rw [ntt_bck] at HW
  have L_a := Lib.hid (PL_length f)
  have L_v := Lib.hid (PL_length (ntt f))
  have L_b := Lib.hid (PL_length (bck f))
  generalize PL (ntt f) = v at *
  generalize PL (bck f) = b at *
  generalize PL f = a at *
  have z23 := zero23
  have B0_ := Lib.hid (Blk.new w  23 (iv a))
  have bel_ := ((Below.refl w.heap.size w).alloc (Nat.le_refl _) (.cells (iv a).toArray 23))
  go_enter Try.func4, Try.ntmps4
  go_wp2_with fail
  refine (HA.out _).mono ?_
  rintro e w1 ⟨rfl, hbw1⟩
  have C2 := Lib.hid (B0_.out.gr hbw1)
  clear B0_
  have hbel3 := bel_.trans (Below.mono hbw1 bel_.size)
  clear bel_
  clear hbw1
  go_wp2_with (first | (refine wpList_load_mid rfl 23 (.tmp 1) rfl w.heap.size 0 rfl (iv a) _ (blk_all (C2.out)) Try.underlying23 rfl (i23 L_a.out) ?_))
  refine (HN.out _).mono ?_
  rintro e w4 ⟨rfl, hbw4⟩
  have C5 := Lib.hid (C2.out.gr hbw4)
  clear C2
  have hbel6 := hbel3.trans (Below.mono hbw4 hbel3.size)
  clear hbel3
  clear hbw4
  go_wp2_with (first | (refine stB rfl 23 (.tmp 4) (.tmp 14) rfl w4.heap.size rfl (iv v) rfl 23 (iv zerI) (Blk.new w4 23 (iv zerI)) (i23 L_v.out) (lenEq (show (iv zerI).length = 256 by rw [iv_length, zerI_length]) (show (iv v).length = 256 by rw [iv_length, L_v.out])) (iv_one _) ?_; generalize hW : World.setRow _ _ _ = w7; obtain ⟨hgw7, hnw7⟩ := newfacts hW; clear hW; have C10 := Lib.hid (C5.out.gr hgw7); clear C5; have hbel11 := hbel6.trans (Below.mono hgw7 hbel6.size); clear hbel6; have D9 := Lib.hid hnw7; have szw7 := hgw7.size; clear hnw7 hgw7 szw7; generalize w4.heap.size = G8 at *) | (refine wpList_load_mid rfl 23 (.tmp 1) rfl w.heap.size 0 rfl (iv a) _ (blk_all (C10.out)) Try.underlying23 rfl (i23 L_a.out) ?_))
  refine (HB.out _).mono ?_
  rintro e w12 ⟨rfl, hbw12⟩
  have C13 := Lib.hid (C10.out.gr hbw12)
  clear C10
  have C14 := Lib.hid (D9.out.gr hbw12)
  clear D9
  have hbel15 := hbel11.trans (Below.mono hbw12 hbel11.size)
  clear hbel11
  clear hbw12
  go_wp2_with (first | (refine stB rfl 23 (.tmp 6) (.tmp 19) rfl w12.heap.size rfl (iv b) rfl 23 (iv zerI) (Blk.new w12 23 (iv zerI)) (i23 L_b.out) (lenEq (show (iv zerI).length = 256 by rw [iv_length, zerI_length]) (show (iv b).length = 256 by rw [iv_length, L_b.out])) (iv_one _) ?_; generalize hW : World.setRow _ _ _ = w16; obtain ⟨hgw16, hnw16⟩ := newfacts hW; clear hW; have C19 := Lib.hid (C13.out.gr hgw16); clear C13; have C20 := Lib.hid (C14.out.gr hgw16); clear C14; have hbel21 := hbel15.trans (Below.mono hgw16 hbel15.size); clear hbel15; have D18 := Lib.hid hnw16; have szw16 := hgw16.size; clear hnw16 hgw16 szw16; generalize w12.heap.size = G17 at *) | (refine wpList_load_mid rfl 23 (.tmp 1) rfl w.heap.size 0 rfl (iv a) _ (blk_all (C19.out)) Try.underlying23 rfl (i23 L_a.out) ?_))
  refine (HP.out _).mono ?_
  rintro e w22 ⟨rfl, hbw22⟩
  have C23 := Lib.hid (C19.out.gr hbw22)
  clear C19
  have C24 := Lib.hid (C20.out.gr hbw22)
  clear C20
  have C25 := Lib.hid (D18.out.gr hbw22)
  clear D18
  have hbel26 := hbel21.trans (Below.mono hbw22 hbel21.size)
  clear hbel21
  clear hbw22
  go_wp2_with fail
  as_aux_lemma =>
  refine wp_region_G (fun w_ => Blk w_ G8 23 (iv v) ∧ Blk w_ w.heap.size 23 (iv a) ∧ Blk w_ G17 23 (iv b)) 22 (by kernel_rfl) ⟨C24.out.drew, C23.out.drew, C25.out.drew⟩ ?_
  refine wpAnyG_take (oi := _) (v := _) (fun _ _ hS_ hb_ => ⟨hS_.1.gr hb_, hS_.2.1.gr hb_, hS_.2.2.gr hb_⟩) (i := 0) rfl (by kernel_rfl) (fun _ _ _ h => h) (pureG (by rfl) (by intro w; go_simp; first | done | with_reducible rfl)) ?_
  try simp only [Act.put, List.getElem_toArray, List.getElem_cons_succ, List.getElem_cons_zero, List.setIfInBounds_toArray, List.set_cons_zero, List.set_cons_succ]
  refine wpAnyG_take (oi := _) (v := _) (fun _ _ hS_ hb_ => ⟨hS_.1.gr hb_, hS_.2.1.gr hb_, hS_.2.2.gr hb_⟩) (i := 1) rfl (by kernel_rfl) (fun _ _ _ h => h) (pureG (by rfl) (by intro w; go_simp; first | done | with_reducible rfl)) ?_
  try simp only [Act.put, List.getElem_toArray, List.getElem_cons_succ, List.getElem_cons_zero, List.setIfInBounds_toArray, List.set_cons_zero, List.set_cons_succ]
  refine wpAnyG_take (oi := _) (v := _) (fun _ _ hS_ hb_ => ⟨hS_.1.gr hb_, hS_.2.1.gr hb_, hS_.2.2.gr hb_⟩) (i := 2) rfl (by kernel_rfl) (fun _ _ _ h => h) (pureG (by rfl) (by intro w; go_simp; first | done | with_reducible rfl)) ?_
  try simp only [Act.put, List.getElem_toArray, List.getElem_cons_succ, List.getElem_cons_zero, List.setIfInBounds_toArray, List.set_cons_zero, List.set_cons_succ]
  refine wpAnyG_take (oi := _) (v := _) (fun _ _ hS_ hb_ => ⟨hS_.1.gr hb_, hS_.2.1.gr hb_, hS_.2.2.gr hb_⟩) (i := 3) rfl (by kernel_rfl) (fun _ _ _ h => h) (pureG (by rfl) (by intro w; go_simp; first | done | with_reducible rfl)) ?_
  try simp only [Act.put, List.getElem_toArray, List.getElem_cons_succ, List.getElem_cons_zero, List.setIfInBounds_toArray, List.set_cons_zero, List.set_cons_succ]
  refine wpAnyG_take (oi := _) (v := _) (fun _ _ hS_ hb_ => ⟨hS_.1.gr hb_, hS_.2.1.gr hb_, hS_.2.2.gr hb_⟩) (i := 4) rfl (by kernel_rfl) (fun _ _ _ h => h) (pureG (by rfl) (by intro w; go_simp; first | done | with_reducible rfl)) ?_
  try simp only [Act.put, List.getElem_toArray, List.getElem_cons_succ, List.getElem_cons_zero, List.setIfInBounds_toArray, List.set_cons_zero, List.set_cons_succ]
  refine wpAnyG_take (oi := _) (v := _) (fun _ _ hS_ hb_ => ⟨hS_.1.gr hb_, hS_.2.1.gr hb_, hS_.2.2.gr hb_⟩) (i := 5) rfl (by kernel_rfl) (fun _ _ _ h => h) (pureG (by rfl) (by intro w; go_simp; first | done | with_reducible rfl)) ?_
  try simp only [Act.put, List.getElem_toArray, List.getElem_cons_succ, List.getElem_cons_zero, List.setIfInBounds_toArray, List.set_cons_zero, List.set_cons_succ]
  refine wpAnyG_take (oi := _) (v := _) (fun _ _ hS_ hb_ => ⟨hS_.1.gr hb_, hS_.2.1.gr hb_, hS_.2.2.gr hb_⟩) (i := 6) rfl (by kernel_rfl) (fun _ _ _ h => h) (pureG (by rfl) (by intro w; go_simp; first | done | with_reducible rfl)) ?_
  try simp only [Act.put, List.getElem_toArray, List.getElem_cons_succ, List.getElem_cons_zero, List.setIfInBounds_toArray, List.set_cons_zero, List.set_cons_succ]
  refine wpAnyG_take (oi := _) (v := _) (fun _ _ hS_ hb_ => ⟨hS_.1.gr hb_, hS_.2.1.gr hb_, hS_.2.2.gr hb_⟩) (i := 7) rfl (by kernel_rfl) (fun _ _ _ h => h) (pureG (by rfl) (by intro w; go_simp; first | done | with_reducible rfl)) ?_
  try simp only [Act.put, List.getElem_toArray, List.getElem_cons_succ, List.getElem_cons_zero, List.setIfInBounds_toArray, List.set_cons_zero, List.set_cons_succ]
  refine wpAnyG_take (oi := _) (v := _) (fun _ _ hS_ hb_ => ⟨hS_.1.gr hb_, hS_.2.1.gr hb_, hS_.2.2.gr hb_⟩) (i := 8) rfl (by kernel_rfl) (fun _ _ _ h => h) (pureG (by rfl) (by intro w; go_simp; first | done | with_reducible rfl)) ?_
  try simp only [Act.put, List.getElem_toArray, List.getElem_cons_succ, List.getElem_cons_zero, List.setIfInBounds_toArray, List.set_cons_zero, List.set_cons_succ]
  refine wpAnyG_take (oi := _) (v := _) (fun _ _ hS_ hb_ => ⟨hS_.1.gr hb_, hS_.2.1.gr hb_, hS_.2.2.gr hb_⟩) (i := 9) rfl (by kernel_rfl) (fun _ _ _ h => h) (pureG (by rfl) (by intro w; go_simp; first | done | with_reducible rfl)) ?_
  try simp only [Act.put, List.getElem_toArray, List.getElem_cons_succ, List.getElem_cons_zero, List.setIfInBounds_toArray, List.set_cons_zero, List.set_cons_succ]
  refine wpAnyG_take (oi := _) (v := _) (fun _ _ hS_ hb_ => ⟨hS_.1.gr hb_, hS_.2.1.gr hb_, hS_.2.2.gr hb_⟩) (i := 10) rfl (by kernel_rfl) (fun _ _ _ h => h) (loadG (by rfl) _ _ rfl _ _ rfl (iv v) _ (fun _ hS_ => blk_all (hS_.1)) Try.underlying23 rfl (i23 L_v.out)) ?_
  try simp only [Act.put, List.getElem_toArray, List.getElem_cons_succ, List.getElem_cons_zero, List.setIfInBounds_toArray, List.set_cons_zero, List.set_cons_succ]
  refine wpAnyG_take (oi := _) (v := _) (fun _ _ hS_ hb_ => ⟨hS_.1.gr hb_, hS_.2.1.gr hb_, hS_.2.2.gr hb_⟩) (i := 11) rfl (by kernel_rfl) (fun _ _ _ h => h) (loadG (by rfl) _ _ rfl _ _ rfl (iv a) _ (fun _ hS_ => blk_all (hS_.2.1)) Try.underlying23 rfl (i23 L_a.out)) ?_
  try simp only [Act.put, List.getElem_toArray, List.getElem_cons_succ, List.getElem_cons_zero, List.setIfInBounds_toArray, List.set_cons_zero, List.set_cons_succ]
  refine wpAnyG_take (oi := _) (v := _) (fun _ _ hS_ hb_ => ⟨hS_.1.gr hb_, hS_.2.1.gr hb_, hS_.2.2.gr hb_⟩) (i := 12) rfl (by kernel_rfl) (fun _ _ _ h => h) (callG (by rfl) rfl Try.func23 (by kernel_rfl) (by kernel_rfl) (#[.agg (iv a).toArray]) (by simp [Act.eval]) (fun W_ _ => HV.out W_)) ?_
  try simp only [Act.put, List.getElem_toArray, List.getElem_cons_succ, List.getElem_cons_zero, List.setIfInBounds_toArray, List.set_cons_zero, List.set_cons_succ]
  refine wpAnyG_take (oi := _) (v := _) (fun _ _ hS_ hb_ => ⟨hS_.1.gr hb_, hS_.2.1.gr hb_, hS_.2.2.gr hb_⟩) (i := 13) rfl (by kernel_rfl) (fun _ _ _ h => h) (pureG (by rfl) (by intro w; have q := eqin23 v v L_v.out L_v.out w; go_simp; first | done | with_reducible rfl)) ?_
  try simp only [Act.put, List.getElem_toArray, List.getElem_cons_succ, List.getElem_cons_zero, List.setIfInBounds_toArray, List.set_cons_zero, List.set_cons_succ]
  refine wpAnyG_take (oi := _) (v := _) (fun _ _ hS_ hb_ => ⟨hS_.1.gr hb_, hS_.2.1.gr hb_, hS_.2.2.gr hb_⟩) (i := 14) rfl (by kernel_rfl) (fun _ _ _ h => h) (pureG (by rfl) (by intro w; go_simp; first | done | with_reducible rfl)) ?_
  try simp only [Act.put, List.getElem_toArray, List.getElem_cons_succ, List.getElem_cons_zero, List.setIfInBounds_toArray, List.set_cons_zero, List.set_cons_succ]
  refine wpAnyG_take (oi := _) (v := _) (fun _ _ hS_ hb_ => ⟨hS_.1.gr hb_, hS_.2.1.gr hb_, hS_.2.2.gr hb_⟩) (i := 15) rfl (by kernel_rfl) (fun _ _ _ h => h) (pureG (by rfl) (by intro w; go_simp; first | done | with_reducible rfl)) ?_
  try simp only [Act.put, List.getElem_toArray, List.getElem_cons_succ, List.getElem_cons_zero, List.setIfInBounds_toArray, List.set_cons_zero, List.set_cons_succ]
  refine wpAnyG_take (oi := _) (v := _) (fun _ _ hS_ hb_ => ⟨hS_.1.gr hb_, hS_.2.1.gr hb_, hS_.2.2.gr hb_⟩) (i := 16) rfl (by kernel_rfl) (fun _ _ _ h => h) (loadG (by rfl) _ _ rfl _ _ rfl (iv b) _ (fun _ hS_ => blk_all (hS_.2.2)) Try.underlying23 rfl (i23 L_b.out)) ?_
  try simp only [Act.put, List.getElem_toArray, List.getElem_cons_succ, List.getElem_cons_zero, List.setIfInBounds_toArray, List.set_cons_zero, List.set_cons_succ]
  refine wpAnyG_take (oi := _) (v := _) (fun _ _ hS_ hb_ => ⟨hS_.1.gr hb_, hS_.2.1.gr hb_, hS_.2.2.gr hb_⟩) (i := 17) rfl (by kernel_rfl) (fun _ _ _ h => h) (callG (by rfl) rfl Try.func23 (by kernel_rfl) (by kernel_rfl) (#[.agg (iv b).toArray]) (by simp [Act.eval]) (fun W_ _ => HW.out W_)) ?_
  try simp only [Act.put, List.getElem_toArray, List.getElem_cons_succ, List.getElem_cons_zero, List.setIfInBounds_toArray, List.set_cons_zero, List.set_cons_succ]
  refine wpAnyG_take (oi := _) (v := _) (fun _ _ hS_ hb_ => ⟨hS_.1.gr hb_, hS_.2.1.gr hb_, hS_.2.2.gr hb_⟩) (i := 18) rfl (by kernel_rfl) (fun _ _ _ h => h) (loadG (by rfl) _ _ rfl _ _ rfl (iv a) _ (fun _ hS_ => blk_all (hS_.2.1)) Try.underlying23 rfl (i23 L_a.out)) ?_
  try simp only [Act.put, List.getElem_toArray, List.getElem_cons_succ, List.getElem_cons_zero, List.setIfInBounds_toArray, List.set_cons_zero, List.set_cons_succ]
  refine wpAnyG_take (oi := _) (v := _) (fun _ _ hS_ hb_ => ⟨hS_.1.gr hb_, hS_.2.1.gr hb_, hS_.2.2.gr hb_⟩) (i := 19) rfl (by kernel_rfl) (fun _ _ _ h => h) (pureG (by rfl) (by intro w; have q := eqin23 a a L_a.out L_a.out w; go_simp; first | done | with_reducible rfl)) ?_
  try simp only [Act.put, List.getElem_toArray, List.getElem_cons_succ, List.getElem_cons_zero, List.setIfInBounds_toArray, List.set_cons_zero, List.set_cons_succ]
  refine wpAnyG_take (oi := _) (v := _) (fun _ _ hS_ hb_ => ⟨hS_.1.gr hb_, hS_.2.1.gr hb_, hS_.2.2.gr hb_⟩) (i := 20) rfl (by kernel_rfl) (fun _ _ _ h => h) (pureG (by rfl) (by intro w; go_simp; first | done | with_reducible rfl)) ?_
  try simp only [Act.put, List.getElem_toArray, List.getElem_cons_succ, List.getElem_cons_zero, List.setIfInBounds_toArray, List.set_cons_zero, List.set_cons_succ]
  refine wpAnyG_take (oi := _) (v := _) (fun _ _ hS_ hb_ => ⟨hS_.1.gr hb_, hS_.2.1.gr hb_, hS_.2.2.gr hb_⟩) (i := 21) rfl (by kernel_rfl) (fun _ _ _ h => h) (pureG (by rfl) (by intro w; go_simp; first | done | with_reducible rfl)) ?_
  try simp only [Act.put, List.getElem_toArray, List.getElem_cons_succ, List.getElem_cons_zero, List.setIfInBounds_toArray, List.set_cons_zero, List.set_cons_succ]
  refine wpAnyG_done (by kernel_rfl) ?_ _
  intro w27 hgw27
  try simp only [Act.put, List.getElem_toArray, List.getElem_cons_succ, List.getElem_cons_zero, List.setIfInBounds_toArray, List.set_cons_zero, List.set_cons_succ]
  have E28 := Lib.hid (C23.out.drew.gr hgw27)
  clear C23
  have E29 := Lib.hid (C24.out.drew.gr hgw27)
  clear C24
  have E30 := Lib.hid (C25.out.drew.gr hgw27)
  clear C25
  have hbel31 := hbel26.drew.trans (Below.mono hgw27 hbel26.drew.size)
  clear hbel26
  clear hgw27
  as_aux_lemma =>
  go_wp2_with fail
  go_ret
  exact ⟨rfl, hbel31⟩
end Go.Proofs.Ytbhhpopckchibaa
