/- WideProducts answers true for any numbers and any modulus. No condition but 256 bits. -/
import Derived.Test.YtfffmoolkgheaaaWp5
namespace Go.Proofs.Ytfffmoolkgheaaa
open Go.RowKit
set_option linter.unusedVariables false
set_option linter.unusedSimpArgs false
set_option maxRecDepth 100000 in
set_option maxHeartbeats 3200000 in
theorem products_zero {la lb l8 : List Nat} (hla : la.length = 4) (hlb : lb.length = 4) (hl8 : l8.length = 8)
    (c1 : ∀ w, Calls Try.prog 10 #[] w fun e w' => e = .returned (.bool true) ∧ Below w.heap.size w w')
    (c2 : ∀ w, Calls Try.prog 11 #[.agg (natsV .u64 la).toArray, .agg (natsV .u64 lb).toArray] w fun e w' => e = .returned (.agg (natsV .u64 l8).toArray) ∧ Below w.heap.size w w')
    (c3 : ∀ w, Calls Try.prog 12 #[.agg (natsV .u64 l8).toArray, .agg (natsV .u64 (zeros 4)).toArray] w fun e w' => e = .returned (.tuple #[.agg (natsV .u64 (zeros 8)).toArray, .agg (natsV .u64 (zeros 4)).toArray, .int .i64 42]) ∧ Below w.heap.size w w')
    (c4 : ∀ w, Calls Try.prog 13 #[.agg (natsV .u64 la).toArray, .agg (natsV .u64 lb).toArray, .agg (natsV .u64 (zeros 4)).toArray] w fun e w' => e = .returned (.tuple #[.agg (natsV .u64 (zeros 4)).toArray, .int .i64 42]) ∧ Below w.heap.size w w')
    (c5 : ∀ w, Calls Try.prog 14 #[.agg (natsV .u64 la).toArray, .agg (natsV .u64 lb).toArray] w fun e w' => e = .returned (.agg (natsV .u64 l8).toArray) ∧ Below w.heap.size w w') (w : World) :
    Calls Try.prog 3 #[.agg (natsV .u64 la).toArray, .agg (natsV .u64 lb).toArray, .agg (natsV .u64 (zeros 4)).toArray] w fun e w' => e = .returned (.bool true) ∧ Below w.heap.size w w' := by
  have L_la := Lib.hid hla
  clear hla
  have L_lb := Lib.hid hlb
  clear hlb
  have L_l8 := Lib.hid hl8
  clear hl8
  have Hc1 := Lib.hid c1
  clear c1
  have Hc2 := Lib.hid c2
  clear c2
  have Hc3 := Lib.hid c3
  clear c3
  have Hc4 := Lib.hid c4
  clear c4
  have Hc5 := Lib.hid c5
  clear c5
  have QN := Lib.hid (fun w => (neq26 l8 l8 L_l8.out L_l8.out w).trans (by rw [decide_eq_true rfl, Bool.not_true]))
  have QZ := Lib.hid (fun w => (eqZ24 (zeros 4) rfl w).trans (by rw [decide_eq_true rfl]))
  have Q8 := Lib.hid (fun w => show (binOp .eql 26 (.agg (natsV .u64 (zeros 8)).toArray) (.agg #[.int .u64 0, .int .u64 0, .int .u64 0, .int .u64 0, .int .u64 0, .int .u64 0, .int .u64 0, .int .u64 0])).run Try.prog w = _ from (eql26 (zeros 8) (zeros 8) rfl rfl w).trans (by rw [decide_eq_true rfl]))
  have B0_ := Lib.hid (((Blk.new w  24 (natsV .u64 la)).alloc (.cells (natsV .u64 lb).toArray 24)).alloc (.cells (natsV .u64 (zeros 4)).toArray 24))
  have B1_ := Lib.hid ((Blk.new2 w (.cells (natsV .u64 la).toArray 24) 24 (natsV .u64 lb)).alloc (.cells (natsV .u64 (zeros 4)).toArray 24))
  have B2_ := Lib.hid (Blk.new3 w (.cells (natsV .u64 la).toArray 24) (.cells (natsV .u64 lb).toArray 24) 24 (natsV .u64 (zeros 4)))
  have bel_ := ((((Below.refl w.heap.size w).alloc (Nat.le_refl _) (.cells (natsV .u64 la).toArray 24)).alloc (by simp) (.cells (natsV .u64 lb).toArray 24)).alloc (by simp; omega) (.cells (natsV .u64 (zeros 4)).toArray 24))
  go_enter Try.func3, Try.ntmps3
  go_wp2_with fail
  refine (Hc1.out _).mono ?_
  rintro e w1 ⟨rfl, hbw1⟩
  have C2 := Lib.hid (B0_.out.gr hbw1)
  clear B0_
  have C3 := Lib.hid (B1_.out.gr hbw1)
  clear B1_
  have C4 := Lib.hid (B2_.out.gr hbw1)
  clear B2_
  have hbel5 := bel_.trans (Below.mono hbw1 bel_.size)
  clear bel_
  clear hbw1
  go_wp2_with (first | (refine wpList_load_mid rfl 24 (.tmp 3) rfl w.heap.size 0 rfl (natsV .u64 la) _ (blk_all (C2.out)) Try.underlying24 rfl (i24 L_la.out) ?_) | (refine wpList_load_mid rfl 24 (.tmp 4) rfl (w.heap.size + 1) 0 rfl (natsV .u64 lb) _ (blk_all (C3.out)) Try.underlying24 rfl (i24 L_lb.out) ?_))
  refine (Hc2.out _).mono ?_
  rintro e w6 ⟨rfl, hbw6⟩
  have C7 := Lib.hid (C2.out.gr hbw6)
  clear C2
  have C8 := Lib.hid (C3.out.gr hbw6)
  clear C3
  have C9 := Lib.hid (C4.out.gr hbw6)
  clear C4
  have hbel10 := hbel5.trans (Below.mono hbw6 hbel5.size)
  clear hbel5
  clear hbw6
  go_upto_region 3 with (first | (refine stB rfl 26 (.tmp 8) (.tmp 19) rfl w6.heap.size rfl (natsV .u64 l8) rfl 26 (natsV .u64 (zeros 8)) (Blk.new w6 26 (natsV .u64 (zeros 8))) (i26 L_l8.out) (lenEq (show (natsV .u64 (zeros 8)).length = 8 from rfl) (by rw [natsV_length, L_l8.out])) (natsV_one _ _) ?_; generalize hW : World.setRow _ _ _ = w11; obtain ⟨hgw11, hnw11⟩ := newfacts hW; clear hW; have C14 := Lib.hid (C7.out.gr hgw11); clear C7; have C15 := Lib.hid (C8.out.gr hgw11); clear C8; have C16 := Lib.hid (C9.out.gr hgw11); clear C9; have hbel17 := hbel10.trans (Below.mono hgw11 hbel10.size); clear hbel10; have D13 := Lib.hid hnw11; have szw11 := hgw11.size; clear hnw11 hgw11 szw11; generalize w6.heap.size = G12 at *))
  try simp only [Act.put, List.getElem_toArray, List.getElem_cons_succ, List.getElem_cons_zero, List.setIfInBounds_toArray, List.set_cons_zero, List.set_cons_succ]
  as_aux_lemma =>
  refine wp_region_P (fun w_ => Blk w_ G12 26 (natsV .u64 l8) ∧ Blk w_ (w.heap.size + 1 + 1) 24 (natsV .u64 (zeros 4))) 12 (by kernel_rfl) ⟨D13.out, C16.out⟩ ?_
  refine wpAnyG_take (oi := _) (v := _) (fun _ _ hS_ hb_ => ⟨hS_.1.gr hb_, hS_.2.gr hb_⟩) (i := 0) rfl (by kernel_rfl) (fun _ _ _ h => h) (loadG (by rfl) _ _ rfl _ _ rfl (natsV .u64 l8) _ (fun _ hS_ => blk_all (hS_.1)) Try.underlying26 rfl (i26 L_l8.out)) ?_
  try simp only [Act.put, List.getElem_toArray, List.getElem_cons_succ, List.getElem_cons_zero, List.setIfInBounds_toArray, List.set_cons_zero, List.set_cons_succ]
  refine wpAnyG_take (oi := _) (v := _) (fun _ _ hS_ hb_ => ⟨hS_.1.gr hb_, hS_.2.gr hb_⟩) (i := 1) rfl (by kernel_rfl) (fun _ _ _ h => h) (loadG (by rfl) _ _ rfl _ _ rfl (natsV .u64 (zeros 4)) _ (fun _ hS_ => blk_all (hS_.2)) Try.underlying24 rfl (i24 (show (zeros 4).length = 4 from rfl))) ?_
  try simp only [Act.put, List.getElem_toArray, List.getElem_cons_succ, List.getElem_cons_zero, List.setIfInBounds_toArray, List.set_cons_zero, List.set_cons_succ]
  refine wpAnyG_take (oi := _) (v := _) (fun _ _ hS_ hb_ => ⟨hS_.1.gr hb_, hS_.2.gr hb_⟩) (i := 2) rfl (by kernel_rfl) (fun _ _ _ h => h) (callG (by rfl) rfl Try.func12 (by kernel_rfl) (by kernel_rfl) (#[.agg (natsV .u64 l8).toArray, .agg (natsV .u64 (zeros 4)).toArray]) (by simp [Act.eval]) (fun W_ _ => Hc3.out W_)) ?_
  try simp only [Act.put, List.getElem_toArray, List.getElem_cons_succ, List.getElem_cons_zero, List.setIfInBounds_toArray, List.set_cons_zero, List.set_cons_succ]
  refine wpAnyG_take (oi := _) (v := _) (fun _ _ hS_ hb_ => ⟨hS_.1.gr hb_, hS_.2.gr hb_⟩) (i := 3) rfl (by kernel_rfl) (fun _ _ _ h => h) (pureG (by rfl) (by intro w; go_simp; first | done | with_reducible rfl)) ?_
  try simp only [Act.put, List.getElem_toArray, List.getElem_cons_succ, List.getElem_cons_zero, List.setIfInBounds_toArray, List.set_cons_zero, List.set_cons_succ]
  refine wpAnyG_take (oi := _) (v := _) (fun _ _ hS_ hb_ => ⟨hS_.1.gr hb_, hS_.2.gr hb_⟩) (i := 4) rfl (by kernel_rfl) (fun _ _ _ h => h) (pureG (by rfl) (by intro w; go_simp; first | done | with_reducible rfl)) ?_
  try simp only [Act.put, List.getElem_toArray, List.getElem_cons_succ, List.getElem_cons_zero, List.setIfInBounds_toArray, List.set_cons_zero, List.set_cons_succ]
  refine wpAnyG_take (oi := _) (v := _) (fun _ _ hS_ hb_ => ⟨hS_.1.gr hb_, hS_.2.gr hb_⟩) (i := 5) rfl (by kernel_rfl) (fun _ _ _ h => h) (pureG (by rfl) (by intro w; go_simp; first | done | with_reducible rfl)) ?_
  try simp only [Act.put, List.getElem_toArray, List.getElem_cons_succ, List.getElem_cons_zero, List.setIfInBounds_toArray, List.set_cons_zero, List.set_cons_succ]
  refine wpAnyG_take (oi := _) (v := _) (fun _ _ hS_ hb_ => ⟨hS_.1.gr hb_, hS_.2.gr hb_⟩) (i := 6) rfl (by kernel_rfl) (fun _ _ _ h => h) (pureG (by rfl) (by intro w; go_simp; first | done | with_reducible rfl)) ?_
  try simp only [Act.put, List.getElem_toArray, List.getElem_cons_succ, List.getElem_cons_zero, List.setIfInBounds_toArray, List.set_cons_zero, List.set_cons_succ]
  refine wpAnyG_alloc2 (i := 7) (j := 8) (fun _ _ hS_ hb_ => ⟨hS_.1.gr hb_, hS_.2.gr hb_⟩) (by kernel_rfl) (by kernel_rfl) (by kernel_rfl) (by decide) rfl rfl (allocG (by rfl) rfl _ alloc26) (allocG (by rfl) rfl _ alloc24) (fun _ => allocG (by rfl) rfl _ alloc26) (fun _ => allocG (by rfl) rfl _ alloc24) (fun _ _ => rfl) ?_
  intro w18 G19 G20 hgw18 hz_ hz2_ hne_ hn_ hn2_
  try simp only [Act.put, List.getElem_toArray, List.getElem_cons_succ, List.getElem_cons_zero, List.setIfInBounds_toArray, List.set_cons_zero, List.set_cons_succ]
  have NG21 := Lib.hid (Nat.ne_of_lt (Nat.lt_of_lt_of_le C14.out.lt hz_))
  have NG25 := Lib.hid (Nat.ne_of_lt (Nat.lt_of_lt_of_le C14.out.lt hz2_))
  have NG22 := Lib.hid (Nat.ne_of_lt (Nat.lt_of_lt_of_le C15.out.lt hz_))
  have NG26 := Lib.hid (Nat.ne_of_lt (Nat.lt_of_lt_of_le C15.out.lt hz2_))
  have NG23 := Lib.hid (Nat.ne_of_lt (Nat.lt_of_lt_of_le C16.out.lt hz_))
  have NG27 := Lib.hid (Nat.ne_of_lt (Nat.lt_of_lt_of_le C16.out.lt hz2_))
  have NG24 := Lib.hid (Nat.ne_of_lt (Nat.lt_of_lt_of_le D13.out.lt hz_))
  have NG28 := Lib.hid (Nat.ne_of_lt (Nat.lt_of_lt_of_le D13.out.lt hz2_))
  have GE29 := Lib.hid (Nat.le_trans hbel17.size hz_)
  have GE30 := Lib.hid (Nat.le_trans hbel17.size hz2_)
  have C31 := Lib.hid (C14.out.gr hgw18)
  clear C14
  have C32 := Lib.hid (C15.out.gr hgw18)
  clear C15
  have C33 := Lib.hid (C16.out.gr hgw18)
  clear C16
  have C34 := Lib.hid (D13.out.gr hgw18)
  clear D13
  have hbel35 := hbel17.trans (Below.mono hgw18 hbel17.size)
  clear hbel17
  clear hz_ hz2_ hgw18
  refine wpAnyG_store (i := 9) (by kernel_rfl) rfl hn_ (lenEq (show (natsV .u64 (zeros 8)).length = 8 from rfl) (by rw [natsV_length, (show (zeros 8).length = 8 from rfl)])) (StoresG.mk (cs := (natsV .u64 (zeros 8))) (by rfl) 26 _ _ rfl rfl rfl (i26 (show (zeros 8).length = 8 from rfl)) (natsV_one _ _)) (.inr (fun _ hS_ => ⟨hS_.1.row _ NG24.out, hS_.2.row _ NG23.out⟩)) ?_
  intro w36 hgw36 hn37
  try simp only [Act.put, List.getElem_toArray, List.getElem_cons_succ, List.getElem_cons_zero, List.setIfInBounds_toArray, List.set_cons_zero, List.set_cons_succ]
  have E38 := Lib.hid (C31.out.grown hgw36 (fun e => NG21.out (Option.some.inj e)))
  clear C31
  have E39 := Lib.hid (C32.out.grown hgw36 (fun e => NG22.out (Option.some.inj e)))
  clear C32
  have E40 := Lib.hid (C33.out.grown hgw36 (fun e => NG23.out (Option.some.inj e)))
  clear C33
  have E41 := Lib.hid (C34.out.grown hgw36 (fun e => NG24.out (Option.some.inj e)))
  clear C34
  have hn42 := hn2_.grown hgw36 (fun e => hne_.symm (Option.some.inj e))
  clear hn2_
  have hbel43 := belStore hbel35 hgw36 GE29.out
  clear hgw36
  refine wpAnyG_store (i := 10) (by kernel_rfl) rfl hn42 (lenEq (show (natsV .u64 (zeros 4)).length = 4 from rfl) (by rw [natsV_length, (show (zeros 4).length = 4 from rfl)])) (StoresG.mk (cs := (natsV .u64 (zeros 4))) (by rfl) 24 _ _ rfl rfl rfl (i24 (show (zeros 4).length = 4 from rfl)) (natsV_one _ _)) (.inr (fun _ hS_ => ⟨hS_.1.row _ NG28.out, hS_.2.row _ NG27.out⟩)) ?_
  intro w44 hgw44 hn45
  try simp only [Act.put, List.getElem_toArray, List.getElem_cons_succ, List.getElem_cons_zero, List.setIfInBounds_toArray, List.set_cons_zero, List.set_cons_succ]
  have E46 := Lib.hid (E38.out.grown hgw44 (fun e => NG25.out (Option.some.inj e)))
  clear E38
  have E47 := Lib.hid (E39.out.grown hgw44 (fun e => NG26.out (Option.some.inj e)))
  clear E39
  have E48 := Lib.hid (E40.out.grown hgw44 (fun e => NG27.out (Option.some.inj e)))
  clear E40
  have E49 := Lib.hid (E41.out.grown hgw44 (fun e => NG28.out (Option.some.inj e)))
  clear E41
  have hn50 := hn37.grown hgw44 (fun e => hne_ (Option.some.inj e))
  clear hn37
  have hbel51 := belStore hbel43 hgw44 GE30.out
  clear hgw44
  have D52 := Lib.hid hn50
  have D53 := Lib.hid hn45
  clear hn50 hn45
  refine wpAnyG_take (oi := _) (v := _) (fun _ _ hS_ hb_ => ⟨hS_.1.gr hb_, hS_.2.gr hb_⟩) (i := 11) rfl (by kernel_rfl) (fun _ _ _ h => h) (pureG (by rfl) (by intro w; go_simp; first | done | with_reducible rfl)) ?_
  try simp only [Act.put, List.getElem_toArray, List.getElem_cons_succ, List.getElem_cons_zero, List.setIfInBounds_toArray, List.set_cons_zero, List.set_cons_succ]
  refine wpAnyG_done (by kernel_rfl) ?_ _
  intro w54 hgw54
  try simp only [Act.put, List.getElem_toArray, List.getElem_cons_succ, List.getElem_cons_zero, List.setIfInBounds_toArray, List.set_cons_zero, List.set_cons_succ]
  have C55 := Lib.hid (E46.out.gr hgw54)
  clear E46
  have C56 := Lib.hid (E47.out.gr hgw54)
  clear E47
  have C57 := Lib.hid (E48.out.gr hgw54)
  clear E48
  have C58 := Lib.hid (E49.out.gr hgw54)
  clear E49
  have C59 := Lib.hid (D52.out.gr hgw54)
  clear D52
  have C60 := Lib.hid (D53.out.gr hgw54)
  clear D53
  have hbel61 := hbel51.trans (Below.mono hgw54 hbel51.size)
  clear hbel51
  clear hgw54 hne_
  as_aux_lemma =>
  go_wp2_with (first | (refine wpList_load_mid rfl 24 (.tmp 3) rfl w.heap.size 0 rfl (natsV .u64 la) _ (blk_all (C55.out)) Try.underlying24 rfl (i24 L_la.out) ?_) | (refine wpList_load_mid rfl 24 (.tmp 4) rfl (w.heap.size + 1) 0 rfl (natsV .u64 lb) _ (blk_all (C56.out)) Try.underlying24 rfl (i24 L_lb.out) ?_) | (refine wpList_load_mid rfl 24 (.tmp 5) rfl (w.heap.size + 1 + 1) 0 rfl (natsV .u64 (zeros 4)) _ (blk_all (C57.out)) Try.underlying24 rfl (i24 (show (zeros 4).length = 4 from rfl)) ?_))
  refine (Hc4.out _).mono ?_
  rintro e w62 ⟨rfl, hbw62⟩
  have C63 := Lib.hid (C55.out.gr hbw62)
  clear C55
  have C64 := Lib.hid (C56.out.gr hbw62)
  clear C56
  have C65 := Lib.hid (C57.out.gr hbw62)
  clear C57
  have C66 := Lib.hid (C58.out.gr hbw62)
  clear C58
  have C67 := Lib.hid (C59.out.gr hbw62)
  clear C59
  have C68 := Lib.hid (C60.out.gr hbw62)
  clear C60
  have hbel69 := hbel61.trans (Below.mono hbw62 hbel61.size)
  clear hbel61
  clear hbw62
  go_wp2_with (first | (refine stB rfl 24 (.tmp 12) (.tmp 32) rfl w62.heap.size rfl (natsV .u64 (zeros 4)) rfl 24 (natsV .u64 (zeros 4)) (Blk.new w62 24 (natsV .u64 (zeros 4))) (i24 (show (zeros 4).length = 4 from rfl)) (lenEq (show (natsV .u64 (zeros 4)).length = 4 from rfl) (by rw [natsV_length, (show (zeros 4).length = 4 from rfl)])) (natsV_one _ _) ?_; generalize hW : World.setRow _ _ _ = w70; obtain ⟨hgw70, hnw70⟩ := newfacts hW; clear hW; have C73 := Lib.hid (C63.out.gr hgw70); clear C63; have C74 := Lib.hid (C64.out.gr hgw70); clear C64; have C75 := Lib.hid (C65.out.gr hgw70); clear C65; have C76 := Lib.hid (C66.out.gr hgw70); clear C66; have C77 := Lib.hid (C67.out.gr hgw70); clear C67; have C78 := Lib.hid (C68.out.gr hgw70); clear C68; have hbel79 := hbel69.trans (Below.mono hgw70 hbel69.size); clear hbel69; have D72 := Lib.hid hnw70; have szw70 := hgw70.size; clear hnw70 hgw70 szw70; generalize w62.heap.size = G71 at *))
  as_aux_lemma =>
  refine wp_region_G (fun w_ => Blk w_ G12 26 (natsV .u64 l8) ∧ Blk w_ w.heap.size 24 (natsV .u64 la) ∧ Blk w_ (w.heap.size + 1) 24 (natsV .u64 lb)) 9 (by kernel_rfl) ⟨C76.out.drew, C73.out.drew, C74.out.drew⟩ ?_
  refine wpAnyG_take (oi := _) (v := _) (fun _ _ hS_ hb_ => ⟨hS_.1.gr hb_, hS_.2.1.gr hb_, hS_.2.2.gr hb_⟩) (i := 0) rfl (by kernel_rfl) (fun _ _ _ h => h) (pureG (by rfl) (by intro w; go_simp; first | done | with_reducible rfl)) ?_
  try simp only [Act.put, List.getElem_toArray, List.getElem_cons_succ, List.getElem_cons_zero, List.setIfInBounds_toArray, List.set_cons_zero, List.set_cons_succ]
  refine wpAnyG_take (oi := _) (v := _) (fun _ _ hS_ hb_ => ⟨hS_.1.gr hb_, hS_.2.1.gr hb_, hS_.2.2.gr hb_⟩) (i := 1) rfl (by kernel_rfl) (fun _ _ _ h => h) (pureG (by rfl) (by intro w; go_simp; first | done | with_reducible rfl)) ?_
  try simp only [Act.put, List.getElem_toArray, List.getElem_cons_succ, List.getElem_cons_zero, List.setIfInBounds_toArray, List.set_cons_zero, List.set_cons_succ]
  refine wpAnyG_take (oi := _) (v := _) (fun _ _ hS_ hb_ => ⟨hS_.1.gr hb_, hS_.2.1.gr hb_, hS_.2.2.gr hb_⟩) (i := 2) rfl (by kernel_rfl) (fun _ _ _ h => h) (pureG (by rfl) (by intro w; go_simp; first | done | with_reducible rfl)) ?_
  try simp only [Act.put, List.getElem_toArray, List.getElem_cons_succ, List.getElem_cons_zero, List.setIfInBounds_toArray, List.set_cons_zero, List.set_cons_succ]
  refine wpAnyG_take (oi := _) (v := _) (fun _ _ hS_ hb_ => ⟨hS_.1.gr hb_, hS_.2.1.gr hb_, hS_.2.2.gr hb_⟩) (i := 3) rfl (by kernel_rfl) (fun _ _ _ h => h) (loadG (by rfl) _ _ rfl _ _ rfl (natsV .u64 l8) _ (fun _ hS_ => blk_all (hS_.1)) Try.underlying26 rfl (i26 L_l8.out)) ?_
  try simp only [Act.put, List.getElem_toArray, List.getElem_cons_succ, List.getElem_cons_zero, List.setIfInBounds_toArray, List.set_cons_zero, List.set_cons_succ]
  refine wpAnyG_take (oi := _) (v := _) (fun _ _ hS_ hb_ => ⟨hS_.1.gr hb_, hS_.2.1.gr hb_, hS_.2.2.gr hb_⟩) (i := 4) rfl (by kernel_rfl) (fun _ _ _ h => h) (loadG (by rfl) _ _ rfl _ _ rfl (natsV .u64 la) _ (fun _ hS_ => blk_all (hS_.2.1)) Try.underlying24 rfl (i24 L_la.out)) ?_
  try simp only [Act.put, List.getElem_toArray, List.getElem_cons_succ, List.getElem_cons_zero, List.setIfInBounds_toArray, List.set_cons_zero, List.set_cons_succ]
  refine wpAnyG_take (oi := _) (v := _) (fun _ _ hS_ hb_ => ⟨hS_.1.gr hb_, hS_.2.1.gr hb_, hS_.2.2.gr hb_⟩) (i := 5) rfl (by kernel_rfl) (fun _ _ _ h => h) (loadG (by rfl) _ _ rfl _ _ rfl (natsV .u64 lb) _ (fun _ hS_ => blk_all (hS_.2.2)) Try.underlying24 rfl (i24 L_lb.out)) ?_
  try simp only [Act.put, List.getElem_toArray, List.getElem_cons_succ, List.getElem_cons_zero, List.setIfInBounds_toArray, List.set_cons_zero, List.set_cons_succ]
  refine wpAnyG_take (oi := _) (v := _) (fun _ _ hS_ hb_ => ⟨hS_.1.gr hb_, hS_.2.1.gr hb_, hS_.2.2.gr hb_⟩) (i := 6) rfl (by kernel_rfl) (fun _ _ _ h => h) (callG (by rfl) rfl Try.func14 (by kernel_rfl) (by kernel_rfl) (#[.agg (natsV .u64 la).toArray, .agg (natsV .u64 lb).toArray]) (by simp [Act.eval]) (fun W_ _ => Hc5.out W_)) ?_
  try simp only [Act.put, List.getElem_toArray, List.getElem_cons_succ, List.getElem_cons_zero, List.setIfInBounds_toArray, List.set_cons_zero, List.set_cons_succ]
  refine wpAnyG_take (oi := _) (v := _) (fun _ _ hS_ hb_ => ⟨hS_.1.gr hb_, hS_.2.1.gr hb_, hS_.2.2.gr hb_⟩) (i := 7) rfl (by kernel_rfl) (fun _ _ _ h => h) (pureG (by rfl) (by intro w; have q := QN.out; go_simp; first | done | with_reducible rfl)) ?_
  try simp only [Act.put, List.getElem_toArray, List.getElem_cons_succ, List.getElem_cons_zero, List.setIfInBounds_toArray, List.set_cons_zero, List.set_cons_succ]
  refine wpAnyG_take (oi := _) (v := _) (fun _ _ hS_ hb_ => ⟨hS_.1.gr hb_, hS_.2.1.gr hb_, hS_.2.2.gr hb_⟩) (i := 8) rfl (by kernel_rfl) (fun _ _ _ h => h) (pureG (by rfl) (by intro w; go_simp; first | done | with_reducible rfl)) ?_
  try simp only [Act.put, List.getElem_toArray, List.getElem_cons_succ, List.getElem_cons_zero, List.setIfInBounds_toArray, List.set_cons_zero, List.set_cons_succ]
  refine wpAnyG_done (by kernel_rfl) ?_ _
  intro w80 hgw80
  try simp only [Act.put, List.getElem_toArray, List.getElem_cons_succ, List.getElem_cons_zero, List.setIfInBounds_toArray, List.set_cons_zero, List.set_cons_succ]
  have E81 := Lib.hid (C73.out.drew.gr hgw80)
  clear C73
  have E82 := Lib.hid (C74.out.drew.gr hgw80)
  clear C74
  have E83 := Lib.hid (C75.out.drew.gr hgw80)
  clear C75
  have E84 := Lib.hid (C76.out.drew.gr hgw80)
  clear C76
  have E85 := Lib.hid (C77.out.drew.gr hgw80)
  clear C77
  have E86 := Lib.hid (C78.out.drew.gr hgw80)
  clear C78
  have E87 := Lib.hid (D72.out.drew.gr hgw80)
  clear D72
  have hbel88 := hbel79.drew.trans (Below.mono hgw80 hbel79.drew.size)
  clear hbel79
  clear hgw80
  as_aux_lemma =>
  have qz := QZ.out
  have fq8 := Q8.out
  go_wp2_with (first | (refine wpList_load_mid rfl 24 (.tmp 5) rfl (w.heap.size + 1 + 1) 0 rfl (natsV .u64 (zeros 4)) _ (blk_all (E83.out)) Try.underlying24 rfl (i24 (show (zeros 4).length = 4 from rfl)) ?_) | (refine ldwM 26 (.tmp 9) rfl G19 0 rfl (natsV .u64 (zeros 8)) _ (blk_all (E85.out)) Try.underlying26 rfl (i26 (show (zeros 8).length = 8 from rfl)) 6 true rfl 52 rfl rfl ?_) | (refine ldwM 24 (.tmp 10) rfl G20 0 rfl (natsV .u64 (zeros 4)) _ (blk_all (E86.out)) Try.underlying24 rfl (i24 (show (zeros 4).length = 4 from rfl)) 11 true rfl 57 rfl rfl ?_) | (refine ldwM 24 (.tmp 12) rfl G71 0 rfl (natsV .u64 (zeros 4)) _ (blk_all (E87.out)) Try.underlying24 rfl (i24 (show (zeros 4).length = 4 from rfl)) 16 true rfl 62 rfl rfl ?_))
  go_ret
  exact ⟨rfl, hbel88⟩
set_option maxRecDepth 100000 in
set_option maxHeartbeats 3200000 in
theorem products_ok {la lb lm l8 q8 lr : List Nat} (hla : la.length = 4) (hlb : lb.length = 4) (hlm : lm.length = 4) (hl8 : l8.length = 8) (hq8 : q8.length = 8) (hlr : lr.length = 4)
    (c1 : ∀ w, Calls Try.prog 10 #[] w fun e w' => e = .returned (.bool true) ∧ Below w.heap.size w w')
    (c2 : ∀ w, Calls Try.prog 11 #[.agg (natsV .u64 la).toArray, .agg (natsV .u64 lb).toArray] w fun e w' => e = .returned (.agg (natsV .u64 l8).toArray) ∧ Below w.heap.size w w')
    (c3 : ∀ w, Calls Try.prog 12 #[.agg (natsV .u64 l8).toArray, .agg (natsV .u64 lm).toArray] w fun e w' => e = .returned (.tuple #[.agg (natsV .u64 q8).toArray, .agg (natsV .u64 lr).toArray, .int .i64 0]) ∧ Below w.heap.size w w')
    (c4 : ∀ w, Calls Try.prog 13 #[.agg (natsV .u64 la).toArray, .agg (natsV .u64 lb).toArray, .agg (natsV .u64 lm).toArray] w fun e w' => e = .returned (.tuple #[.agg (natsV .u64 lr).toArray, .int .i64 0]) ∧ Below w.heap.size w w')
    (c5 : ∀ w, Calls Try.prog 14 #[.agg (natsV .u64 la).toArray, .agg (natsV .u64 lb).toArray] w fun e w' => e = .returned (.agg (natsV .u64 l8).toArray) ∧ Below w.heap.size w w')
    (c6 : ∀ w, Calls Try.prog 15 #[.agg (natsV .u64 l8).toArray, .agg (natsV .u64 lm).toArray] w fun e w' => e = .returned (.tuple #[.agg (natsV .u64 q8).toArray, .agg (natsV .u64 lr).toArray]) ∧ Below w.heap.size w w') (hz : ¬ lm = zeros 4) (w : World) :
    Calls Try.prog 3 #[.agg (natsV .u64 la).toArray, .agg (natsV .u64 lb).toArray, .agg (natsV .u64 lm).toArray] w fun e w' => e = .returned (.bool true) ∧ Below w.heap.size w w' := by
  have L_la := Lib.hid hla
  clear hla
  have L_lb := Lib.hid hlb
  clear hlb
  have L_lm := Lib.hid hlm
  clear hlm
  have L_l8 := Lib.hid hl8
  clear hl8
  have L_q8 := Lib.hid hq8
  clear hq8
  have L_lr := Lib.hid hlr
  clear hlr
  have Hc1 := Lib.hid c1
  clear c1
  have Hc2 := Lib.hid c2
  clear c2
  have Hc3 := Lib.hid c3
  clear c3
  have Hc4 := Lib.hid c4
  clear c4
  have Hc5 := Lib.hid c5
  clear c5
  have Hc6 := Lib.hid c6
  clear c6
  have QN := Lib.hid (fun w => (neq26 l8 l8 L_l8.out L_l8.out w).trans (by rw [decide_eq_true rfl, Bool.not_true]))
  have QZ := Lib.hid (fun w => (eqZ24 lm L_lm.out w).trans (by rw [decide_eq_false hz]))
  clear hz
  have Q8 := Lib.hid (fun w => (eql26 q8 q8 L_q8.out L_q8.out w).trans (by rw [decide_eq_true rfl]))
  have Q4 := Lib.hid (fun w => (eql24 lr lr L_lr.out L_lr.out w).trans (by rw [decide_eq_true rfl]))
  have B0_ := Lib.hid (((Blk.new w  24 (natsV .u64 la)).alloc (.cells (natsV .u64 lb).toArray 24)).alloc (.cells (natsV .u64 lm).toArray 24))
  have B1_ := Lib.hid ((Blk.new2 w (.cells (natsV .u64 la).toArray 24) 24 (natsV .u64 lb)).alloc (.cells (natsV .u64 lm).toArray 24))
  have B2_ := Lib.hid (Blk.new3 w (.cells (natsV .u64 la).toArray 24) (.cells (natsV .u64 lb).toArray 24) 24 (natsV .u64 lm))
  have bel_ := ((((Below.refl w.heap.size w).alloc (Nat.le_refl _) (.cells (natsV .u64 la).toArray 24)).alloc (by simp) (.cells (natsV .u64 lb).toArray 24)).alloc (by simp; omega) (.cells (natsV .u64 lm).toArray 24))
  go_enter Try.func3, Try.ntmps3
  go_wp2_with fail
  refine (Hc1.out _).mono ?_
  rintro e w1 ⟨rfl, hbw1⟩
  have C2 := Lib.hid (B0_.out.gr hbw1)
  clear B0_
  have C3 := Lib.hid (B1_.out.gr hbw1)
  clear B1_
  have C4 := Lib.hid (B2_.out.gr hbw1)
  clear B2_
  have hbel5 := bel_.trans (Below.mono hbw1 bel_.size)
  clear bel_
  clear hbw1
  go_wp2_with (first | (refine wpList_load_mid rfl 24 (.tmp 3) rfl w.heap.size 0 rfl (natsV .u64 la) _ (blk_all (C2.out)) Try.underlying24 rfl (i24 L_la.out) ?_) | (refine wpList_load_mid rfl 24 (.tmp 4) rfl (w.heap.size + 1) 0 rfl (natsV .u64 lb) _ (blk_all (C3.out)) Try.underlying24 rfl (i24 L_lb.out) ?_))
  refine (Hc2.out _).mono ?_
  rintro e w6 ⟨rfl, hbw6⟩
  have C7 := Lib.hid (C2.out.gr hbw6)
  clear C2
  have C8 := Lib.hid (C3.out.gr hbw6)
  clear C3
  have C9 := Lib.hid (C4.out.gr hbw6)
  clear C4
  have hbel10 := hbel5.trans (Below.mono hbw6 hbel5.size)
  clear hbel5
  clear hbw6
  go_upto_region 3 with (first | (refine stB rfl 26 (.tmp 8) (.tmp 19) rfl w6.heap.size rfl (natsV .u64 l8) rfl 26 (natsV .u64 (zeros 8)) (Blk.new w6 26 (natsV .u64 (zeros 8))) (i26 L_l8.out) (lenEq (show (natsV .u64 (zeros 8)).length = 8 from rfl) (by rw [natsV_length, L_l8.out])) (natsV_one _ _) ?_; generalize hW : World.setRow _ _ _ = w11; obtain ⟨hgw11, hnw11⟩ := newfacts hW; clear hW; have C14 := Lib.hid (C7.out.gr hgw11); clear C7; have C15 := Lib.hid (C8.out.gr hgw11); clear C8; have C16 := Lib.hid (C9.out.gr hgw11); clear C9; have hbel17 := hbel10.trans (Below.mono hgw11 hbel10.size); clear hbel10; have D13 := Lib.hid hnw11; have szw11 := hgw11.size; clear hnw11 hgw11 szw11; generalize w6.heap.size = G12 at *))
  try simp only [Act.put, List.getElem_toArray, List.getElem_cons_succ, List.getElem_cons_zero, List.setIfInBounds_toArray, List.set_cons_zero, List.set_cons_succ]
  as_aux_lemma =>
  refine wp_region_P (fun w_ => Blk w_ G12 26 (natsV .u64 l8) ∧ Blk w_ (w.heap.size + 1 + 1) 24 (natsV .u64 lm)) 12 (by kernel_rfl) ⟨D13.out, C16.out⟩ ?_
  refine wpAnyG_take (oi := _) (v := _) (fun _ _ hS_ hb_ => ⟨hS_.1.gr hb_, hS_.2.gr hb_⟩) (i := 0) rfl (by kernel_rfl) (fun _ _ _ h => h) (loadG (by rfl) _ _ rfl _ _ rfl (natsV .u64 l8) _ (fun _ hS_ => blk_all (hS_.1)) Try.underlying26 rfl (i26 L_l8.out)) ?_
  try simp only [Act.put, List.getElem_toArray, List.getElem_cons_succ, List.getElem_cons_zero, List.setIfInBounds_toArray, List.set_cons_zero, List.set_cons_succ]
  refine wpAnyG_take (oi := _) (v := _) (fun _ _ hS_ hb_ => ⟨hS_.1.gr hb_, hS_.2.gr hb_⟩) (i := 1) rfl (by kernel_rfl) (fun _ _ _ h => h) (loadG (by rfl) _ _ rfl _ _ rfl (natsV .u64 lm) _ (fun _ hS_ => blk_all (hS_.2)) Try.underlying24 rfl (i24 L_lm.out)) ?_
  try simp only [Act.put, List.getElem_toArray, List.getElem_cons_succ, List.getElem_cons_zero, List.setIfInBounds_toArray, List.set_cons_zero, List.set_cons_succ]
  refine wpAnyG_take (oi := _) (v := _) (fun _ _ hS_ hb_ => ⟨hS_.1.gr hb_, hS_.2.gr hb_⟩) (i := 2) rfl (by kernel_rfl) (fun _ _ _ h => h) (callG (by rfl) rfl Try.func12 (by kernel_rfl) (by kernel_rfl) (#[.agg (natsV .u64 l8).toArray, .agg (natsV .u64 lm).toArray]) (by simp [Act.eval]) (fun W_ _ => Hc3.out W_)) ?_
  try simp only [Act.put, List.getElem_toArray, List.getElem_cons_succ, List.getElem_cons_zero, List.setIfInBounds_toArray, List.set_cons_zero, List.set_cons_succ]
  refine wpAnyG_take (oi := _) (v := _) (fun _ _ hS_ hb_ => ⟨hS_.1.gr hb_, hS_.2.gr hb_⟩) (i := 3) rfl (by kernel_rfl) (fun _ _ _ h => h) (pureG (by rfl) (by intro w; go_simp; first | done | with_reducible rfl)) ?_
  try simp only [Act.put, List.getElem_toArray, List.getElem_cons_succ, List.getElem_cons_zero, List.setIfInBounds_toArray, List.set_cons_zero, List.set_cons_succ]
  refine wpAnyG_take (oi := _) (v := _) (fun _ _ hS_ hb_ => ⟨hS_.1.gr hb_, hS_.2.gr hb_⟩) (i := 4) rfl (by kernel_rfl) (fun _ _ _ h => h) (pureG (by rfl) (by intro w; go_simp; first | done | with_reducible rfl)) ?_
  try simp only [Act.put, List.getElem_toArray, List.getElem_cons_succ, List.getElem_cons_zero, List.setIfInBounds_toArray, List.set_cons_zero, List.set_cons_succ]
  refine wpAnyG_take (oi := _) (v := _) (fun _ _ hS_ hb_ => ⟨hS_.1.gr hb_, hS_.2.gr hb_⟩) (i := 5) rfl (by kernel_rfl) (fun _ _ _ h => h) (pureG (by rfl) (by intro w; go_simp; first | done | with_reducible rfl)) ?_
  try simp only [Act.put, List.getElem_toArray, List.getElem_cons_succ, List.getElem_cons_zero, List.setIfInBounds_toArray, List.set_cons_zero, List.set_cons_succ]
  refine wpAnyG_take (oi := _) (v := _) (fun _ _ hS_ hb_ => ⟨hS_.1.gr hb_, hS_.2.gr hb_⟩) (i := 6) rfl (by kernel_rfl) (fun _ _ _ h => h) (pureG (by rfl) (by intro w; go_simp; first | done | with_reducible rfl)) ?_
  try simp only [Act.put, List.getElem_toArray, List.getElem_cons_succ, List.getElem_cons_zero, List.setIfInBounds_toArray, List.set_cons_zero, List.set_cons_succ]
  refine wpAnyG_alloc2 (i := 7) (j := 8) (fun _ _ hS_ hb_ => ⟨hS_.1.gr hb_, hS_.2.gr hb_⟩) (by kernel_rfl) (by kernel_rfl) (by kernel_rfl) (by decide) rfl rfl (allocG (by rfl) rfl _ alloc26) (allocG (by rfl) rfl _ alloc24) (fun _ => allocG (by rfl) rfl _ alloc26) (fun _ => allocG (by rfl) rfl _ alloc24) (fun _ _ => rfl) ?_
  intro w18 G19 G20 hgw18 hz_ hz2_ hne_ hn_ hn2_
  try simp only [Act.put, List.getElem_toArray, List.getElem_cons_succ, List.getElem_cons_zero, List.setIfInBounds_toArray, List.set_cons_zero, List.set_cons_succ]
  have NG21 := Lib.hid (Nat.ne_of_lt (Nat.lt_of_lt_of_le C14.out.lt hz_))
  have NG25 := Lib.hid (Nat.ne_of_lt (Nat.lt_of_lt_of_le C14.out.lt hz2_))
  have NG22 := Lib.hid (Nat.ne_of_lt (Nat.lt_of_lt_of_le C15.out.lt hz_))
  have NG26 := Lib.hid (Nat.ne_of_lt (Nat.lt_of_lt_of_le C15.out.lt hz2_))
  have NG23 := Lib.hid (Nat.ne_of_lt (Nat.lt_of_lt_of_le C16.out.lt hz_))
  have NG27 := Lib.hid (Nat.ne_of_lt (Nat.lt_of_lt_of_le C16.out.lt hz2_))
  have NG24 := Lib.hid (Nat.ne_of_lt (Nat.lt_of_lt_of_le D13.out.lt hz_))
  have NG28 := Lib.hid (Nat.ne_of_lt (Nat.lt_of_lt_of_le D13.out.lt hz2_))
  have GE29 := Lib.hid (Nat.le_trans hbel17.size hz_)
  have GE30 := Lib.hid (Nat.le_trans hbel17.size hz2_)
  have C31 := Lib.hid (C14.out.gr hgw18)
  clear C14
  have C32 := Lib.hid (C15.out.gr hgw18)
  clear C15
  have C33 := Lib.hid (C16.out.gr hgw18)
  clear C16
  have C34 := Lib.hid (D13.out.gr hgw18)
  clear D13
  have hbel35 := hbel17.trans (Below.mono hgw18 hbel17.size)
  clear hbel17
  clear hz_ hz2_ hgw18
  refine wpAnyG_store (i := 9) (by kernel_rfl) rfl hn_ (lenEq (show (natsV .u64 (zeros 8)).length = 8 from rfl) (by rw [natsV_length, L_q8.out])) (StoresG.mk (cs := (natsV .u64 q8)) (by rfl) 26 _ _ rfl rfl rfl (i26 L_q8.out) (natsV_one _ _)) (.inr (fun _ hS_ => ⟨hS_.1.row _ NG24.out, hS_.2.row _ NG23.out⟩)) ?_
  intro w36 hgw36 hn37
  try simp only [Act.put, List.getElem_toArray, List.getElem_cons_succ, List.getElem_cons_zero, List.setIfInBounds_toArray, List.set_cons_zero, List.set_cons_succ]
  have E38 := Lib.hid (C31.out.grown hgw36 (fun e => NG21.out (Option.some.inj e)))
  clear C31
  have E39 := Lib.hid (C32.out.grown hgw36 (fun e => NG22.out (Option.some.inj e)))
  clear C32
  have E40 := Lib.hid (C33.out.grown hgw36 (fun e => NG23.out (Option.some.inj e)))
  clear C33
  have E41 := Lib.hid (C34.out.grown hgw36 (fun e => NG24.out (Option.some.inj e)))
  clear C34
  have hn42 := hn2_.grown hgw36 (fun e => hne_.symm (Option.some.inj e))
  clear hn2_
  have hbel43 := belStore hbel35 hgw36 GE29.out
  clear hgw36
  refine wpAnyG_store (i := 10) (by kernel_rfl) rfl hn42 (lenEq (show (natsV .u64 (zeros 4)).length = 4 from rfl) (by rw [natsV_length, L_lr.out])) (StoresG.mk (cs := (natsV .u64 lr)) (by rfl) 24 _ _ rfl rfl rfl (i24 L_lr.out) (natsV_one _ _)) (.inr (fun _ hS_ => ⟨hS_.1.row _ NG28.out, hS_.2.row _ NG27.out⟩)) ?_
  intro w44 hgw44 hn45
  try simp only [Act.put, List.getElem_toArray, List.getElem_cons_succ, List.getElem_cons_zero, List.setIfInBounds_toArray, List.set_cons_zero, List.set_cons_succ]
  have E46 := Lib.hid (E38.out.grown hgw44 (fun e => NG25.out (Option.some.inj e)))
  clear E38
  have E47 := Lib.hid (E39.out.grown hgw44 (fun e => NG26.out (Option.some.inj e)))
  clear E39
  have E48 := Lib.hid (E40.out.grown hgw44 (fun e => NG27.out (Option.some.inj e)))
  clear E40
  have E49 := Lib.hid (E41.out.grown hgw44 (fun e => NG28.out (Option.some.inj e)))
  clear E41
  have hn50 := hn37.grown hgw44 (fun e => hne_ (Option.some.inj e))
  clear hn37
  have hbel51 := belStore hbel43 hgw44 GE30.out
  clear hgw44
  have D52 := Lib.hid hn50
  have D53 := Lib.hid hn45
  clear hn50 hn45
  refine wpAnyG_take (oi := _) (v := _) (fun _ _ hS_ hb_ => ⟨hS_.1.gr hb_, hS_.2.gr hb_⟩) (i := 11) rfl (by kernel_rfl) (fun _ _ _ h => h) (pureG (by rfl) (by intro w; go_simp; first | done | with_reducible rfl)) ?_
  try simp only [Act.put, List.getElem_toArray, List.getElem_cons_succ, List.getElem_cons_zero, List.setIfInBounds_toArray, List.set_cons_zero, List.set_cons_succ]
  refine wpAnyG_done (by kernel_rfl) ?_ _
  intro w54 hgw54
  try simp only [Act.put, List.getElem_toArray, List.getElem_cons_succ, List.getElem_cons_zero, List.setIfInBounds_toArray, List.set_cons_zero, List.set_cons_succ]
  have C55 := Lib.hid (E46.out.gr hgw54)
  clear E46
  have C56 := Lib.hid (E47.out.gr hgw54)
  clear E47
  have C57 := Lib.hid (E48.out.gr hgw54)
  clear E48
  have C58 := Lib.hid (E49.out.gr hgw54)
  clear E49
  have C59 := Lib.hid (D52.out.gr hgw54)
  clear D52
  have C60 := Lib.hid (D53.out.gr hgw54)
  clear D53
  have hbel61 := hbel51.trans (Below.mono hgw54 hbel51.size)
  clear hbel51
  clear hgw54 hne_
  as_aux_lemma =>
  go_wp2_with (first | (refine wpList_load_mid rfl 24 (.tmp 3) rfl w.heap.size 0 rfl (natsV .u64 la) _ (blk_all (C55.out)) Try.underlying24 rfl (i24 L_la.out) ?_) | (refine wpList_load_mid rfl 24 (.tmp 4) rfl (w.heap.size + 1) 0 rfl (natsV .u64 lb) _ (blk_all (C56.out)) Try.underlying24 rfl (i24 L_lb.out) ?_) | (refine wpList_load_mid rfl 24 (.tmp 5) rfl (w.heap.size + 1 + 1) 0 rfl (natsV .u64 lm) _ (blk_all (C57.out)) Try.underlying24 rfl (i24 L_lm.out) ?_))
  refine (Hc4.out _).mono ?_
  rintro e w62 ⟨rfl, hbw62⟩
  have C63 := Lib.hid (C55.out.gr hbw62)
  clear C55
  have C64 := Lib.hid (C56.out.gr hbw62)
  clear C56
  have C65 := Lib.hid (C57.out.gr hbw62)
  clear C57
  have C66 := Lib.hid (C58.out.gr hbw62)
  clear C58
  have C67 := Lib.hid (C59.out.gr hbw62)
  clear C59
  have C68 := Lib.hid (C60.out.gr hbw62)
  clear C60
  have hbel69 := hbel61.trans (Below.mono hbw62 hbel61.size)
  clear hbel61
  clear hbw62
  go_wp2_with (first | (refine stB rfl 24 (.tmp 12) (.tmp 32) rfl w62.heap.size rfl (natsV .u64 lr) rfl 24 (natsV .u64 (zeros 4)) (Blk.new w62 24 (natsV .u64 (zeros 4))) (i24 L_lr.out) (lenEq (show (natsV .u64 (zeros 4)).length = 4 from rfl) (by rw [natsV_length, L_lr.out])) (natsV_one _ _) ?_; generalize hW : World.setRow _ _ _ = w70; obtain ⟨hgw70, hnw70⟩ := newfacts hW; clear hW; have C73 := Lib.hid (C63.out.gr hgw70); clear C63; have C74 := Lib.hid (C64.out.gr hgw70); clear C64; have C75 := Lib.hid (C65.out.gr hgw70); clear C65; have C76 := Lib.hid (C66.out.gr hgw70); clear C66; have C77 := Lib.hid (C67.out.gr hgw70); clear C67; have C78 := Lib.hid (C68.out.gr hgw70); clear C68; have hbel79 := hbel69.trans (Below.mono hgw70 hbel69.size); clear hbel69; have D72 := Lib.hid hnw70; have szw70 := hgw70.size; clear hnw70 hgw70 szw70; generalize w62.heap.size = G71 at *))
  as_aux_lemma =>
  refine wp_region_G (fun w_ => Blk w_ G12 26 (natsV .u64 l8) ∧ Blk w_ w.heap.size 24 (natsV .u64 la) ∧ Blk w_ (w.heap.size + 1) 24 (natsV .u64 lb)) 9 (by kernel_rfl) ⟨C76.out.drew, C73.out.drew, C74.out.drew⟩ ?_
  refine wpAnyG_take (oi := _) (v := _) (fun _ _ hS_ hb_ => ⟨hS_.1.gr hb_, hS_.2.1.gr hb_, hS_.2.2.gr hb_⟩) (i := 0) rfl (by kernel_rfl) (fun _ _ _ h => h) (pureG (by rfl) (by intro w; go_simp; first | done | with_reducible rfl)) ?_
  try simp only [Act.put, List.getElem_toArray, List.getElem_cons_succ, List.getElem_cons_zero, List.setIfInBounds_toArray, List.set_cons_zero, List.set_cons_succ]
  refine wpAnyG_take (oi := _) (v := _) (fun _ _ hS_ hb_ => ⟨hS_.1.gr hb_, hS_.2.1.gr hb_, hS_.2.2.gr hb_⟩) (i := 1) rfl (by kernel_rfl) (fun _ _ _ h => h) (pureG (by rfl) (by intro w; go_simp; first | done | with_reducible rfl)) ?_
  try simp only [Act.put, List.getElem_toArray, List.getElem_cons_succ, List.getElem_cons_zero, List.setIfInBounds_toArray, List.set_cons_zero, List.set_cons_succ]
  refine wpAnyG_take (oi := _) (v := _) (fun _ _ hS_ hb_ => ⟨hS_.1.gr hb_, hS_.2.1.gr hb_, hS_.2.2.gr hb_⟩) (i := 2) rfl (by kernel_rfl) (fun _ _ _ h => h) (pureG (by rfl) (by intro w; go_simp; first | done | with_reducible rfl)) ?_
  try simp only [Act.put, List.getElem_toArray, List.getElem_cons_succ, List.getElem_cons_zero, List.setIfInBounds_toArray, List.set_cons_zero, List.set_cons_succ]
  refine wpAnyG_take (oi := _) (v := _) (fun _ _ hS_ hb_ => ⟨hS_.1.gr hb_, hS_.2.1.gr hb_, hS_.2.2.gr hb_⟩) (i := 3) rfl (by kernel_rfl) (fun _ _ _ h => h) (loadG (by rfl) _ _ rfl _ _ rfl (natsV .u64 l8) _ (fun _ hS_ => blk_all (hS_.1)) Try.underlying26 rfl (i26 L_l8.out)) ?_
  try simp only [Act.put, List.getElem_toArray, List.getElem_cons_succ, List.getElem_cons_zero, List.setIfInBounds_toArray, List.set_cons_zero, List.set_cons_succ]
  refine wpAnyG_take (oi := _) (v := _) (fun _ _ hS_ hb_ => ⟨hS_.1.gr hb_, hS_.2.1.gr hb_, hS_.2.2.gr hb_⟩) (i := 4) rfl (by kernel_rfl) (fun _ _ _ h => h) (loadG (by rfl) _ _ rfl _ _ rfl (natsV .u64 la) _ (fun _ hS_ => blk_all (hS_.2.1)) Try.underlying24 rfl (i24 L_la.out)) ?_
  try simp only [Act.put, List.getElem_toArray, List.getElem_cons_succ, List.getElem_cons_zero, List.setIfInBounds_toArray, List.set_cons_zero, List.set_cons_succ]
  refine wpAnyG_take (oi := _) (v := _) (fun _ _ hS_ hb_ => ⟨hS_.1.gr hb_, hS_.2.1.gr hb_, hS_.2.2.gr hb_⟩) (i := 5) rfl (by kernel_rfl) (fun _ _ _ h => h) (loadG (by rfl) _ _ rfl _ _ rfl (natsV .u64 lb) _ (fun _ hS_ => blk_all (hS_.2.2)) Try.underlying24 rfl (i24 L_lb.out)) ?_
  try simp only [Act.put, List.getElem_toArray, List.getElem_cons_succ, List.getElem_cons_zero, List.setIfInBounds_toArray, List.set_cons_zero, List.set_cons_succ]
  refine wpAnyG_take (oi := _) (v := _) (fun _ _ hS_ hb_ => ⟨hS_.1.gr hb_, hS_.2.1.gr hb_, hS_.2.2.gr hb_⟩) (i := 6) rfl (by kernel_rfl) (fun _ _ _ h => h) (callG (by rfl) rfl Try.func14 (by kernel_rfl) (by kernel_rfl) (#[.agg (natsV .u64 la).toArray, .agg (natsV .u64 lb).toArray]) (by simp [Act.eval]) (fun W_ _ => Hc5.out W_)) ?_
  try simp only [Act.put, List.getElem_toArray, List.getElem_cons_succ, List.getElem_cons_zero, List.setIfInBounds_toArray, List.set_cons_zero, List.set_cons_succ]
  refine wpAnyG_take (oi := _) (v := _) (fun _ _ hS_ hb_ => ⟨hS_.1.gr hb_, hS_.2.1.gr hb_, hS_.2.2.gr hb_⟩) (i := 7) rfl (by kernel_rfl) (fun _ _ _ h => h) (pureG (by rfl) (by intro w; have q := QN.out; go_simp; first | done | with_reducible rfl)) ?_
  try simp only [Act.put, List.getElem_toArray, List.getElem_cons_succ, List.getElem_cons_zero, List.setIfInBounds_toArray, List.set_cons_zero, List.set_cons_succ]
  refine wpAnyG_take (oi := _) (v := _) (fun _ _ hS_ hb_ => ⟨hS_.1.gr hb_, hS_.2.1.gr hb_, hS_.2.2.gr hb_⟩) (i := 8) rfl (by kernel_rfl) (fun _ _ _ h => h) (pureG (by rfl) (by intro w; go_simp; first | done | with_reducible rfl)) ?_
  try simp only [Act.put, List.getElem_toArray, List.getElem_cons_succ, List.getElem_cons_zero, List.setIfInBounds_toArray, List.set_cons_zero, List.set_cons_succ]
  refine wpAnyG_done (by kernel_rfl) ?_ _
  intro w80 hgw80
  try simp only [Act.put, List.getElem_toArray, List.getElem_cons_succ, List.getElem_cons_zero, List.setIfInBounds_toArray, List.set_cons_zero, List.set_cons_succ]
  have E81 := Lib.hid (C73.out.drew.gr hgw80)
  clear C73
  have E82 := Lib.hid (C74.out.drew.gr hgw80)
  clear C74
  have E83 := Lib.hid (C75.out.drew.gr hgw80)
  clear C75
  have E84 := Lib.hid (C76.out.drew.gr hgw80)
  clear C76
  have E85 := Lib.hid (C77.out.drew.gr hgw80)
  clear C77
  have E86 := Lib.hid (C78.out.drew.gr hgw80)
  clear C78
  have E87 := Lib.hid (D72.out.drew.gr hgw80)
  clear D72
  have hbel88 := hbel79.drew.trans (Below.mono hgw80 hbel79.drew.size)
  clear hbel79
  clear hgw80
  as_aux_lemma =>
  have qz := QZ.out
  go_upto_region 9 with (first | (refine wpList_load_mid rfl 24 (.tmp 5) rfl (w.heap.size + 1 + 1) 0 rfl (natsV .u64 lm) _ (blk_all (E83.out)) Try.underlying24 rfl (i24 L_lm.out) ?_))
  try simp only [Act.put, List.getElem_toArray, List.getElem_cons_succ, List.getElem_cons_zero, List.setIfInBounds_toArray, List.set_cons_zero, List.set_cons_succ]
  as_aux_lemma =>
  refine wp_region_P (fun w_ => Blk w_ G12 26 (natsV .u64 l8) ∧ Blk w_ (w.heap.size + 1 + 1) 24 (natsV .u64 lm)) 9 (by kernel_rfl) ⟨E84.out, E83.out⟩ ?_
  refine wpAnyG_take (oi := _) (v := _) (fun _ _ hS_ hb_ => ⟨hS_.1.gr hb_, hS_.2.gr hb_⟩) (i := 0) rfl (by kernel_rfl) (fun _ _ _ h => h) (loadG (by rfl) _ _ rfl _ _ rfl (natsV .u64 l8) _ (fun _ hS_ => blk_all (hS_.1)) Try.underlying26 rfl (i26 L_l8.out)) ?_
  try simp only [Act.put, List.getElem_toArray, List.getElem_cons_succ, List.getElem_cons_zero, List.setIfInBounds_toArray, List.set_cons_zero, List.set_cons_succ]
  refine wpAnyG_take (oi := _) (v := _) (fun _ _ hS_ hb_ => ⟨hS_.1.gr hb_, hS_.2.gr hb_⟩) (i := 1) rfl (by kernel_rfl) (fun _ _ _ h => h) (loadG (by rfl) _ _ rfl _ _ rfl (natsV .u64 lm) _ (fun _ hS_ => blk_all (hS_.2)) Try.underlying24 rfl (i24 L_lm.out)) ?_
  try simp only [Act.put, List.getElem_toArray, List.getElem_cons_succ, List.getElem_cons_zero, List.setIfInBounds_toArray, List.set_cons_zero, List.set_cons_succ]
  refine wpAnyG_take (oi := _) (v := _) (fun _ _ hS_ hb_ => ⟨hS_.1.gr hb_, hS_.2.gr hb_⟩) (i := 2) rfl (by kernel_rfl) (fun _ _ _ h => h) (callG (by rfl) rfl Try.func15 (by kernel_rfl) (by kernel_rfl) (#[.agg (natsV .u64 l8).toArray, .agg (natsV .u64 lm).toArray]) (by simp [Act.eval]) (fun W_ _ => Hc6.out W_)) ?_
  try simp only [Act.put, List.getElem_toArray, List.getElem_cons_succ, List.getElem_cons_zero, List.setIfInBounds_toArray, List.set_cons_zero, List.set_cons_succ]
  refine wpAnyG_take (oi := _) (v := _) (fun _ _ hS_ hb_ => ⟨hS_.1.gr hb_, hS_.2.gr hb_⟩) (i := 3) rfl (by kernel_rfl) (fun _ _ _ h => h) (pureG (by rfl) (by intro w; go_simp; first | done | with_reducible rfl)) ?_
  try simp only [Act.put, List.getElem_toArray, List.getElem_cons_succ, List.getElem_cons_zero, List.setIfInBounds_toArray, List.set_cons_zero, List.set_cons_succ]
  refine wpAnyG_take (oi := _) (v := _) (fun _ _ hS_ hb_ => ⟨hS_.1.gr hb_, hS_.2.gr hb_⟩) (i := 4) rfl (by kernel_rfl) (fun _ _ _ h => h) (pureG (by rfl) (by intro w; go_simp; first | done | with_reducible rfl)) ?_
  try simp only [Act.put, List.getElem_toArray, List.getElem_cons_succ, List.getElem_cons_zero, List.setIfInBounds_toArray, List.set_cons_zero, List.set_cons_succ]
  refine wpAnyG_take (oi := _) (v := _) (fun _ _ hS_ hb_ => ⟨hS_.1.gr hb_, hS_.2.gr hb_⟩) (i := 5) rfl (by kernel_rfl) (fun _ _ _ h => h) (pureG (by rfl) (by intro w; go_simp; first | done | with_reducible rfl)) ?_
  try simp only [Act.put, List.getElem_toArray, List.getElem_cons_succ, List.getElem_cons_zero, List.setIfInBounds_toArray, List.set_cons_zero, List.set_cons_succ]
  refine wpAnyG_def2 (i := 6) (j := 7) (k := 8) (l := 9) (fun _ _ hS_ hb_ => ⟨hS_.1.gr hb_, hS_.2.gr hb_⟩) (by kernel_rfl) (by kernel_rfl) (by kernel_rfl) (by kernel_rfl) (by kernel_rfl) (by kernel_rfl) (by decide) rfl rfl rfl rfl rfl (allocG (by rfl) rfl _ alloc26) (allocG (by rfl) rfl _ alloc24) (fun _ => allocG (by rfl) rfl _ alloc26) (fun _ => allocG (by rfl) rfl _ alloc24) (fun _ _ => rfl) (lenEq (show (natsV .u64 (zeros 8)).length = 8 from rfl) (by rw [natsV_length, L_q8.out])) (lenEq (show (natsV .u64 (zeros 4)).length = 4 from rfl) (by rw [natsV_length, L_lr.out])) (fun _ _ => StoresG.mk (cs := (natsV .u64 q8)) (by rfl) 26 _ _ rfl rfl rfl (i26 L_q8.out) (natsV_one _ _)) (fun _ _ => StoresG.mk (cs := (natsV .u64 lr)) (by rfl) 24 _ _ rfl rfl rfl (i24 L_lr.out) (natsV_one _ _)) (fun g_ w_ hS_ hz_ hb_ => ⟨(hS_.1.gr hb_).row _ (Nat.ne_of_lt (Nat.lt_of_lt_of_le hS_.1.lt hz_)), (hS_.2.gr hb_).row _ (Nat.ne_of_lt (Nat.lt_of_lt_of_le hS_.2.lt hz_))⟩) (⟨E84.out, E83.out⟩) ?_
  intro w89 G90 G91 hgw89 hz_ hz2_ hne_ hn_ hn2_
  try simp only [Act.put, List.getElem_toArray, List.getElem_cons_succ, List.getElem_cons_zero, List.setIfInBounds_toArray, List.set_cons_zero, List.set_cons_succ]
  have C92 := Lib.hid (E81.out.gr hgw89)
  clear E81
  have C93 := Lib.hid (E82.out.gr hgw89)
  clear E82
  have C94 := Lib.hid (E83.out.gr hgw89)
  clear E83
  have C95 := Lib.hid (E84.out.gr hgw89)
  clear E84
  have C96 := Lib.hid (E85.out.gr hgw89)
  clear E85
  have C97 := Lib.hid (E86.out.gr hgw89)
  clear E86
  have C98 := Lib.hid (E87.out.gr hgw89)
  clear E87
  have hbel99 := hbel88.trans (Below.mono hgw89 hbel88.size)
  clear hbel88
  have D100 := Lib.hid hn_
  have D101 := Lib.hid hn2_
  clear hn_ hn2_ hz_ hz2_ hne_ hgw89
  as_aux_lemma =>
  clear qz
  have fq8 := Q8.out
  have fq4 := Q4.out
  go_wp2_with (first | (refine ldwM 26 (.tmp 9) rfl G19 0 rfl (natsV .u64 q8) _ (blk_all (C96.out)) Try.underlying26 rfl (i26 L_q8.out) 6 true rfl 79 rfl rfl ?_) | (refine ldwM 26 (.tmp 14) rfl G90 0 rfl (natsV .u64 q8) _ (blk_all (D100.out)) Try.underlying26 rfl (i26 L_q8.out) 6 true rfl 79 rfl rfl ?_) | (refine ldwM 24 (.tmp 10) rfl G20 0 rfl (natsV .u64 lr) _ (blk_all (C97.out)) Try.underlying24 rfl (i24 L_lr.out) 11 true rfl 84 rfl rfl ?_) | (refine ldwM 24 (.tmp 15) rfl G91 0 rfl (natsV .u64 lr) _ (blk_all (D101.out)) Try.underlying24 rfl (i24 L_lr.out) 11 true rfl 84 rfl rfl ?_) | (refine ldwM 24 (.tmp 12) rfl G71 0 rfl (natsV .u64 lr) _ (blk_all (C98.out)) Try.underlying24 rfl (i24 L_lr.out) 16 true rfl 89 rfl rfl ?_) | (refine ldwM 24 (.tmp 15) rfl G91 0 rfl (natsV .u64 lr) _ (blk_all (D101.out)) Try.underlying24 rfl (i24 L_lr.out) 16 true rfl 89 rfl rfl ?_))
  go_ret
  exact ⟨rfl, hbel99⟩
theorem powDbl (k n : Nat) (h : n = k + k) : 2 ^ k * 2 ^ k = 2 ^ n := by rw [h, Nat.pow_add]
theorem mul_lt2 {a b A : Nat} (ha : a < A) (hb : b < A) : a * b < A * A := Nat.mul_lt_mul'' ha hb
theorem products_any (a b m : Nat) (w : World) (ha : a < 2 ^ 256) (hb : b < 2 ^ 256) (hm : m < 2 ^ 256) :
    Calls Try.prog 3 #[.agg (natsV .u64 (wds 4 a)).toArray, .agg (natsV .u64 (wds 4 b)).toArray, .agg (natsV .u64 (wds 4 m)).toArray] w fun e w' => e = .returned (.bool true) ∧ Below w.heap.size w w' := by
  have k1 := fun w => Mul_any a b w ha hb
  have k2 := fun w => refMul_any a b w ha hb
  have hX : a * b < 2 ^ 512 := by
    have h := mul_lt2 ha hb
    rw [powDbl 256 512 rfl] at h
    exact h
  by_cases h0 : m = 0
  · subst h0
    rw [num_zero]
    exact products_zero (wds_len 4 a) (wds_len 4 b) (wds_len 8 _) awake_any k1 (fun w => DivRem_zero (wds_len 8 _) w) (fun w => mulmod_w (wds_len 4 a) (wds_len 4 b) rfl (wds_len 8 _) rfl rfl k1 (fun w => DivRem_zero (wds_len 8 _) w) w) k2 w
  · have hz : ¬ wds 4 m = zeros 4 := by
      intro e
      rw [← num_zero] at e
      have k := wds_inj 4 m 0 (show m < 2 ^ (64 * 4) from hm) (by decide)
      rw [decide_eq_true e] at k
      exact h0 (of_decide_eq_true k.symm)
    have hs : a * b = a * b % 2 ^ 256 + 2 ^ 256 * (a * b / 2 ^ 256) := (Nat.mod_add_div _ _).symm
    have hU : a * b / 2 ^ 256 < 2 ^ 256 := Nat.div_lt_of_lt_mul (mul_lt2 ha hb)
    have kd := fun w => DivRem_any (a * b % 2 ^ 256) (a * b / 2 ^ 256) m w (Nat.mod_lt _ (by decide)) hU hm h0
    rw [← hs] at kd
    exact products_ok (wds_len 4 a) (wds_len 4 b) (wds_len 4 m) (wds_len 8 _) (wds_len 8 _) (wds_len 4 _) awake_any k1 kd (fun w => mulmod_w (wds_len 4 a) (wds_len 4 b) (wds_len 4 m) (wds_len 8 _) (wds_len 8 _) (wds_len 4 _) k1 kd w) k2 (fun w => dDivRem_any (a * b) m w hX hm h0) hz w
end Go.Proofs.Ytfffmoolkgheaaa
