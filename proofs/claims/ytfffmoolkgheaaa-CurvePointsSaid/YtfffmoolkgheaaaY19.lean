/- Parts of proofs of statements, each text behind those that it stands on. No condition of its own. -/
import Derived.Test.YtfffmoolkgheaaaY14
namespace Go.Proofs.Ytfffmoolkgheaaa
open Go.RowKit
set_option linter.unusedVariables false
set_option linter.unusedSimpArgs false
set_option maxRecDepth 100000 in
set_option maxHeartbeats 1600000 in
theorem whole_ok {lx ly : List Nat} {b o c : Nat} (w : World) (hlx : lx.length = 4) (hly : ly.length = 4)
    (h64 : 64 ≤ c)
    (hcm : c ≤ maxLen)
    (c1 : ∀ W, Below w.heap.size w W → Calls Try.prog 112 #[.slice (some ⟨b, o, none⟩) 32 (c)] W fun e w' => e = .returned (.tuple #[.agg (natsV .u64 lx).toArray, .int .i64 0]) ∧ Below W.heap.size W w')
    (c2 : ∀ W, Below w.heap.size w W → Calls Try.prog 112 #[.slice (some ⟨b, o + 32, none⟩) 32 (c - 32)] W fun e w' => e = .returned (.tuple #[.agg (natsV .u64 ly).toArray, .int .i64 0]) ∧ Below W.heap.size W w')
    (c3 : ∀ w, Calls Try.prog 29 #[.agg (pv lx ly false).toArray] w fun e w' => e = .returned (.bool true) ∧ Below w.heap.size w w') :
    Calls Try.prog 76 #[.slice (some ⟨b, o, none⟩) 64 (c)] w fun e w' => e = .returned (.tuple #[.agg (pv lx ly false).toArray, .int .i64 0]) ∧ Below w.heap.size w w' := by
  have L_lx := Lib.hid hlx
  clear hlx
  have L_ly := Lib.hid hly
  clear hly
  have Hc1 := Lib.hid c1
  clear c1
  have Hc2 := Lib.hid c2
  clear c2
  have Hc3 := Lib.hid c3
  clear c3
  unfold maxLen at hcm
  have h32 : ¬ (c = 32) := by omega
  have B0_ := Lib.hid (Blk.new w  43 (pv (zeros 4) (zeros 4) false))
  have bel_ := ((Below.refl w.heap.size w).alloc (Nat.le_refl _) (.cells (pv (zeros 4) (zeros 4) false).toArray 43))
  go_enter Try.func76, Try.ntmps76
  go_wp2_with fail
  refine (Hc1.out _ bel_).mono ?_
  rintro e w1 ⟨rfl, hbw1⟩
  have C2 := Lib.hid (B0_.out.gr hbw1)
  clear B0_
  have hbel3 := bel_.trans (Below.mono hbw1 bel_.size)
  clear bel_
  clear hbw1
  go_wp2_with (first | (refine stB rfl 24 (.tmp 4) (.tmp 13) rfl w1.heap.size rfl (natsV .u64 lx) rfl 24 (natsV .u64 (zeros 4)) (Blk.new w1 24 (natsV .u64 (zeros 4))) (i24 L_lx.out) (lenEq (show (natsV .u64 (zeros 4)).length = 4 from rfl) (by rw [natsV_length, L_lx.out])) (natsV_one _ _) ?_; generalize hW : World.setRow _ _ _ = w4; obtain ⟨hgw4, hnw4⟩ := newfacts hW; clear hW; have C7 := Lib.hid (C2.out.gr hgw4); clear C2; have hbel8 := hbel3.trans (Below.mono hgw4 hbel3.size); clear hbel3; have D6 := Lib.hid hnw4; have szw4 := hgw4.size; clear hnw4 hgw4 szw4; generalize w1.heap.size = G5 at *))
  refine (Hc2.out _ hbel8).mono ?_
  rintro e w9 ⟨rfl, hbw9⟩
  have C10 := Lib.hid (C7.out.gr hbw9)
  clear C7
  have C11 := Lib.hid (D6.out.gr hbw9)
  clear D6
  have hbel12 := hbel8.trans (Below.mono hbw9 hbel8.size)
  clear hbel8
  clear hbw9
  go_upto_region 3 with (first | (refine stB rfl 24 (.tmp 6) (.tmp 19) rfl w9.heap.size rfl (natsV .u64 ly) rfl 24 (natsV .u64 (zeros 4)) (Blk.new w9 24 (natsV .u64 (zeros 4))) (i24 L_ly.out) (lenEq (show (natsV .u64 (zeros 4)).length = 4 from rfl) (by rw [natsV_length, L_ly.out])) (natsV_one _ _) ?_; generalize hW : World.setRow _ _ _ = w13; obtain ⟨hgw13, hnw13⟩ := newfacts hW; clear hW; have C16 := Lib.hid (C10.out.gr hgw13); clear C10; have C17 := Lib.hid (C11.out.gr hgw13); clear C11; have hbel18 := hbel12.trans (Below.mono hgw13 hbel12.size); clear hbel12; have D15 := Lib.hid hnw13; have szw13 := hgw13.size; clear hnw13 hgw13 szw13; generalize w9.heap.size = G14 at *))
  try simp only [Act.put, zq1, zq2, zq3, zq4, zq5, zq6]
  as_aux_lemma =>
  refine wp_region_P (fun w_ => Blk w_ G5 24 (natsV .u64 lx) ∧ Blk w_ G14 24 (natsV .u64 ly)) 4 (by kernel_rfl) ⟨C17.out, D15.out⟩ ?_
  refine wpAnyG_take (fun _ _ hS_ hb_ => ⟨hS_.1.gr hb_, hS_.2.gr hb_⟩) (i := 0) rfl (by kernel_rfl) (fun _ _ _ h => h) (loadG (by rfl) _ _ rfl _ _ rfl (natsV .u64 lx) _ (fun _ hS_ => blk_all (hS_.1)) Try.underlying24 rfl (i24 L_lx.out)) ?_
  try simp only [Act.put, zq1, zq2, zq3, zq4, zq5, zq6]
  refine wpAnyG_take (fun _ _ hS_ hb_ => ⟨hS_.1.gr hb_, hS_.2.gr hb_⟩) (i := 1) rfl (by kernel_rfl) (fun _ _ _ h => h) (loadG (by rfl) _ _ rfl _ _ rfl (natsV .u64 ly) _ (fun _ hS_ => blk_all (hS_.2)) Try.underlying24 rfl (i24 L_ly.out)) ?_
  try simp only [Act.put, zq1, zq2, zq3, zq4, zq5, zq6]
  refine wpAnyG_take (fun _ _ hS_ hb_ => ⟨hS_.1.gr hb_, hS_.2.gr hb_⟩) (i := 2) rfl (by kernel_rfl) (fun _ _ _ h => h) (buildG (by rfl) _ _ rfl _ (built43 L_lx.out L_ly.out) (by simp [Act.eval])) ?_
  try simp only [Act.put, zq1, zq2, zq3, zq4, zq5, zq6]
  refine wpAnyG_def (i := 3) (j := 4) (fun _ _ hS_ hb_ => ⟨hS_.1.gr hb_, hS_.2.gr hb_⟩) (by kernel_rfl) (by kernel_rfl) (by kernel_rfl) rfl rfl rfl (allocG (by rfl) rfl _ alloc43) (lenEq (show (pv (zeros 4) (zeros 4) false).length = 9 from rfl) (pv_len L_lx.out L_ly.out)) (fun _ => StoresG.mk (cs := (pv lx ly false)) (by rfl) 43 _ _ rfl rfl rfl (i43 L_lx.out L_ly.out) (pv_one _ _ _)) ?_
  intro w19 G20 hgw19 hz_ hn_
  try simp only [Act.put, zq1, zq2, zq3, zq4, zq5, zq6]
  have C21 := Lib.hid (C16.out.gr hgw19)
  clear C16
  have C22 := Lib.hid (C17.out.gr hgw19)
  clear C17
  have C23 := Lib.hid (D15.out.gr hgw19)
  clear D15
  have hbel24 := hbel18.trans (Below.mono hgw19 hbel18.size)
  clear hbel18
  have D25 := Lib.hid hn_
  clear hn_ hz_ hgw19
  as_aux_lemma =>
  go_wp2_with (first | (refine wpList_load_mid rfl 43 (.tmp 8) rfl G20 0 rfl (pv lx ly false) _ (blk_all (D25.out)) Try.underlying43 rfl (i43 L_lx.out L_ly.out) ?_))
  refine (Hc3.out _).mono ?_
  rintro e w26 ⟨rfl, hbw26⟩
  have C27 := Lib.hid (C21.out.gr hbw26)
  clear C21
  have C28 := Lib.hid (C22.out.gr hbw26)
  clear C22
  have C29 := Lib.hid (C23.out.gr hbw26)
  clear C23
  have C30 := Lib.hid (D25.out.gr hbw26)
  clear D25
  have hbel31 := hbel24.trans (Below.mono hbw26 hbel24.size)
  clear hbel24
  clear hbw26
  go_wp2_with (first | (refine wpList_load_mid rfl 43 (.tmp 8) rfl G20 0 rfl (pv lx ly false) _ (blk_all (C30.out)) Try.underlying43 rfl (i43 L_lx.out L_ly.out) ?_) | (refine stB rfl 43 (.tmp 2) (.tmp 28) rfl w.heap.size rfl (pv lx ly false) rfl 43 (pv (zeros 4) (zeros 4) false) C27.out (i43 L_lx.out L_ly.out) (lenEq (show (pv (zeros 4) (zeros 4) false).length = 9 from rfl) (pv_len L_lx.out L_ly.out)) (pv_one _ _ _) ?_))
  refine bodyPost_ret (v := .tuple #[.agg (pv lx ly false).toArray, .int .i64 0]) ?_ rfl ⟨rfl, below_setRow' hbel31 (by first | exact Nat.le_refl _ | omega) _⟩
  exact results_two Try.results76 _ _ w.heap.size 43 _ (0, 0) _ _ rfl rfl (C27.out.setRow _) Try.underlying43 rfl (by simpa using (i43 L_lx.out L_ly.out))
set_option maxRecDepth 100000 in
set_option maxHeartbeats 1600000 in
theorem whole_no {lx ly : List Nat} {b o c : Nat} (w : World) (hlx : lx.length = 4) (hly : ly.length = 4)
    (h64 : 64 ≤ c)
    (hcm : c ≤ maxLen)
    (c1 : ∀ W, Below w.heap.size w W → Calls Try.prog 112 #[.slice (some ⟨b, o, none⟩) 32 (c)] W fun e w' => e = .returned (.tuple #[.agg (natsV .u64 lx).toArray, .int .i64 0]) ∧ Below W.heap.size W w')
    (c2 : ∀ W, Below w.heap.size w W → Calls Try.prog 112 #[.slice (some ⟨b, o + 32, none⟩) 32 (c - 32)] W fun e w' => e = .returned (.tuple #[.agg (natsV .u64 ly).toArray, .int .i64 0]) ∧ Below W.heap.size W w')
    (c3 : ∀ w, Calls Try.prog 29 #[.agg (pv lx ly false).toArray] w fun e w' => e = .returned (.bool false) ∧ Below w.heap.size w w') :
    Calls Try.prog 76 #[.slice (some ⟨b, o, none⟩) 64 (c)] w fun e w' => e = .returned (.tuple #[.agg (pv (zeros 4) (zeros 4) false).toArray, .int .i64 62]) ∧ Below w.heap.size w w' := by
  have L_lx := Lib.hid hlx
  clear hlx
  have L_ly := Lib.hid hly
  clear hly
  have Hc1 := Lib.hid c1
  clear c1
  have Hc2 := Lib.hid c2
  clear c2
  have Hc3 := Lib.hid c3
  clear c3
  unfold maxLen at hcm
  have h32 : ¬ (c = 32) := by omega
  have B0_ := Lib.hid (Blk.new w  43 (pv (zeros 4) (zeros 4) false))
  have bel_ := ((Below.refl w.heap.size w).alloc (Nat.le_refl _) (.cells (pv (zeros 4) (zeros 4) false).toArray 43))
  go_enter Try.func76, Try.ntmps76
  go_wp2_with fail
  refine (Hc1.out _ bel_).mono ?_
  rintro e w1 ⟨rfl, hbw1⟩
  have C2 := Lib.hid (B0_.out.gr hbw1)
  clear B0_
  have hbel3 := bel_.trans (Below.mono hbw1 bel_.size)
  clear bel_
  clear hbw1
  go_wp2_with (first | (refine stB rfl 24 (.tmp 4) (.tmp 13) rfl w1.heap.size rfl (natsV .u64 lx) rfl 24 (natsV .u64 (zeros 4)) (Blk.new w1 24 (natsV .u64 (zeros 4))) (i24 L_lx.out) (lenEq (show (natsV .u64 (zeros 4)).length = 4 from rfl) (by rw [natsV_length, L_lx.out])) (natsV_one _ _) ?_; generalize hW : World.setRow _ _ _ = w4; obtain ⟨hgw4, hnw4⟩ := newfacts hW; clear hW; have C7 := Lib.hid (C2.out.gr hgw4); clear C2; have hbel8 := hbel3.trans (Below.mono hgw4 hbel3.size); clear hbel3; have D6 := Lib.hid hnw4; have szw4 := hgw4.size; clear hnw4 hgw4 szw4; generalize w1.heap.size = G5 at *))
  refine (Hc2.out _ hbel8).mono ?_
  rintro e w9 ⟨rfl, hbw9⟩
  have C10 := Lib.hid (C7.out.gr hbw9)
  clear C7
  have C11 := Lib.hid (D6.out.gr hbw9)
  clear D6
  have hbel12 := hbel8.trans (Below.mono hbw9 hbel8.size)
  clear hbel8
  clear hbw9
  go_upto_region 3 with (first | (refine stB rfl 24 (.tmp 6) (.tmp 19) rfl w9.heap.size rfl (natsV .u64 ly) rfl 24 (natsV .u64 (zeros 4)) (Blk.new w9 24 (natsV .u64 (zeros 4))) (i24 L_ly.out) (lenEq (show (natsV .u64 (zeros 4)).length = 4 from rfl) (by rw [natsV_length, L_ly.out])) (natsV_one _ _) ?_; generalize hW : World.setRow _ _ _ = w13; obtain ⟨hgw13, hnw13⟩ := newfacts hW; clear hW; have C16 := Lib.hid (C10.out.gr hgw13); clear C10; have C17 := Lib.hid (C11.out.gr hgw13); clear C11; have hbel18 := hbel12.trans (Below.mono hgw13 hbel12.size); clear hbel12; have D15 := Lib.hid hnw13; have szw13 := hgw13.size; clear hnw13 hgw13 szw13; generalize w9.heap.size = G14 at *))
  try simp only [Act.put, zq1, zq2, zq3, zq4, zq5, zq6]
  as_aux_lemma =>
  refine wp_region_P (fun w_ => Blk w_ G5 24 (natsV .u64 lx) ∧ Blk w_ G14 24 (natsV .u64 ly)) 4 (by kernel_rfl) ⟨C17.out, D15.out⟩ ?_
  refine wpAnyG_take (fun _ _ hS_ hb_ => ⟨hS_.1.gr hb_, hS_.2.gr hb_⟩) (i := 0) rfl (by kernel_rfl) (fun _ _ _ h => h) (loadG (by rfl) _ _ rfl _ _ rfl (natsV .u64 lx) _ (fun _ hS_ => blk_all (hS_.1)) Try.underlying24 rfl (i24 L_lx.out)) ?_
  try simp only [Act.put, zq1, zq2, zq3, zq4, zq5, zq6]
  refine wpAnyG_take (fun _ _ hS_ hb_ => ⟨hS_.1.gr hb_, hS_.2.gr hb_⟩) (i := 1) rfl (by kernel_rfl) (fun _ _ _ h => h) (loadG (by rfl) _ _ rfl _ _ rfl (natsV .u64 ly) _ (fun _ hS_ => blk_all (hS_.2)) Try.underlying24 rfl (i24 L_ly.out)) ?_
  try simp only [Act.put, zq1, zq2, zq3, zq4, zq5, zq6]
  refine wpAnyG_take (fun _ _ hS_ hb_ => ⟨hS_.1.gr hb_, hS_.2.gr hb_⟩) (i := 2) rfl (by kernel_rfl) (fun _ _ _ h => h) (buildG (by rfl) _ _ rfl _ (built43 L_lx.out L_ly.out) (by simp [Act.eval])) ?_
  try simp only [Act.put, zq1, zq2, zq3, zq4, zq5, zq6]
  refine wpAnyG_def (i := 3) (j := 4) (fun _ _ hS_ hb_ => ⟨hS_.1.gr hb_, hS_.2.gr hb_⟩) (by kernel_rfl) (by kernel_rfl) (by kernel_rfl) rfl rfl rfl (allocG (by rfl) rfl _ alloc43) (lenEq (show (pv (zeros 4) (zeros 4) false).length = 9 from rfl) (pv_len L_lx.out L_ly.out)) (fun _ => StoresG.mk (cs := (pv lx ly false)) (by rfl) 43 _ _ rfl rfl rfl (i43 L_lx.out L_ly.out) (pv_one _ _ _)) ?_
  intro w19 G20 hgw19 hz_ hn_
  try simp only [Act.put, zq1, zq2, zq3, zq4, zq5, zq6]
  have C21 := Lib.hid (C16.out.gr hgw19)
  clear C16
  have C22 := Lib.hid (C17.out.gr hgw19)
  clear C17
  have C23 := Lib.hid (D15.out.gr hgw19)
  clear D15
  have hbel24 := hbel18.trans (Below.mono hgw19 hbel18.size)
  clear hbel18
  have D25 := Lib.hid hn_
  clear hn_ hz_ hgw19
  as_aux_lemma =>
  go_wp2_with (first | (refine wpList_load_mid rfl 43 (.tmp 8) rfl G20 0 rfl (pv lx ly false) _ (blk_all (D25.out)) Try.underlying43 rfl (i43 L_lx.out L_ly.out) ?_))
  refine (Hc3.out _).mono ?_
  rintro e w26 ⟨rfl, hbw26⟩
  have C27 := Lib.hid (C21.out.gr hbw26)
  clear C21
  have C28 := Lib.hid (C22.out.gr hbw26)
  clear C22
  have C29 := Lib.hid (C23.out.gr hbw26)
  clear C23
  have C30 := Lib.hid (D25.out.gr hbw26)
  clear D25
  have hbel31 := hbel24.trans (Below.mono hbw26 hbel24.size)
  clear hbel24
  clear hbw26
  go_wp2_with (first | (refine stB rfl 43 (.tmp 2) (.tmp 27) rfl w.heap.size rfl (pv (zeros 4) (zeros 4) false) rfl 43 (pv (zeros 4) (zeros 4) false) C27.out (i43 rfl rfl) (lenEq (show (pv (zeros 4) (zeros 4) false).length = 9 from rfl) (show (pv (zeros 4) (zeros 4) false).length = 9 from rfl)) (pv_one _ _ _) ?_))
  refine bodyPost_ret (v := .tuple #[.agg (pv (zeros 4) (zeros 4) false).toArray, .int .i64 62]) ?_ rfl ⟨rfl, below_setRow' hbel31 (by first | exact Nat.le_refl _ | omega) _⟩
  exact results_two Try.results76 _ _ w.heap.size 43 _ (0, 0) _ _ rfl rfl (C27.out.setRow _) Try.underlying43 rfl (by simpa using (i43 rfl rfl))
set_option maxRecDepth 100000 in
set_option maxHeartbeats 1600000 in
theorem croot_ok {la lr : List Nat} (hla : la.length = 4) (hlr : lr.length = 4)
    (c1 : ∀ w, Calls Try.prog 130 #[.agg (natsV .u64 la).toArray] w fun e w' => e = .returned (.tuple #[.agg (natsV .u64 lr).toArray, .bool true]) ∧ Below w.heap.size w w') (w : World) :
    Calls Try.prog 113 #[.agg (natsV .u64 la).toArray] w fun e w' => e = .returned (.tuple #[.agg (natsV .u64 lr).toArray, .bool true]) ∧ Below w.heap.size w w' := by
  have L_la := Lib.hid hla
  clear hla
  have L_lr := Lib.hid hlr
  clear hlr
  have Hc1 := Lib.hid c1
  clear c1
  have B0_ := Lib.hid ((Blk.new w  94 (natsV .u64 la)).alloc (.cells (natsV .u64 (zeros 4)).toArray 94))
  have B1_ := Lib.hid (Blk.new2 w (.cells (natsV .u64 la).toArray 94) 94 (natsV .u64 (zeros 4)))
  have bel_ := (((Below.refl w.heap.size w).alloc (Nat.le_refl _) (.cells (natsV .u64 la).toArray 94)).alloc (by simp) (.cells (natsV .u64 (zeros 4)).toArray 94))
  go_enter Try.func113, Try.ntmps113
  go_wp2_with (first | (refine wpList_load_mid rfl 94 (.tmp 1) rfl w.heap.size 0 rfl (natsV .u64 la) _ (blk_all (B0_.out)) Try.underlying94 rfl (i94 L_la.out) ?_))
  refine (Hc1.out _).mono ?_
  rintro e w1 ⟨rfl, hbw1⟩
  have C2 := Lib.hid (B0_.out.gr hbw1)
  clear B0_
  have C3 := Lib.hid (B1_.out.gr hbw1)
  clear B1_
  have hbel4 := bel_.trans (Below.mono hbw1 bel_.size)
  clear bel_
  clear hbw1
  go_wp2_with (first | (refine stB rfl 24 (.tmp 4) (.tmp 9) rfl w1.heap.size rfl (natsV .u64 lr) rfl 24 (natsV .u64 (zeros 4)) (Blk.new w1 24 (natsV .u64 (zeros 4))) (i24 L_lr.out) (lenEq (show (natsV .u64 (zeros 4)).length = 4 from rfl) (by rw [natsV_length, L_lr.out])) (natsV_one _ _) ?_; generalize hW : World.setRow _ _ _ = w5; obtain ⟨hgw5, hnw5⟩ := newfacts hW; clear hW; have C8 := Lib.hid (C2.out.gr hgw5); clear C2; have C9 := Lib.hid (C3.out.gr hgw5); clear C3; have hbel10 := hbel4.trans (Below.mono hgw5 hbel4.size); clear hbel4; have D7 := Lib.hid hnw5; have szw5 := hgw5.size; clear hnw5 hgw5 szw5; generalize w1.heap.size = G6 at *) | (refine wpList_load_mid rfl 24 (.tmp 4) rfl G6 0 rfl (natsV .u64 lr) _ (blk_all (D7.out)) Try.underlying24 rfl (i24 L_lr.out) ?_) | (refine stB rfl 94 (.tmp 2) (.tmp 11) rfl (w.heap.size + 1) rfl (natsV .u64 lr) rfl 94 (natsV .u64 (zeros 4)) C9.out (i94 L_lr.out) (lenEq (show (natsV .u64 (zeros 4)).length = 4 from rfl) (by rw [natsV_length, L_lr.out])) (natsV_one _ _) ?_))
  refine bodyPost_ret (v := .tuple #[.agg (natsV .u64 lr).toArray, .bool true]) ?_ rfl ⟨rfl, below_setRow' hbel10 (by first | exact Nat.le_refl _ | omega) _⟩
  exact results_two Try.results113 _ _ (w.heap.size + 1) 94 _ (0, 0) _ _ rfl rfl (C9.out.setRow _) Try.underlying94 rfl (by simpa using (i94 L_lr.out))
set_option maxRecDepth 100000 in
set_option maxHeartbeats 1600000 in
theorem croot_no {la : List Nat} (hla : la.length = 4)
    (c1 : ∀ w, Calls Try.prog 130 #[.agg (natsV .u64 la).toArray] w fun e w' => e = .returned (.tuple #[.agg (natsV .u64 (zeros 4)).toArray, .bool false]) ∧ Below w.heap.size w w') (w : World) :
    Calls Try.prog 113 #[.agg (natsV .u64 la).toArray] w fun e w' => e = .returned (.tuple #[.agg (natsV .u64 (zeros 4)).toArray, .bool false]) ∧ Below w.heap.size w w' := by
  have L_la := Lib.hid hla
  clear hla
  have Hc1 := Lib.hid c1
  clear c1
  have B0_ := Lib.hid ((Blk.new w  94 (natsV .u64 la)).alloc (.cells (natsV .u64 (zeros 4)).toArray 94))
  have B1_ := Lib.hid (Blk.new2 w (.cells (natsV .u64 la).toArray 94) 94 (natsV .u64 (zeros 4)))
  have bel_ := (((Below.refl w.heap.size w).alloc (Nat.le_refl _) (.cells (natsV .u64 la).toArray 94)).alloc (by simp) (.cells (natsV .u64 (zeros 4)).toArray 94))
  go_enter Try.func113, Try.ntmps113
  go_wp2_with (first | (refine wpList_load_mid rfl 94 (.tmp 1) rfl w.heap.size 0 rfl (natsV .u64 la) _ (blk_all (B0_.out)) Try.underlying94 rfl (i94 L_la.out) ?_))
  refine (Hc1.out _).mono ?_
  rintro e w1 ⟨rfl, hbw1⟩
  have C2 := Lib.hid (B0_.out.gr hbw1)
  clear B0_
  have C3 := Lib.hid (B1_.out.gr hbw1)
  clear B1_
  have hbel4 := bel_.trans (Below.mono hbw1 bel_.size)
  clear bel_
  clear hbw1
  go_wp2_with (first | (refine stB rfl 24 (.tmp 4) (.tmp 9) rfl w1.heap.size rfl (natsV .u64 (zeros 4)) rfl 24 (natsV .u64 (zeros 4)) (Blk.new w1 24 (natsV .u64 (zeros 4))) (i24 (show (zeros 4).length = 4 from rfl)) (lenEq (show (natsV .u64 (zeros 4)).length = 4 from rfl) (by rw [natsV_length, (show (zeros 4).length = 4 from rfl)])) (natsV_one _ _) ?_; generalize hW : World.setRow _ _ _ = w5; obtain ⟨hgw5, hnw5⟩ := newfacts hW; clear hW; have C8 := Lib.hid (C2.out.gr hgw5); clear C2; have C9 := Lib.hid (C3.out.gr hgw5); clear C3; have hbel10 := hbel4.trans (Below.mono hgw5 hbel4.size); clear hbel4; have D7 := Lib.hid hnw5; have szw5 := hgw5.size; clear hnw5 hgw5 szw5; generalize w1.heap.size = G6 at *) | (refine wpList_load_mid rfl 24 (.tmp 4) rfl G6 0 rfl (natsV .u64 (zeros 4)) _ (blk_all (D7.out)) Try.underlying24 rfl (i24 (show (zeros 4).length = 4 from rfl)) ?_) | (refine stB rfl 94 (.tmp 2) (.tmp 11) rfl (w.heap.size + 1) rfl (natsV .u64 (zeros 4)) rfl 94 (natsV .u64 (zeros 4)) C9.out (i94 (show (zeros 4).length = 4 from rfl)) (lenEq (show (natsV .u64 (zeros 4)).length = 4 from rfl) (by rw [natsV_length, (show (zeros 4).length = 4 from rfl)])) (natsV_one _ _) ?_))
  refine bodyPost_ret (v := .tuple #[.agg (natsV .u64 (zeros 4)).toArray, .bool false]) ?_ rfl ⟨rfl, below_setRow' hbel10 (by first | exact Nat.le_refl _ | omega) _⟩
  exact results_two Try.results113 _ _ (w.heap.size + 1) 94 _ (0, 0) _ _ rfl rfl (C9.out.setRow _) Try.underlying94 rfl (by simpa using (i94 (show (zeros 4).length = 4 from rfl)))
end Go.Proofs.Ytfffmoolkgheaaa
