/- Parts of proofs of statements, each text behind those that it stands on. No condition of its own. -/
import Derived.Test.YtfffmoolkgheaaaY10
import Derived.Test.YtfffmoolkgheaaaY15
namespace Go.Proofs.Ytfffmoolkgheaaa
open Go.RowKit
set_option linter.unusedVariables false
set_option linter.unusedSimpArgs false
set_option maxRecDepth 100000 in
set_option maxHeartbeats 1600000 in
theorem packed_below {lx : List Nat} {b o c : Nat} {odd : Bool} (w : World) (hlx : lx.length = 4)
    (h32 : 32 ≤ c)
    (hcm : c ≤ maxLen)
    (c1 : ∀ W, Below w.heap.size w W → Calls Try.prog 112 #[.slice (some ⟨b, o, none⟩) 32 (c)] W fun e w' => e = .returned (.tuple #[.agg (natsV .u64 lx).toArray, .int .i64 0]) ∧ Below W.heap.size W w')
    (c2 : ∀ w, Calls Try.prog 70 #[.agg (natsV .u64 lx).toArray] w fun e w' => e = .returned (.bool false) ∧ Below w.heap.size w w') :
    Calls Try.prog 77 #[.slice (some ⟨b, o, none⟩) 32 (c), .bool odd] w fun e w' => e = .returned (.tuple #[.agg (pv (zeros 4) (zeros 4) false).toArray, .int .i64 62]) ∧ Below w.heap.size w w' := by
  have L_lx := Lib.hid hlx
  clear hlx
  have Hc1 := Lib.hid c1
  clear c1
  have Hc2 := Lib.hid c2
  clear c2
  unfold maxLen at hcm
  have B0_ := Lib.hid (Blk.new w  43 (pv (zeros 4) (zeros 4) false))
  have bel_ := ((Below.refl w.heap.size w).alloc (Nat.le_refl _) (.cells (pv (zeros 4) (zeros 4) false).toArray 43))
  go_enter Try.func77, Try.ntmps77
  go_wp2_with fail
  refine (Hc1.out _ bel_).mono ?_
  rintro e w1 ⟨rfl, hbw1⟩
  have C2 := Lib.hid (B0_.out.gr hbw1)
  clear B0_
  have hbel3 := bel_.trans (Below.mono hbw1 bel_.size)
  clear bel_
  clear hbw1
  go_wp2_with (first | (refine stB rfl 24 (.tmp 6) (.tmp 13) rfl w1.heap.size rfl (natsV .u64 lx) rfl 24 (natsV .u64 (zeros 4)) (Blk.new w1 24 (natsV .u64 (zeros 4))) (i24 L_lx.out) (lenEq (show (natsV .u64 (zeros 4)).length = 4 from rfl) (by rw [natsV_length, L_lx.out])) (natsV_one _ _) ?_; generalize hW : World.setRow _ _ _ = w4; obtain ⟨hgw4, hnw4⟩ := newfacts hW; clear hW; have NE7 := Lib.hid (Nat.ne_of_lt (C2.out.lt)); have C8 := Lib.hid (C2.out.gr hgw4); clear C2; have hbel9 := hbel3.trans (Below.mono hgw4 hbel3.size); clear hbel3; have D6 := Lib.hid hnw4; have szw4 := hgw4.size; clear hnw4 hgw4 szw4; generalize w1.heap.size = G5 at *) | (refine wpList_load_mid rfl 24 (.tmp 6) rfl G5 0 rfl (natsV .u64 lx) _ (blk_all (D6.out)) Try.underlying24 rfl (i24 L_lx.out) ?_))
  refine (Hc2.out _).mono ?_
  rintro e w10 ⟨rfl, hbw10⟩
  have C11 := Lib.hid (C8.out.gr hbw10)
  clear C8
  have C12 := Lib.hid (D6.out.gr hbw10)
  clear D6
  have hbel13 := hbel9.trans (Below.mono hbw10 hbel9.size)
  clear hbel9
  clear hbw10
  go_wp2_with (first | (refine stB rfl 43 (.tmp 4) (.tmp 18) rfl w.heap.size rfl (pv (zeros 4) (zeros 4) false) rfl 43 (pv (zeros 4) (zeros 4) false) C11.out (i43 rfl rfl) (lenEq (show (pv (zeros 4) (zeros 4) false).length = 9 from rfl) (show (pv (zeros 4) (zeros 4) false).length = 9 from rfl)) (pv_one _ _ _) ?_))
  refine bodyPost_ret (v := .tuple #[.agg (pv (zeros 4) (zeros 4) false).toArray, .int .i64 62]) ?_ rfl ⟨rfl, below_setRow' hbel13 (by first | exact Nat.le_refl _ | omega) _⟩
  exact results_two Try.results77 _ _ w.heap.size 43 _ (0, 0) _ _ rfl rfl (C11.out.setRow _) Try.underlying43 rfl (by simpa using (i43 rfl rfl))
set_option maxRecDepth 100000 in
set_option maxHeartbeats 1600000 in
theorem packed_none {lx fx rs : List Nat} {b o c : Nat} {odd : Bool} (w : World) (hlx : lx.length = 4) (hfx : fx.length = 4) (hrs : rs.length = 4)
    (h32 : 32 ≤ c)
    (hcm : c ≤ maxLen)
    (c1 : ∀ W, Below w.heap.size w W → Calls Try.prog 112 #[.slice (some ⟨b, o, none⟩) 32 (c)] W fun e w' => e = .returned (.tuple #[.agg (natsV .u64 lx).toArray, .int .i64 0]) ∧ Below W.heap.size W w')
    (c2 : ∀ w, Calls Try.prog 70 #[.agg (natsV .u64 lx).toArray] w fun e w' => e = .returned (.bool true) ∧ Below w.heap.size w w')
    (c3 : ∀ w, Calls Try.prog 71 #[.agg (natsV .u64 lx).toArray] w fun e w' => e = .returned (.agg (natsV .u64 fx).toArray) ∧ Below w.heap.size w w')
    (c4 : ∀ w, Calls Try.prog 73 #[.agg (natsV .u64 fx).toArray] w fun e w' => e = .returned (.agg (natsV .u64 rs).toArray) ∧ Below w.heap.size w w')
    (c5 : ∀ w, Calls Try.prog 113 #[.agg (natsV .u64 rs).toArray] w fun e w' => e = .returned (.tuple #[.agg (natsV .u64 (zeros 4)).toArray, .bool false]) ∧ Below w.heap.size w w') :
    Calls Try.prog 77 #[.slice (some ⟨b, o, none⟩) 32 (c), .bool odd] w fun e w' => e = .returned (.tuple #[.agg (pv (zeros 4) (zeros 4) false).toArray, .int .i64 62]) ∧ Below w.heap.size w w' := by
  have L_lx := Lib.hid hlx
  clear hlx
  have L_fx := Lib.hid hfx
  clear hfx
  have L_rs := Lib.hid hrs
  clear hrs
  have Hc1 := Lib.hid c1
  clear c1
  have Hc2 := Lib.hid c2
  clear c2
  have Hc3 := Lib.hid c3
  clear c3
  have Hc4 := Lib.hid c4
  clear c4
  have Hc5 := Lib.hid c5
  clear c5
  unfold maxLen at hcm
  have B0_ := Lib.hid (Blk.new w  43 (pv (zeros 4) (zeros 4) false))
  have bel_ := ((Below.refl w.heap.size w).alloc (Nat.le_refl _) (.cells (pv (zeros 4) (zeros 4) false).toArray 43))
  go_enter Try.func77, Try.ntmps77
  go_wp2_with fail
  refine (Hc1.out _ bel_).mono ?_
  rintro e w1 ⟨rfl, hbw1⟩
  have C2 := Lib.hid (B0_.out.gr hbw1)
  clear B0_
  have hbel3 := bel_.trans (Below.mono hbw1 bel_.size)
  clear bel_
  clear hbw1
  go_wp2_with (first | (refine stB rfl 24 (.tmp 6) (.tmp 13) rfl w1.heap.size rfl (natsV .u64 lx) rfl 24 (natsV .u64 (zeros 4)) (Blk.new w1 24 (natsV .u64 (zeros 4))) (i24 L_lx.out) (lenEq (show (natsV .u64 (zeros 4)).length = 4 from rfl) (by rw [natsV_length, L_lx.out])) (natsV_one _ _) ?_; generalize hW : World.setRow _ _ _ = w4; obtain ⟨hgw4, hnw4⟩ := newfacts hW; clear hW; have NE7 := Lib.hid (Nat.ne_of_lt (C2.out.lt)); have C8 := Lib.hid (C2.out.gr hgw4); clear C2; have hbel9 := hbel3.trans (Below.mono hgw4 hbel3.size); clear hbel3; have D6 := Lib.hid hnw4; have szw4 := hgw4.size; clear hnw4 hgw4 szw4; generalize w1.heap.size = G5 at *) | (refine wpList_load_mid rfl 24 (.tmp 6) rfl G5 0 rfl (natsV .u64 lx) _ (blk_all (D6.out)) Try.underlying24 rfl (i24 L_lx.out) ?_))
  refine (Hc2.out _).mono ?_
  rintro e w10 ⟨rfl, hbw10⟩
  have C11 := Lib.hid (C8.out.gr hbw10)
  clear C8
  have C12 := Lib.hid (D6.out.gr hbw10)
  clear D6
  have hbel13 := hbel9.trans (Below.mono hbw10 hbel9.size)
  clear hbel9
  clear hbw10
  go_wp2_with (first | (refine wpList_load_mid rfl 24 (.tmp 6) rfl G5 0 rfl (natsV .u64 lx) _ (blk_all (C12.out)) Try.underlying24 rfl (i24 L_lx.out) ?_))
  refine (Hc3.out _).mono ?_
  rintro e w14 ⟨rfl, hbw14⟩
  have C15 := Lib.hid (C11.out.gr hbw14)
  clear C11
  have C16 := Lib.hid (C12.out.gr hbw14)
  clear C12
  have hbel17 := hbel13.trans (Below.mono hbw14 hbel13.size)
  clear hbel13
  clear hbw14
  go_wp2_with fail
  refine (Hc4.out _).mono ?_
  rintro e w18 ⟨rfl, hbw18⟩
  have C19 := Lib.hid (C15.out.gr hbw18)
  clear C15
  have C20 := Lib.hid (C16.out.gr hbw18)
  clear C16
  have hbel21 := hbel17.trans (Below.mono hbw18 hbel17.size)
  clear hbel17
  clear hbw18
  go_wp2_with fail
  refine (Hc5.out _).mono ?_
  rintro e w22 ⟨rfl, hbw22⟩
  have C23 := Lib.hid (C19.out.gr hbw22)
  clear C19
  have C24 := Lib.hid (C20.out.gr hbw22)
  clear C20
  have hbel25 := hbel21.trans (Below.mono hbw22 hbel21.size)
  clear hbel21
  clear hbw22
  go_wp2_with (first | (refine stB rfl 94 (.tmp 8) (.tmp 24) rfl w22.heap.size rfl (natsV .u64 (zeros 4)) rfl 94 (natsV .u64 (zeros 4)) (Blk.new w22 94 (natsV .u64 (zeros 4))) (i94 (show (zeros 4).length = 4 from rfl)) (lenEq (show (natsV .u64 (zeros 4)).length = 4 from rfl) (by rw [natsV_length, (show (zeros 4).length = 4 from rfl)])) (natsV_one _ _) ?_; generalize hW : World.setRow _ _ _ = w26; obtain ⟨hgw26, hnw26⟩ := newfacts hW; clear hW; have NE29 := Lib.hid (Nat.ne_of_lt (C23.out.lt)); have NE30 := Lib.hid (Nat.ne_of_lt (C24.out.lt)); have GE31 := Lib.hid hbel25.size; have C32 := Lib.hid (C23.out.gr hgw26); clear C23; have C33 := Lib.hid (C24.out.gr hgw26); clear C24; have hbel34 := hbel25.trans (Below.mono hgw26 hbel25.size); clear hbel25; have D28 := Lib.hid hnw26; have szw26 := hgw26.size; clear hnw26 hgw26 szw26; generalize w22.heap.size = G27 at *) | (refine stB rfl 43 (.tmp 4) (.tmp 28) rfl w.heap.size rfl (pv (zeros 4) (zeros 4) false) rfl 43 (pv (zeros 4) (zeros 4) false) C32.out (i43 rfl rfl) (lenEq (show (pv (zeros 4) (zeros 4) false).length = 9 from rfl) (show (pv (zeros 4) (zeros 4) false).length = 9 from rfl)) (pv_one _ _ _) ?_))
  refine bodyPost_ret (v := .tuple #[.agg (pv (zeros 4) (zeros 4) false).toArray, .int .i64 62]) ?_ rfl ⟨rfl, below_setRow' hbel34 (by first | exact Nat.le_refl _ | omega) _⟩
  exact results_two Try.results77 _ _ w.heap.size 43 _ (0, 0) _ _ rfl rfl (C32.out.setRow _) Try.underlying43 rfl (by simpa using (i43 rfl rfl))
set_option maxRecDepth 100000 in
set_option maxHeartbeats 1600000 in
theorem packed_even {lx fx rs fy ly : List Nat} {b o c : Nat} (w : World) (hlx : lx.length = 4) (hfx : fx.length = 4) (hrs : rs.length = 4) (hfy : fy.length = 4) (hly : ly.length = 4)
    (h32 : 32 ≤ c)
    (hcm : c ≤ maxLen)
    (c1 : ∀ W, Below w.heap.size w W → Calls Try.prog 112 #[.slice (some ⟨b, o, none⟩) 32 (c)] W fun e w' => e = .returned (.tuple #[.agg (natsV .u64 lx).toArray, .int .i64 0]) ∧ Below W.heap.size W w')
    (c2 : ∀ w, Calls Try.prog 70 #[.agg (natsV .u64 lx).toArray] w fun e w' => e = .returned (.bool true) ∧ Below w.heap.size w w')
    (c3 : ∀ w, Calls Try.prog 71 #[.agg (natsV .u64 lx).toArray] w fun e w' => e = .returned (.agg (natsV .u64 fx).toArray) ∧ Below w.heap.size w w')
    (c4 : ∀ w, Calls Try.prog 73 #[.agg (natsV .u64 fx).toArray] w fun e w' => e = .returned (.agg (natsV .u64 rs).toArray) ∧ Below w.heap.size w w')
    (c5 : ∀ w, Calls Try.prog 113 #[.agg (natsV .u64 rs).toArray] w fun e w' => e = .returned (.tuple #[.agg (natsV .u64 fy).toArray, .bool true]) ∧ Below w.heap.size w w')
    (c6 : ∀ w, Calls Try.prog 114 #[.agg (natsV .u64 fy).toArray] w fun e w' => e = .returned (.agg (natsV .u64 ly).toArray) ∧ Below w.heap.size w w') :
    Calls Try.prog 77 #[.slice (some ⟨b, o, none⟩) 32 (c), .bool false] w fun e w' => e = .returned (.tuple #[.agg (pv lx ly false).toArray, .int .i64 0]) ∧ Below w.heap.size w w' := by
  have L_lx := Lib.hid hlx
  clear hlx
  have L_fx := Lib.hid hfx
  clear hfx
  have L_rs := Lib.hid hrs
  clear hrs
  have L_fy := Lib.hid hfy
  clear hfy
  have L_ly := Lib.hid hly
  clear hly
  have Hc1 := Lib.hid c1
  clear c1
  have Hc2 := Lib.hid c2
  clear c2
  have Hc3 := Lib.hid c3
  clear c3
  have Hc4 := Lib.hid c4
  clear c4
  have Hc5 := Lib.hid c5
  clear c5
  have Hc6 := Lib.hid c6
  clear c6
  unfold maxLen at hcm
  have B0_ := Lib.hid (Blk.new w  43 (pv (zeros 4) (zeros 4) false))
  have bel_ := ((Below.refl w.heap.size w).alloc (Nat.le_refl _) (.cells (pv (zeros 4) (zeros 4) false).toArray 43))
  go_enter Try.func77, Try.ntmps77
  go_wp2_with fail
  refine (Hc1.out _ bel_).mono ?_
  rintro e w1 ⟨rfl, hbw1⟩
  have C2 := Lib.hid (B0_.out.gr hbw1)
  clear B0_
  have hbel3 := bel_.trans (Below.mono hbw1 bel_.size)
  clear bel_
  clear hbw1
  go_wp2_with (first | (refine stB rfl 24 (.tmp 6) (.tmp 13) rfl w1.heap.size rfl (natsV .u64 lx) rfl 24 (natsV .u64 (zeros 4)) (Blk.new w1 24 (natsV .u64 (zeros 4))) (i24 L_lx.out) (lenEq (show (natsV .u64 (zeros 4)).length = 4 from rfl) (by rw [natsV_length, L_lx.out])) (natsV_one _ _) ?_; generalize hW : World.setRow _ _ _ = w4; obtain ⟨hgw4, hnw4⟩ := newfacts hW; clear hW; have NE7 := Lib.hid (Nat.ne_of_lt (C2.out.lt)); have C8 := Lib.hid (C2.out.gr hgw4); clear C2; have hbel9 := hbel3.trans (Below.mono hgw4 hbel3.size); clear hbel3; have D6 := Lib.hid hnw4; have szw4 := hgw4.size; clear hnw4 hgw4 szw4; generalize w1.heap.size = G5 at *) | (refine wpList_load_mid rfl 24 (.tmp 6) rfl G5 0 rfl (natsV .u64 lx) _ (blk_all (D6.out)) Try.underlying24 rfl (i24 L_lx.out) ?_))
  refine (Hc2.out _).mono ?_
  rintro e w10 ⟨rfl, hbw10⟩
  have C11 := Lib.hid (C8.out.gr hbw10)
  clear C8
  have C12 := Lib.hid (D6.out.gr hbw10)
  clear D6
  have hbel13 := hbel9.trans (Below.mono hbw10 hbel9.size)
  clear hbel9
  clear hbw10
  go_wp2_with (first | (refine wpList_load_mid rfl 24 (.tmp 6) rfl G5 0 rfl (natsV .u64 lx) _ (blk_all (C12.out)) Try.underlying24 rfl (i24 L_lx.out) ?_))
  refine (Hc3.out _).mono ?_
  rintro e w14 ⟨rfl, hbw14⟩
  have C15 := Lib.hid (C11.out.gr hbw14)
  clear C11
  have C16 := Lib.hid (C12.out.gr hbw14)
  clear C12
  have hbel17 := hbel13.trans (Below.mono hbw14 hbel13.size)
  clear hbel13
  clear hbw14
  go_wp2_with fail
  refine (Hc4.out _).mono ?_
  rintro e w18 ⟨rfl, hbw18⟩
  have C19 := Lib.hid (C15.out.gr hbw18)
  clear C15
  have C20 := Lib.hid (C16.out.gr hbw18)
  clear C16
  have hbel21 := hbel17.trans (Below.mono hbw18 hbel17.size)
  clear hbel17
  clear hbw18
  go_wp2_with fail
  refine (Hc5.out _).mono ?_
  rintro e w22 ⟨rfl, hbw22⟩
  have C23 := Lib.hid (C19.out.gr hbw22)
  clear C19
  have C24 := Lib.hid (C20.out.gr hbw22)
  clear C20
  have hbel25 := hbel21.trans (Below.mono hbw22 hbel21.size)
  clear hbel21
  clear hbw22
  go_wp2_with (first | (refine stB rfl 94 (.tmp 8) (.tmp 24) rfl w22.heap.size rfl (natsV .u64 fy) rfl 94 (natsV .u64 (zeros 4)) (Blk.new w22 94 (natsV .u64 (zeros 4))) (i94 L_fy.out) (lenEq (show (natsV .u64 (zeros 4)).length = 4 from rfl) (by rw [natsV_length, L_fy.out])) (natsV_one _ _) ?_; generalize hW : World.setRow _ _ _ = w26; obtain ⟨hgw26, hnw26⟩ := newfacts hW; clear hW; have NE29 := Lib.hid (Nat.ne_of_lt (C23.out.lt)); have NE30 := Lib.hid (Nat.ne_of_lt (C24.out.lt)); have GE31 := Lib.hid hbel25.size; have C32 := Lib.hid (C23.out.gr hgw26); clear C23; have C33 := Lib.hid (C24.out.gr hgw26); clear C24; have hbel34 := hbel25.trans (Below.mono hgw26 hbel25.size); clear hbel25; have D28 := Lib.hid hnw26; have szw26 := hgw26.size; clear hnw26 hgw26 szw26; generalize w22.heap.size = G27 at *))
  as_aux_lemma =>
  refine wp_region_G (fun w_ => Blk w_ G5 24 (natsV .u64 lx) ∧ Blk w_ G27 94 (natsV .u64 fy)) 6 (by kernel_rfl) ⟨C33.out.drew, D28.out.drew⟩ ?_
  refine wpAnyG_take (fun _ _ hS_ hb_ => ⟨hS_.1.gr hb_, hS_.2.gr hb_⟩) (i := 0) rfl (by kernel_rfl) (fun _ _ _ h => h) (loadG (by rfl) _ _ rfl _ _ rfl (natsV .u64 lx) _ (fun _ hS_ => blk_all (hS_.1)) Try.underlying24 rfl (i24 L_lx.out)) ?_
  try simp only [Act.put, zq1, zq2, zq3, zq4, zq5, zq6]
  refine wpAnyG_take (fun _ _ hS_ hb_ => ⟨hS_.1.gr hb_, hS_.2.gr hb_⟩) (i := 1) rfl (by kernel_rfl) (fun _ _ _ h => h) (loadG (by rfl) _ _ rfl _ _ rfl (natsV .u64 fy) _ (fun _ hS_ => blk_all (hS_.2)) Try.underlying94 rfl (i94 L_fy.out)) ?_
  try simp only [Act.put, zq1, zq2, zq3, zq4, zq5, zq6]
  refine wpAnyG_take (fun _ _ hS_ hb_ => ⟨hS_.1.gr hb_, hS_.2.gr hb_⟩) (i := 2) rfl (by kernel_rfl) (fun _ _ _ h => h) (callG (by rfl) rfl Try.func114 (by kernel_rfl) (by kernel_rfl) (#[.agg (natsV .u64 fy).toArray]) (by simp [Act.eval]) (fun W_ _ => Hc6.out W_)) ?_
  try simp only [Act.put, zq1, zq2, zq3, zq4, zq5, zq6]
  refine wpAnyG_take (fun _ _ hS_ hb_ => ⟨hS_.1.gr hb_, hS_.2.gr hb_⟩) (i := 3) rfl (by kernel_rfl) (fun _ _ _ h => h) (buildG (by rfl) _ _ rfl _ (built43 L_lx.out L_ly.out) (by simp [Act.eval])) ?_
  try simp only [Act.put, zq1, zq2, zq3, zq4, zq5, zq6]
  refine wpAnyG_store (i := 4) (by kernel_rfl) rfl C32.out.drew (lenEq (show (pv (zeros 4) (zeros 4) false).length = 9 from rfl) (pv_len L_lx.out L_ly.out)) (StoresG.mk (cs := (pv lx ly false)) (by rfl) 43 _ _ rfl rfl rfl (i43 L_lx.out L_ly.out) (pv_one _ _ _)) (.inr (fun _ hS_ => ⟨hS_.1.row _ ((Ne.symm NE7.out)), hS_.2.row _ ((Ne.symm NE29.out))⟩)) ?_
  intro w36 hgw36 hn_
  try simp only [Act.put, zq1, zq2, zq3, zq4, zq5, zq6]
  have hbel37 := belStore hbel34.drew hgw36 (show w.heap.size ≤ w.heap.size by omega)
  have D38 := Lib.hid hn_
  refine wpAnyG_take (fun _ _ hS_ hb_ => ⟨hS_.1.gr hb_, hS_.2.gr hb_⟩) (i := 5) rfl (by kernel_rfl) (fun _ _ _ h => h) (pureG (by rfl) (by intro w; go_simp; first | done | with_reducible rfl)) ?_
  try simp only [Act.put, zq1, zq2, zq3, zq4, zq5, zq6]
  refine wpAnyG_done (by kernel_rfl) ?_ _
  intro w39 hgw39
  try simp only [Act.put, zq1, zq2, zq3, zq4, zq5, zq6]
  have C40 := Lib.hid (D38.out.gr hgw39)
  clear D38
  have hbel41 := hbel37.trans (Below.mono hgw39 hbel37.size)
  clear hbel37
  clear hgw39
  go_wp2_with fail
  refine bodyPost_ret (v := .tuple #[.agg (pv lx ly false).toArray, .int .i64 0]) ?_ rfl ⟨rfl, hbel41⟩
  exact results_two Try.results77 _ _ w.heap.size 43 _ (0, 0) _ _ rfl rfl C40.out Try.underlying43 rfl (by simpa using (i43 L_lx.out L_ly.out))
set_option maxRecDepth 100000 in
set_option maxHeartbeats 1600000 in
theorem packed_odd {lx fx rs fy fm ly : List Nat} {b o c : Nat} (w : World) (hlx : lx.length = 4) (hfx : fx.length = 4) (hrs : rs.length = 4) (hfy : fy.length = 4) (hfm : fm.length = 4) (hly : ly.length = 4)
    (h32 : 32 ≤ c)
    (hcm : c ≤ maxLen)
    (c1 : ∀ W, Below w.heap.size w W → Calls Try.prog 112 #[.slice (some ⟨b, o, none⟩) 32 (c)] W fun e w' => e = .returned (.tuple #[.agg (natsV .u64 lx).toArray, .int .i64 0]) ∧ Below W.heap.size W w')
    (c2 : ∀ w, Calls Try.prog 70 #[.agg (natsV .u64 lx).toArray] w fun e w' => e = .returned (.bool true) ∧ Below w.heap.size w w')
    (c3 : ∀ w, Calls Try.prog 71 #[.agg (natsV .u64 lx).toArray] w fun e w' => e = .returned (.agg (natsV .u64 fx).toArray) ∧ Below w.heap.size w w')
    (c4 : ∀ w, Calls Try.prog 73 #[.agg (natsV .u64 fx).toArray] w fun e w' => e = .returned (.agg (natsV .u64 rs).toArray) ∧ Below w.heap.size w w')
    (c5 : ∀ w, Calls Try.prog 113 #[.agg (natsV .u64 rs).toArray] w fun e w' => e = .returned (.tuple #[.agg (natsV .u64 fy).toArray, .bool true]) ∧ Below w.heap.size w w')
    (c6 : ∀ w, Calls Try.prog 111 #[.agg (natsV .u64 (zeros 4)).toArray, .agg (natsV .u64 fy).toArray] w fun e w' => e = .returned (.agg (natsV .u64 fm).toArray) ∧ Below w.heap.size w w')
    (c7 : ∀ w, Calls Try.prog 114 #[.agg (natsV .u64 fm).toArray] w fun e w' => e = .returned (.agg (natsV .u64 ly).toArray) ∧ Below w.heap.size w w') :
    Calls Try.prog 77 #[.slice (some ⟨b, o, none⟩) 32 (c), .bool true] w fun e w' => e = .returned (.tuple #[.agg (pv lx ly false).toArray, .int .i64 0]) ∧ Below w.heap.size w w' := by
  have L_lx := Lib.hid hlx
  clear hlx
  have L_fx := Lib.hid hfx
  clear hfx
  have L_rs := Lib.hid hrs
  clear hrs
  have L_fy := Lib.hid hfy
  clear hfy
  have L_fm := Lib.hid hfm
  clear hfm
  have L_ly := Lib.hid hly
  clear hly
  have Hc1 := Lib.hid c1
  clear c1
  have Hc2 := Lib.hid c2
  clear c2
  have Hc3 := Lib.hid c3
  clear c3
  have Hc4 := Lib.hid c4
  clear c4
  have Hc5 := Lib.hid c5
  clear c5
  have Hc6 := Lib.hid c6
  clear c6
  have Hc7 := Lib.hid c7
  clear c7
  unfold maxLen at hcm
  have B0_ := Lib.hid (Blk.new w  43 (pv (zeros 4) (zeros 4) false))
  have bel_ := ((Below.refl w.heap.size w).alloc (Nat.le_refl _) (.cells (pv (zeros 4) (zeros 4) false).toArray 43))
  go_enter Try.func77, Try.ntmps77
  go_wp2_with fail
  refine (Hc1.out _ bel_).mono ?_
  rintro e w1 ⟨rfl, hbw1⟩
  have C2 := Lib.hid (B0_.out.gr hbw1)
  clear B0_
  have hbel3 := bel_.trans (Below.mono hbw1 bel_.size)
  clear bel_
  clear hbw1
  go_wp2_with (first | (refine stB rfl 24 (.tmp 6) (.tmp 13) rfl w1.heap.size rfl (natsV .u64 lx) rfl 24 (natsV .u64 (zeros 4)) (Blk.new w1 24 (natsV .u64 (zeros 4))) (i24 L_lx.out) (lenEq (show (natsV .u64 (zeros 4)).length = 4 from rfl) (by rw [natsV_length, L_lx.out])) (natsV_one _ _) ?_; generalize hW : World.setRow _ _ _ = w4; obtain ⟨hgw4, hnw4⟩ := newfacts hW; clear hW; have NE7 := Lib.hid (Nat.ne_of_lt (C2.out.lt)); have C8 := Lib.hid (C2.out.gr hgw4); clear C2; have hbel9 := hbel3.trans (Below.mono hgw4 hbel3.size); clear hbel3; have D6 := Lib.hid hnw4; have szw4 := hgw4.size; clear hnw4 hgw4 szw4; generalize w1.heap.size = G5 at *) | (refine wpList_load_mid rfl 24 (.tmp 6) rfl G5 0 rfl (natsV .u64 lx) _ (blk_all (D6.out)) Try.underlying24 rfl (i24 L_lx.out) ?_))
  refine (Hc2.out _).mono ?_
  rintro e w10 ⟨rfl, hbw10⟩
  have C11 := Lib.hid (C8.out.gr hbw10)
  clear C8
  have C12 := Lib.hid (D6.out.gr hbw10)
  clear D6
  have hbel13 := hbel9.trans (Below.mono hbw10 hbel9.size)
  clear hbel9
  clear hbw10
  go_wp2_with (first | (refine wpList_load_mid rfl 24 (.tmp 6) rfl G5 0 rfl (natsV .u64 lx) _ (blk_all (C12.out)) Try.underlying24 rfl (i24 L_lx.out) ?_))
  refine (Hc3.out _).mono ?_
  rintro e w14 ⟨rfl, hbw14⟩
  have C15 := Lib.hid (C11.out.gr hbw14)
  clear C11
  have C16 := Lib.hid (C12.out.gr hbw14)
  clear C12
  have hbel17 := hbel13.trans (Below.mono hbw14 hbel13.size)
  clear hbel13
  clear hbw14
  go_wp2_with fail
  refine (Hc4.out _).mono ?_
  rintro e w18 ⟨rfl, hbw18⟩
  have C19 := Lib.hid (C15.out.gr hbw18)
  clear C15
  have C20 := Lib.hid (C16.out.gr hbw18)
  clear C16
  have hbel21 := hbel17.trans (Below.mono hbw18 hbel17.size)
  clear hbel17
  clear hbw18
  go_wp2_with fail
  refine (Hc5.out _).mono ?_
  rintro e w22 ⟨rfl, hbw22⟩
  have C23 := Lib.hid (C19.out.gr hbw22)
  clear C19
  have C24 := Lib.hid (C20.out.gr hbw22)
  clear C20
  have hbel25 := hbel21.trans (Below.mono hbw22 hbel21.size)
  clear hbel21
  clear hbw22
  go_wp2_with (first | (refine stB rfl 94 (.tmp 8) (.tmp 24) rfl w22.heap.size rfl (natsV .u64 fy) rfl 94 (natsV .u64 (zeros 4)) (Blk.new w22 94 (natsV .u64 (zeros 4))) (i94 L_fy.out) (lenEq (show (natsV .u64 (zeros 4)).length = 4 from rfl) (by rw [natsV_length, L_fy.out])) (natsV_one _ _) ?_; generalize hW : World.setRow _ _ _ = w26; obtain ⟨hgw26, hnw26⟩ := newfacts hW; clear hW; have NE29 := Lib.hid (Nat.ne_of_lt (C23.out.lt)); have NE30 := Lib.hid (Nat.ne_of_lt (C24.out.lt)); have GE31 := Lib.hid hbel25.size; have C32 := Lib.hid (C23.out.gr hgw26); clear C23; have C33 := Lib.hid (C24.out.gr hgw26); clear C24; have hbel34 := hbel25.trans (Below.mono hgw26 hbel25.size); clear hbel25; have D28 := Lib.hid hnw26; have szw26 := hgw26.size; clear hnw26 hgw26 szw26; generalize w22.heap.size = G27 at *) | (refine wpList_load_mid rfl 94 (.tmp 8) rfl G27 0 rfl (natsV .u64 fy) _ (blk_all (D28.out)) Try.underlying94 rfl (i94 L_fy.out) ?_))
  refine (Hc6.out _).mono ?_
  rintro e w35 ⟨rfl, hbw35⟩
  have C36 := Lib.hid (C32.out.gr hbw35)
  clear C32
  have C37 := Lib.hid (C33.out.gr hbw35)
  clear C33
  have C38 := Lib.hid (D28.out.gr hbw35)
  clear D28
  have hbel39 := hbel34.trans (Below.mono hbw35 hbel34.size)
  clear hbel34
  clear hbw35
  go_wp2_with (first | (refine stB rfl 94 (.tmp 8) (.tmp 32) rfl G27 rfl (natsV .u64 fm) rfl 94 (natsV .u64 fy) C38.out (i94 L_fm.out) (lenEq (by rw [natsV_length, L_fy.out]) (by rw [natsV_length, L_fm.out])) (natsV_one _ _) ?_; generalize hW : World.setRow _ _ _ = w40; obtain ⟨hgw40, hnw40⟩ := setfacts hW C38.out; clear hW; have E41 := Lib.hid (C36.out.grown hgw40 (fun e => NE29.out (Option.some.inj e))); clear C36; have E42 := Lib.hid (C37.out.grown hgw40 (fun e => NE30.out (Option.some.inj e))); clear C37; have D43 := Lib.hid hnw40; clear hnw40 C38; have hbel44 := belStore hbel39 hgw40 (GE31.out); clear hgw40; clear hbel39))
  as_aux_lemma =>
  refine wp_region_G (fun w_ => Blk w_ G5 24 (natsV .u64 lx) ∧ Blk w_ G27 94 (natsV .u64 fm)) 6 (by kernel_rfl) ⟨E42.out.drew, D43.out.drew⟩ ?_
  refine wpAnyG_take (fun _ _ hS_ hb_ => ⟨hS_.1.gr hb_, hS_.2.gr hb_⟩) (i := 0) rfl (by kernel_rfl) (fun _ _ _ h => h) (loadG (by rfl) _ _ rfl _ _ rfl (natsV .u64 lx) _ (fun _ hS_ => blk_all (hS_.1)) Try.underlying24 rfl (i24 L_lx.out)) ?_
  try simp only [Act.put, zq1, zq2, zq3, zq4, zq5, zq6]
  refine wpAnyG_take (fun _ _ hS_ hb_ => ⟨hS_.1.gr hb_, hS_.2.gr hb_⟩) (i := 1) rfl (by kernel_rfl) (fun _ _ _ h => h) (loadG (by rfl) _ _ rfl _ _ rfl (natsV .u64 fm) _ (fun _ hS_ => blk_all (hS_.2)) Try.underlying94 rfl (i94 L_fm.out)) ?_
  try simp only [Act.put, zq1, zq2, zq3, zq4, zq5, zq6]
  refine wpAnyG_take (fun _ _ hS_ hb_ => ⟨hS_.1.gr hb_, hS_.2.gr hb_⟩) (i := 2) rfl (by kernel_rfl) (fun _ _ _ h => h) (callG (by rfl) rfl Try.func114 (by kernel_rfl) (by kernel_rfl) (#[.agg (natsV .u64 fm).toArray]) (by simp [Act.eval]) (fun W_ _ => Hc7.out W_)) ?_
  try simp only [Act.put, zq1, zq2, zq3, zq4, zq5, zq6]
  refine wpAnyG_take (fun _ _ hS_ hb_ => ⟨hS_.1.gr hb_, hS_.2.gr hb_⟩) (i := 3) rfl (by kernel_rfl) (fun _ _ _ h => h) (buildG (by rfl) _ _ rfl _ (built43 L_lx.out L_ly.out) (by simp [Act.eval])) ?_
  try simp only [Act.put, zq1, zq2, zq3, zq4, zq5, zq6]
  refine wpAnyG_store (i := 4) (by kernel_rfl) rfl E41.out.drew (lenEq (show (pv (zeros 4) (zeros 4) false).length = 9 from rfl) (pv_len L_lx.out L_ly.out)) (StoresG.mk (cs := (pv lx ly false)) (by rfl) 43 _ _ rfl rfl rfl (i43 L_lx.out L_ly.out) (pv_one _ _ _)) (.inr (fun _ hS_ => ⟨hS_.1.row _ ((Ne.symm NE7.out)), hS_.2.row _ ((Ne.symm NE29.out))⟩)) ?_
  intro w46 hgw46 hn_
  try simp only [Act.put, zq1, zq2, zq3, zq4, zq5, zq6]
  have hbel47 := belStore hbel44.drew hgw46 (show w.heap.size ≤ w.heap.size by omega)
  have D48 := Lib.hid hn_
  refine wpAnyG_take (fun _ _ hS_ hb_ => ⟨hS_.1.gr hb_, hS_.2.gr hb_⟩) (i := 5) rfl (by kernel_rfl) (fun _ _ _ h => h) (pureG (by rfl) (by intro w; go_simp; first | done | with_reducible rfl)) ?_
  try simp only [Act.put, zq1, zq2, zq3, zq4, zq5, zq6]
  refine wpAnyG_done (by kernel_rfl) ?_ _
  intro w49 hgw49
  try simp only [Act.put, zq1, zq2, zq3, zq4, zq5, zq6]
  have C50 := Lib.hid (D48.out.gr hgw49)
  clear D48
  have hbel51 := hbel47.trans (Below.mono hgw49 hbel47.size)
  clear hbel47
  clear hgw49
  go_wp2_with fail
  refine bodyPost_ret (v := .tuple #[.agg (pv lx ly false).toArray, .int .i64 0]) ?_ rfl ⟨rfl, hbel51⟩
  exact results_two Try.results77 _ _ w.heap.size 43 _ (0, 0) _ _ rfl rfl C50.out Try.underlying43 rfl (by simpa using (i43 L_lx.out L_ly.out))
end Go.Proofs.Ytfffmoolkgheaaa
namespace Go.Proofs.Ytfffmoolkgheaaa
open Go.RowKit
set_option linter.unusedVariables false
set_option linter.unusedSimpArgs false
set_option maxRecDepth 100000 in
set_option maxHeartbeats 1600000 in
theorem dec_whole {lx ly : List Nat} {b o c : Nat} {ee : Int} {l : List Nat} (w : World) (hlx : lx.length = 4) (hly : ly.length = 4)
    (hB : BIn w (some ⟨b, o, none⟩) 65 c l)
    (h0 : l.getD 0 0 = 4)
    (c1 : ∀ W, Below w.heap.size w W → Calls Try.prog 76 #[.slice (some ⟨b, o + 1, none⟩) 64 (c - 1)] W fun e w' => e = .returned (.tuple #[.agg (pv lx ly false).toArray, .int .i64 ee]) ∧ Below W.heap.size W w') :
    Calls Try.prog 36 #[.slice (some ⟨b, o, none⟩) 65 c] w fun e w' => e = .returned (.tuple #[.agg (pv lx ly false).toArray, .int .i64 ee]) ∧ Below w.heap.size w w' := by
  have L_lx := Lib.hid hlx
  clear hlx
  have L_ly := Lib.hid hly
  clear hly
  have Hc1 := Lib.hid c1
  clear c1
  have hc1 := hB.2.1
  have hc2 := hB.2.2.1
  unfold maxLen at hc2
  have h1c : ¬ (c = 1) := by omega
  have cB := Lib.hid (fun (W : World) (h : Below w.heap.size w W) => bin_cell hB h 0 (by decide))
  clear hB
  rw [h0] at cB
  clear h0
  have B0_ := Lib.hid (Blk.new w  43 (pv (zeros 4) (zeros 4) false))
  have bel_ := ((Below.refl w.heap.size w).alloc (Nat.le_refl _) (.cells (pv (zeros 4) (zeros 4) false).toArray 43))
  go_enter Try.func36, Try.ntmps36
  have c0 : (w.alloc (.cells #[.int .u64 0, .int .u64 0, .int .u64 0, .int .u64 0, .int .u64 0, .int .u64 0, .int .u64 0, .int .u64 0, .bool false] 43)).cell? ⟨b, o, none⟩ = some (.int .u8 4) := cB.out _ bel_
  go_wp2_with fail
  refine (Hc1.out _ bel_).mono ?_
  rintro e w1 ⟨rfl, hbw1⟩
  have C2 := Lib.hid (B0_.out.gr hbw1)
  clear B0_
  have hbel3 := bel_.trans (Below.mono hbw1 bel_.size)
  clear bel_
  clear hbw1
  go_wp2_with (first | (refine stB rfl 43 (.tmp 2) (.tmp 17) rfl w.heap.size rfl (pv lx ly false) rfl 43 (pv (zeros 4) (zeros 4) false) C2.out (i43 L_lx.out L_ly.out) (lenEq (show (pv (zeros 4) (zeros 4) false).length = 9 from rfl) (pv_len L_lx.out L_ly.out)) (pv_one _ _ _) ?_))
  refine bodyPost_ret (v := .tuple #[.agg (pv lx ly false).toArray, .int .i64 ee]) ?_ rfl ⟨rfl, below_setRow' hbel3 (by first | exact Nat.le_refl _ | omega) _⟩
  exact results_two Try.results36 _ _ w.heap.size 43 _ (0, 0) _ _ rfl rfl (C2.out.setRow _) Try.underlying43 rfl (by simpa using (i43 L_lx.out L_ly.out))
set_option maxRecDepth 100000 in
set_option maxHeartbeats 1600000 in
theorem dec_packed2 {lx ly : List Nat} {b o c : Nat} {ee : Int} {l : List Nat} (w : World) (hlx : lx.length = 4) (hly : ly.length = 4)
    (hB : BIn w (some ⟨b, o, none⟩) 33 c l)
    (h0 : l.getD 0 0 = 2)
    (c1 : ∀ W, Below w.heap.size w W → Calls Try.prog 77 #[.slice (some ⟨b, o + 1, none⟩) 32 (c - 1), .bool false] W fun e w' => e = .returned (.tuple #[.agg (pv lx ly false).toArray, .int .i64 ee]) ∧ Below W.heap.size W w') :
    Calls Try.prog 36 #[.slice (some ⟨b, o, none⟩) 33 c] w fun e w' => e = .returned (.tuple #[.agg (pv lx ly false).toArray, .int .i64 ee]) ∧ Below w.heap.size w w' := by
  have L_lx := Lib.hid hlx
  clear hlx
  have L_ly := Lib.hid hly
  clear hly
  have Hc1 := Lib.hid c1
  clear c1
  have hc1 := hB.2.1
  have hc2 := hB.2.2.1
  unfold maxLen at hc2
  have h1c : ¬ (c = 1) := by omega
  have cB := Lib.hid (fun (W : World) (h : Below w.heap.size w W) => bin_cell hB h 0 (by decide))
  clear hB
  rw [h0] at cB
  clear h0
  have B0_ := Lib.hid (Blk.new w  43 (pv (zeros 4) (zeros 4) false))
  have bel_ := ((Below.refl w.heap.size w).alloc (Nat.le_refl _) (.cells (pv (zeros 4) (zeros 4) false).toArray 43))
  go_enter Try.func36, Try.ntmps36
  have c0 : (w.alloc (.cells #[.int .u64 0, .int .u64 0, .int .u64 0, .int .u64 0, .int .u64 0, .int .u64 0, .int .u64 0, .int .u64 0, .bool false] 43)).cell? ⟨b, o, none⟩ = some (.int .u8 2) := cB.out _ bel_
  go_wp2_with fail
  go_wp2_with fail
  as_aux_lemma =>
  refine wp_region_G (fun w_ => Below w.heap.size w w_) 11 (by kernel_rfl) bel_.drew ?_
  refine wpAnyG_take (fun _ _ hS_ hb_ => gr_bel hS_ hb_) (i := 0) rfl (by kernel_rfl) (fun _ _ _ h => h) (pureG (by rfl) (by intro w; go_simp; first | done | with_reducible rfl)) ?_
  try simp only [Act.put, zq1, zq2, zq3, zq4, zq5, zq6]
  refine wpAnyG_take (fun _ _ hS_ hb_ => gr_bel hS_ hb_) (i := 1) rfl (by kernel_rfl) (fun _ _ _ h => h) (pureG (by rfl) (by intro w; go_simp; first | done | with_reducible rfl)) ?_
  try simp only [Act.put, zq1, zq2, zq3, zq4, zq5, zq6]
  refine wpAnyG_take (fun _ _ hS_ hb_ => gr_bel hS_ hb_) (i := 2) rfl (by kernel_rfl) (fun _ _ _ h => h) (pureG (by rfl) (by intro w; go_simp; first | done | with_reducible rfl)) ?_
  try simp only [Act.put, zq1, zq2, zq3, zq4, zq5, zq6]
  refine wpAnyG_take (fun _ _ hS_ hb_ => gr_bel hS_ hb_) (i := 3) rfl (by kernel_rfl) (fun _ _ _ h => h) (pureG (by rfl) (by intro w; go_simp; first | done | with_reducible rfl)) ?_
  try simp only [Act.put, zq1, zq2, zq3, zq4, zq5, zq6]
  refine wpAnyG_take (fun _ _ hS_ hb_ => gr_bel hS_ hb_) (i := 4) rfl (by kernel_rfl) (fun _ _ _ h => h) (worldG (by rfl) (by intro w_ hS_; have cw : w_.cell? ⟨b, o, none⟩ = some (.int .u8 2) := cB.out w_ (hS_); go_simp; first | done | with_reducible rfl)) ?_
  try simp only [Act.put, zq1, zq2, zq3, zq4, zq5, zq6]
  refine wpAnyG_take (fun _ _ hS_ hb_ => gr_bel hS_ hb_) (i := 5) rfl (by kernel_rfl) (fun _ _ _ h => h) (pureG (by rfl) (by intro w; go_simp; first | done | with_reducible rfl)) ?_
  try simp only [Act.put, zq1, zq2, zq3, zq4, zq5, zq6]
  refine wpAnyG_take (fun _ _ hS_ hb_ => gr_bel hS_ hb_) (i := 6) rfl (by kernel_rfl) (fun _ _ _ h => h) (callG (by rfl) rfl Try.func77 (by kernel_rfl) (by kernel_rfl) (#[_, _]) (by simp [Act.eval]) (fun W_ hS_ => Hc1.out _ hS_)) ?_
  try simp only [Act.put, zq1, zq2, zq3, zq4, zq5, zq6]
  refine wpAnyG_take (fun _ _ hS_ hb_ => gr_bel hS_ hb_) (i := 7) rfl (by kernel_rfl) (fun _ _ _ h => h) (pureG (by rfl) (by intro w; go_simp; first | done | with_reducible rfl)) ?_
  try simp only [Act.put, zq1, zq2, zq3, zq4, zq5, zq6]
  refine wpAnyG_take (fun _ _ hS_ hb_ => gr_bel hS_ hb_) (i := 8) rfl (by kernel_rfl) (fun _ _ _ h => h) (pureG (by rfl) (by intro w; go_simp; first | done | with_reducible rfl)) ?_
  try simp only [Act.put, zq1, zq2, zq3, zq4, zq5, zq6]
  refine wpAnyG_store (i := 9) (by kernel_rfl) rfl B0_.out.drew (lenEq (show (pv (zeros 4) (zeros 4) false).length = 9 from rfl) (pv_len L_lx.out L_ly.out)) (StoresG.mk (cs := (pv lx ly false)) (by rfl) 43 _ _ rfl rfl rfl (i43 L_lx.out L_ly.out) (pv_one _ _ _)) (.inr (fun _ hS_ => below_setRow' hS_ (show w.heap.size ≤ w.heap.size by omega) _)) ?_
  intro w2 hgw2 hn_
  try simp only [Act.put, zq1, zq2, zq3, zq4, zq5, zq6]
  have hbel3 := belStore bel_.drew hgw2 (show w.heap.size ≤ w.heap.size by omega)
  have D4 := Lib.hid hn_
  refine wpAnyG_take (fun _ _ hS_ hb_ => gr_bel hS_ hb_) (i := 10) rfl (by kernel_rfl) (fun _ _ _ h => h) (pureG (by rfl) (by intro w; go_simp; first | done | with_reducible rfl)) ?_
  try simp only [Act.put, zq1, zq2, zq3, zq4, zq5, zq6]
  refine wpAnyG_done (by kernel_rfl) ?_ _
  intro w5 hgw5
  try simp only [Act.put, zq1, zq2, zq3, zq4, zq5, zq6]
  have C6 := Lib.hid (D4.out.gr hgw5)
  clear D4
  have hbel7 := hbel3.trans (Below.mono hgw5 hbel3.size)
  clear hbel3
  clear hgw5
  go_wp2_with fail
  refine bodyPost_ret (v := .tuple #[.agg (pv lx ly false).toArray, .int .i64 ee]) ?_ rfl ⟨rfl, hbel7⟩
  exact results_two Try.results36 _ _ w.heap.size 43 _ (0, 0) _ _ rfl rfl C6.out Try.underlying43 rfl (by simpa using (i43 L_lx.out L_ly.out))
set_option maxRecDepth 100000 in
set_option maxHeartbeats 1600000 in
theorem dec_packed3 {lx ly : List Nat} {b o c : Nat} {ee : Int} {l : List Nat} (w : World) (hlx : lx.length = 4) (hly : ly.length = 4)
    (hB : BIn w (some ⟨b, o, none⟩) 33 c l)
    (h0 : l.getD 0 0 = 3)
    (c1 : ∀ W, Below w.heap.size w W → Calls Try.prog 77 #[.slice (some ⟨b, o + 1, none⟩) 32 (c - 1), .bool true] W fun e w' => e = .returned (.tuple #[.agg (pv lx ly false).toArray, .int .i64 ee]) ∧ Below W.heap.size W w') :
    Calls Try.prog 36 #[.slice (some ⟨b, o, none⟩) 33 c] w fun e w' => e = .returned (.tuple #[.agg (pv lx ly false).toArray, .int .i64 ee]) ∧ Below w.heap.size w w' := by
  have L_lx := Lib.hid hlx
  clear hlx
  have L_ly := Lib.hid hly
  clear hly
  have Hc1 := Lib.hid c1
  clear c1
  have hc1 := hB.2.1
  have hc2 := hB.2.2.1
  unfold maxLen at hc2
  have h1c : ¬ (c = 1) := by omega
  have cB := Lib.hid (fun (W : World) (h : Below w.heap.size w W) => bin_cell hB h 0 (by decide))
  clear hB
  rw [h0] at cB
  clear h0
  have B0_ := Lib.hid (Blk.new w  43 (pv (zeros 4) (zeros 4) false))
  have bel_ := ((Below.refl w.heap.size w).alloc (Nat.le_refl _) (.cells (pv (zeros 4) (zeros 4) false).toArray 43))
  go_enter Try.func36, Try.ntmps36
  have c0 : (w.alloc (.cells #[.int .u64 0, .int .u64 0, .int .u64 0, .int .u64 0, .int .u64 0, .int .u64 0, .int .u64 0, .int .u64 0, .bool false] 43)).cell? ⟨b, o, none⟩ = some (.int .u8 3) := cB.out _ bel_
  go_wp2_with fail
  go_wp2_with fail
  as_aux_lemma =>
  refine wp_region_G (fun w_ => Below w.heap.size w w_) 11 (by kernel_rfl) bel_.drew ?_
  refine wpAnyG_take (fun _ _ hS_ hb_ => gr_bel hS_ hb_) (i := 0) rfl (by kernel_rfl) (fun _ _ _ h => h) (pureG (by rfl) (by intro w; go_simp; first | done | with_reducible rfl)) ?_
  try simp only [Act.put, zq1, zq2, zq3, zq4, zq5, zq6]
  refine wpAnyG_take (fun _ _ hS_ hb_ => gr_bel hS_ hb_) (i := 1) rfl (by kernel_rfl) (fun _ _ _ h => h) (pureG (by rfl) (by intro w; go_simp; first | done | with_reducible rfl)) ?_
  try simp only [Act.put, zq1, zq2, zq3, zq4, zq5, zq6]
  refine wpAnyG_take (fun _ _ hS_ hb_ => gr_bel hS_ hb_) (i := 2) rfl (by kernel_rfl) (fun _ _ _ h => h) (pureG (by rfl) (by intro w; go_simp; first | done | with_reducible rfl)) ?_
  try simp only [Act.put, zq1, zq2, zq3, zq4, zq5, zq6]
  refine wpAnyG_take (fun _ _ hS_ hb_ => gr_bel hS_ hb_) (i := 3) rfl (by kernel_rfl) (fun _ _ _ h => h) (pureG (by rfl) (by intro w; go_simp; first | done | with_reducible rfl)) ?_
  try simp only [Act.put, zq1, zq2, zq3, zq4, zq5, zq6]
  refine wpAnyG_take (fun _ _ hS_ hb_ => gr_bel hS_ hb_) (i := 4) rfl (by kernel_rfl) (fun _ _ _ h => h) (worldG (by rfl) (by intro w_ hS_; have cw : w_.cell? ⟨b, o, none⟩ = some (.int .u8 3) := cB.out w_ (hS_); go_simp; first | done | with_reducible rfl)) ?_
  try simp only [Act.put, zq1, zq2, zq3, zq4, zq5, zq6]
  refine wpAnyG_take (fun _ _ hS_ hb_ => gr_bel hS_ hb_) (i := 5) rfl (by kernel_rfl) (fun _ _ _ h => h) (pureG (by rfl) (by intro w; go_simp; first | done | with_reducible rfl)) ?_
  try simp only [Act.put, zq1, zq2, zq3, zq4, zq5, zq6]
  refine wpAnyG_take (fun _ _ hS_ hb_ => gr_bel hS_ hb_) (i := 6) rfl (by kernel_rfl) (fun _ _ _ h => h) (callG (by rfl) rfl Try.func77 (by kernel_rfl) (by kernel_rfl) (#[_, _]) (by simp [Act.eval]) (fun W_ hS_ => Hc1.out _ hS_)) ?_
  try simp only [Act.put, zq1, zq2, zq3, zq4, zq5, zq6]
  refine wpAnyG_take (fun _ _ hS_ hb_ => gr_bel hS_ hb_) (i := 7) rfl (by kernel_rfl) (fun _ _ _ h => h) (pureG (by rfl) (by intro w; go_simp; first | done | with_reducible rfl)) ?_
  try simp only [Act.put, zq1, zq2, zq3, zq4, zq5, zq6]
  refine wpAnyG_take (fun _ _ hS_ hb_ => gr_bel hS_ hb_) (i := 8) rfl (by kernel_rfl) (fun _ _ _ h => h) (pureG (by rfl) (by intro w; go_simp; first | done | with_reducible rfl)) ?_
  try simp only [Act.put, zq1, zq2, zq3, zq4, zq5, zq6]
  refine wpAnyG_store (i := 9) (by kernel_rfl) rfl B0_.out.drew (lenEq (show (pv (zeros 4) (zeros 4) false).length = 9 from rfl) (pv_len L_lx.out L_ly.out)) (StoresG.mk (cs := (pv lx ly false)) (by rfl) 43 _ _ rfl rfl rfl (i43 L_lx.out L_ly.out) (pv_one _ _ _)) (.inr (fun _ hS_ => below_setRow' hS_ (show w.heap.size ≤ w.heap.size by omega) _)) ?_
  intro w2 hgw2 hn_
  try simp only [Act.put, zq1, zq2, zq3, zq4, zq5, zq6]
  have hbel3 := belStore bel_.drew hgw2 (show w.heap.size ≤ w.heap.size by omega)
  have D4 := Lib.hid hn_
  refine wpAnyG_take (fun _ _ hS_ hb_ => gr_bel hS_ hb_) (i := 10) rfl (by kernel_rfl) (fun _ _ _ h => h) (pureG (by rfl) (by intro w; go_simp; first | done | with_reducible rfl)) ?_
  try simp only [Act.put, zq1, zq2, zq3, zq4, zq5, zq6]
  refine wpAnyG_done (by kernel_rfl) ?_ _
  intro w5 hgw5
  try simp only [Act.put, zq1, zq2, zq3, zq4, zq5, zq6]
  have C6 := Lib.hid (D4.out.gr hgw5)
  clear D4
  have hbel7 := hbel3.trans (Below.mono hgw5 hbel3.size)
  clear hbel3
  clear hgw5
  go_wp2_with fail
  refine bodyPost_ret (v := .tuple #[.agg (pv lx ly false).toArray, .int .i64 ee]) ?_ rfl ⟨rfl, hbel7⟩
  exact results_two Try.results36 _ _ w.heap.size 43 _ (0, 0) _ _ rfl rfl C6.out Try.underlying43 rfl (by simpa using (i43 L_lx.out L_ly.out))
end Go.Proofs.Ytfffmoolkgheaaa
