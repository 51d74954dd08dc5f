/- Parts of proofs of statements, each text behind those that it stands on. No condition of its own. -/
import Derived.Test.YtfffmoolkgheaaaY18
import Derived.Test.YtfffmoolkgheaaaY41
import Derived.Test.YtfffmoolkgheaaaY42
namespace Go.Proofs.Ytfffmoolkgheaaa
open Go.RowKit
set_option linter.unusedVariables false
set_option linter.unusedSimpArgs false
set_option maxRecDepth 100000 in
set_option maxHeartbeats 3200000 in
theorem points_off {lx ly gx gy : List Nat} {ip : Bool} (w : World) (hlx : lx.length = 4) (hly : ly.length = 4) (hgx : gx.length = 4) (hgy : gy.length = 4)
    (c1 : ∀ w, Calls Try.prog 24 #[] w fun e w' => e = .returned (.bool true) ∧ Below w.heap.size w w')
    (c2 : ∀ w, Calls Try.prog 25 #[.agg (pv lx ly ip).toArray] w fun e w' => e = .returned (.bool false) ∧ Below w.heap.size w w')
    (c3 : ∀ w, Calls Try.prog 26 #[.agg (pv lx ly ip).toArray] w fun e w' => e = .returned (.tuple #[.slice none 0 0, .int .i64 62]) ∧ Below w.heap.size w w')
    (c4 : ∀ w, Calls Try.prog 27 #[.agg (pv lx ly ip).toArray] w fun e w' => e = .returned (.tuple #[.slice none 0 0, .int .i64 62]) ∧ Below w.heap.size w w')
    (c5 : ∀ w, Calls Try.prog 28 #[.agg (pv lx ly ip).toArray] w fun e w' => e = .returned (.tuple #[.agg (pv (zeros 4) (zeros 4) false).toArray, .int .i64 62]) ∧ Below w.heap.size w w')
    (c6 : ∀ w, Calls Try.prog 29 #[.agg (pv lx ly ip).toArray] w fun e w' => e = .returned (.bool false) ∧ Below w.heap.size w w')
    (c7 : ∀ w, Calls Try.prog 30 #[] w fun e w' => e = .returned (.agg (pv gx gy false).toArray) ∧ Below w.heap.size w w')
    (c8 : ∀ w, Calls Try.prog 31 #[] w fun e w' => e = .returned (.agg (pv gx gy false).toArray) ∧ Below w.heap.size w w') :
    Calls Try.prog 5 #[.agg (pv lx ly ip).toArray] w fun e w' => e = .returned (.bool true) ∧ Below w.heap.size w w' := by
  have L_lx := Lib.hid hlx
  clear hlx
  have L_ly := Lib.hid hly
  clear hly
  have L_gx := Lib.hid hgx
  clear hgx
  have L_gy := Lib.hid hgy
  clear hgy
  have Hc1 := Lib.hid c1
  clear c1
  have Hc2 := Lib.hid c2
  clear c2
  have Hc3 := Lib.hid c3
  clear c3
  have Hc4 := Lib.hid c4
  clear c4
  have Hc5 := Lib.hid c5
  clear c5
  have Hc6 := Lib.hid c6
  clear c6
  have Hc7 := Lib.hid c7
  clear c7
  have Hc8 := Lib.hid c8
  clear c8
  have QG := Lib.hid (fun w => (neq43 gx gy gx gy false false L_gx.out L_gy.out L_gx.out L_gy.out w).trans (by rw [decide_eq_true ⟨rfl, rfl, rfl⟩, Bool.not_true]))
  have QM := Lib.hid (fun w => (neq43 (zeros 4) (zeros 4) (zeros 4) (zeros 4) false false rfl rfl rfl rfl w).trans (by rw [decide_eq_true ⟨rfl, rfl, rfl⟩, Bool.not_true]))
  have QM2 := Lib.hid (fun w => show (binOp .neq 43 (.agg (pv (zeros 4) (zeros 4) false).toArray) (.agg #[.int .u64 0, .int .u64 0, .int .u64 0, .int .u64 0, .int .u64 0, .int .u64 0, .int .u64 0, .int .u64 0, .bool false])).run Try.prog w = _ from QM.out w)
  have B0_ := Lib.hid (Blk.new w  43 (pv lx ly ip))
  have bel_ := ((Below.refl w.heap.size w).alloc (Nat.le_refl _) (.cells (pv lx ly ip).toArray 43))
  go_enter Try.func5, Try.ntmps5
  go_wp2_with fail
  refine (Hc1.out _).mono ?_
  rintro e w1 ⟨rfl, hbw1⟩
  have C2 := Lib.hid (B0_.out.gr hbw1)
  clear B0_
  have hbel3 := bel_.trans (Below.mono hbw1 bel_.size)
  clear bel_
  clear hbw1
  go_wp2_with (first | (refine wpList_load_mid rfl 43 (.tmp 1) rfl w.heap.size 0 rfl (pv lx ly ip) _ (blk_all (C2.out)) Try.underlying43 rfl (i43 L_lx.out L_ly.out) ?_))
  refine (Hc2.out _).mono ?_
  rintro e w4 ⟨rfl, hbw4⟩
  have C5 := Lib.hid (C2.out.gr hbw4)
  clear C2
  have hbel6 := hbel3.trans (Below.mono hbw4 hbel3.size)
  clear hbel3
  clear hbw4
  go_wp2_with (first | (refine wpList_load_mid rfl 43 (.tmp 1) rfl w.heap.size 0 rfl (pv lx ly ip) _ (blk_all (C5.out)) Try.underlying43 rfl (i43 L_lx.out L_ly.out) ?_))
  refine (Hc3.out _).mono ?_
  rintro e w7 ⟨rfl, hbw7⟩
  have C8 := Lib.hid (C5.out.gr hbw7)
  clear C5
  have hbel9 := hbel6.trans (Below.mono hbw7 hbel6.size)
  clear hbel6
  clear hbw7
  go_wp2_with (first | (refine wpList_load_mid rfl 43 (.tmp 1) rfl w.heap.size 0 rfl (pv lx ly ip) _ (blk_all (C8.out)) Try.underlying43 rfl (i43 L_lx.out L_ly.out) ?_))
  refine (Hc4.out _).mono ?_
  rintro e w10 ⟨rfl, hbw10⟩
  have C11 := Lib.hid (C8.out.gr hbw10)
  clear C8
  have hbel12 := hbel9.trans (Below.mono hbw10 hbel9.size)
  clear hbel9
  clear hbw10
  go_wp2_with (first | (refine wpList_load_mid rfl 43 (.tmp 1) rfl w.heap.size 0 rfl (pv lx ly ip) _ (blk_all (C11.out)) Try.underlying43 rfl (i43 L_lx.out L_ly.out) ?_))
  refine (Hc5.out _).mono ?_
  rintro e w13 ⟨rfl, hbw13⟩
  have C14 := Lib.hid (C11.out.gr hbw13)
  clear C11
  have hbel15 := hbel12.trans (Below.mono hbw13 hbel12.size)
  clear hbel12
  clear hbw13
  go_wp2_with (first | (refine stB rfl 43 (.tmp 9) (.tmp 33) rfl w13.heap.size rfl (pv (zeros 4) (zeros 4) false) rfl 43 (pv (zeros 4) (zeros 4) false) (Blk.new w13 43 (pv (zeros 4) (zeros 4) false)) (i43 rfl rfl) (lenEq (show (pv (zeros 4) (zeros 4) false).length = 9 from rfl) (show (pv (zeros 4) (zeros 4) false).length = 9 from rfl)) (pv_one _ _ _) ?_; generalize hW : World.setRow _ _ _ = w16; obtain ⟨hgw16, hnw16⟩ := newfacts hW; clear hW; have C19 := Lib.hid (C14.out.gr hgw16); clear C14; have hbel20 := hbel15.trans (Below.mono hgw16 hbel15.size); clear hbel15; have D18 := Lib.hid hnw16; have szw16 := hgw16.size; clear hnw16 hgw16 szw16; generalize w13.heap.size = G17 at *) | (refine ldwM 43 (.tmp 1) rfl w.heap.size 0 rfl (pv lx ly ip) _ (blk_all (C19.out)) Try.underlying43 rfl (i43 L_lx.out L_ly.out) 2 false rfl 37 rfl rfl ?_))
  refine (Hc6.out _).mono ?_
  rintro e w21 ⟨rfl, hbw21⟩
  have C22 := Lib.hid (C19.out.gr hbw21)
  clear C19
  have C23 := Lib.hid (D18.out.gr hbw21)
  clear D18
  have hbel24 := hbel20.trans (Below.mono hbw21 hbel20.size)
  clear hbel20
  clear hbw21
  go_wp2_with fail
  refine (Hc7.out _).mono ?_
  rintro e w25 ⟨rfl, hbw25⟩
  have C26 := Lib.hid (C22.out.gr hbw25)
  clear C22
  have C27 := Lib.hid (C23.out.gr hbw25)
  clear C23
  have hbel28 := hbel24.trans (Below.mono hbw25 hbel24.size)
  clear hbel24
  clear hbw25
  go_wp2_with fail
  refine (Hc8.out _).mono ?_
  rintro e w29 ⟨rfl, hbw29⟩
  have C30 := Lib.hid (C26.out.gr hbw29)
  clear C26
  have C31 := Lib.hid (C27.out.gr hbw29)
  clear C27
  have hbel32 := hbel28.trans (Below.mono hbw29 hbel28.size)
  clear hbel28
  clear hbw29
  have qg := QG.out
  go_wp2_with fail
  as_aux_lemma =>
  refine wp_region_G (fun w_ => Blk w_ G17 43 (pv (zeros 4) (zeros 4) false)) 24 (by kernel_rfl) C31.out.drew ?_
  refine wpAnyG_take (fun _ _ hS_ hb_ => hS_.gr hb_) (i := 0) rfl (by kernel_rfl) (fun _ _ _ h => h) (pureG (by rfl) (by intro w; go_simp; first | done | with_reducible rfl)) ?_
  try simp only [Act.put, zq1, zq2, zq3, zq4, zq5, zq6]
  refine wpAnyG_take (fun _ _ hS_ hb_ => hS_.gr hb_) (i := 1) rfl (by kernel_rfl) (fun _ _ _ h => h) (pureG (by rfl) (by intro w; go_simp; first | done | with_reducible rfl)) ?_
  try simp only [Act.put, zq1, zq2, zq3, zq4, zq5, zq6]
  refine wpAnyG_take (fun _ _ hS_ hb_ => hS_.gr hb_) (i := 2) rfl (by kernel_rfl) (fun _ _ _ h => h) (pureG (by rfl) (by intro w; go_simp; first | done | with_reducible rfl)) ?_
  try simp only [Act.put, zq1, zq2, zq3, zq4, zq5, zq6]
  refine wpAnyG_take (fun _ _ hS_ hb_ => hS_.gr hb_) (i := 3) rfl (by kernel_rfl) (fun _ _ _ h => h) (pureG (by rfl) (by intro w; go_simp; first | done | with_reducible rfl)) ?_
  try simp only [Act.put, zq1, zq2, zq3, zq4, zq5, zq6]
  refine wpAnyG_take (fun _ _ hS_ hb_ => hS_.gr hb_) (i := 4) rfl (by kernel_rfl) (fun _ _ _ h => h) (pureG (by rfl) (by intro w; go_simp; first | done | with_reducible rfl)) ?_
  try simp only [Act.put, zq1, zq2, zq3, zq4, zq5, zq6]
  refine wpAnyG_take (fun _ _ hS_ hb_ => hS_.gr hb_) (i := 5) rfl (by kernel_rfl) (fun _ _ _ h => h) (pureG (by rfl) (by intro w; go_simp; first | done | with_reducible rfl)) ?_
  try simp only [Act.put, zq1, zq2, zq3, zq4, zq5, zq6]
  refine wpAnyG_take (fun _ _ hS_ hb_ => hS_.gr hb_) (i := 6) rfl (by kernel_rfl) (fun _ _ _ h => h) (loadG (by rfl) _ _ rfl _ _ rfl (pv (zeros 4) (zeros 4) false) _ (fun _ hS_ => blk_all (hS_)) Try.underlying43 rfl (i43 rfl rfl)) ?_
  try simp only [Act.put, zq1, zq2, zq3, zq4, zq5, zq6]
  refine wpAnyG_take (fun _ _ hS_ hb_ => hS_.gr hb_) (i := 7) rfl (by kernel_rfl) (fun _ _ _ h => h) (pureG (by rfl) (by intro w; go_simp; first | done | with_reducible rfl)) ?_
  try simp only [Act.put, zq1, zq2, zq3, zq4, zq5, zq6]
  refine wpAnyG_take (fun _ _ hS_ hb_ => hS_.gr hb_) (i := 8) rfl (by kernel_rfl) (fun _ _ _ h => h) (pureG (by rfl) (by intro w; have q := QM2.out; go_simp; first | done | with_reducible rfl)) ?_
  try simp only [Act.put, zq1, zq2, zq3, zq4, zq5, zq6]
  refine wpAnyG_take (fun _ _ hS_ hb_ => hS_.gr hb_) (i := 9) rfl (by kernel_rfl) (fun _ _ _ h => h) (pureG (by rfl) (by intro w; go_simp; first | done | with_reducible rfl)) ?_
  try simp only [Act.put, zq1, zq2, zq3, zq4, zq5, zq6]
  refine wpAnyG_take (fun _ _ hS_ hb_ => hS_.gr hb_) (i := 10) rfl (by kernel_rfl) (fun _ _ _ h => h) (pureG (by rfl) (by intro w; go_simp; first | done | with_reducible rfl)) ?_
  try simp only [Act.put, zq1, zq2, zq3, zq4, zq5, zq6]
  refine wpAnyG_take (fun _ _ hS_ hb_ => hS_.gr hb_) (i := 11) rfl (by kernel_rfl) (fun _ _ _ h => h) (pureG (by rfl) (by intro w; go_simp; first | done | with_reducible rfl)) ?_
  try simp only [Act.put, zq1, zq2, zq3, zq4, zq5, zq6]
  refine wpAnyG_take (fun _ _ hS_ hb_ => hS_.gr hb_) (i := 12) rfl (by kernel_rfl) (fun _ _ _ h => h) (pureG (by rfl) (by intro w; go_simp; first | done | with_reducible rfl)) ?_
  try simp only [Act.put, zq1, zq2, zq3, zq4, zq5, zq6]
  refine wpAnyG_take (fun _ _ hS_ hb_ => hS_.gr hb_) (i := 13) rfl (by kernel_rfl) (fun _ _ _ h => h) (pureG (by rfl) (by intro w; go_simp; first | done | with_reducible rfl)) ?_
  try simp only [Act.put, zq1, zq2, zq3, zq4, zq5, zq6]
  refine wpAnyG_take (fun _ _ hS_ hb_ => hS_.gr hb_) (i := 14) rfl (by kernel_rfl) (fun _ _ _ h => h) (skipG (by rfl)) ?_
  try simp only [Act.put, zq1, zq2, zq3, zq4, zq5, zq6]
  refine wpAnyG_take (fun _ _ hS_ hb_ => hS_.gr hb_) (i := 15) rfl (by kernel_rfl) (fun _ _ _ h => h) (skipG (by rfl)) ?_
  try simp only [Act.put, zq1, zq2, zq3, zq4, zq5, zq6]
  refine wpAnyG_take (fun _ _ hS_ hb_ => hS_.gr hb_) (i := 16) rfl (by kernel_rfl) (fun _ _ _ h => h) (skipG (by rfl)) ?_
  try simp only [Act.put, zq1, zq2, zq3, zq4, zq5, zq6]
  refine wpAnyG_take (fun _ _ hS_ hb_ => hS_.gr hb_) (i := 17) rfl (by kernel_rfl) (fun _ _ _ h => h) (skipG (by rfl)) ?_
  try simp only [Act.put, zq1, zq2, zq3, zq4, zq5, zq6]
  refine wpAnyG_take (fun _ _ hS_ hb_ => hS_.gr hb_) (i := 18) rfl (by kernel_rfl) (fun _ _ _ h => h) (skipG (by rfl)) ?_
  try simp only [Act.put, zq1, zq2, zq3, zq4, zq5, zq6]
  refine wpAnyG_take (fun _ _ hS_ hb_ => hS_.gr hb_) (i := 19) rfl (by kernel_rfl) (fun _ _ _ h => h) (skipG (by rfl)) ?_
  try simp only [Act.put, zq1, zq2, zq3, zq4, zq5, zq6]
  refine wpAnyG_take (fun _ _ hS_ hb_ => hS_.gr hb_) (i := 20) rfl (by kernel_rfl) (fun _ _ _ h => h) (skipG (by rfl)) ?_
  try simp only [Act.put, zq1, zq2, zq3, zq4, zq5, zq6]
  refine wpAnyG_take (fun _ _ hS_ hb_ => hS_.gr hb_) (i := 21) rfl (by kernel_rfl) (fun _ _ _ h => h) (skipG (by rfl)) ?_
  try simp only [Act.put, zq1, zq2, zq3, zq4, zq5, zq6]
  refine wpAnyG_take (fun _ _ hS_ hb_ => hS_.gr hb_) (i := 22) rfl (by kernel_rfl) (fun _ _ _ h => h) (pureG (by rfl) (by intro w; go_simp; first | done | with_reducible rfl)) ?_
  try simp only [Act.put, zq1, zq2, zq3, zq4, zq5, zq6]
  refine wpAnyG_take (fun _ _ hS_ hb_ => hS_.gr hb_) (i := 23) rfl (by kernel_rfl) (fun _ _ _ h => h) (pureG (by rfl) (by intro w; go_simp; first | done | with_reducible rfl)) ?_
  try simp only [Act.put, zq1, zq2, zq3, zq4, zq5, zq6]
  refine wpAnyG_done (by kernel_rfl) ?_ _
  intro w33 hgw33
  try simp only [Act.put, zq1, zq2, zq3, zq4, zq5, zq6]
  have E34 := Lib.hid (C30.out.drew.gr hgw33)
  clear C30
  have E35 := Lib.hid (C31.out.drew.gr hgw33)
  clear C31
  have hbel36 := hbel32.drew.trans (Below.mono hgw33 hbel32.drew.size)
  clear hbel32
  clear hgw33
  as_aux_lemma =>
  clear qg
  go_wp2_with fail
  go_ret
  exact ⟨rfl, hbel36⟩
set_option maxRecDepth 100000 in
set_option maxHeartbeats 3200000 in
theorem points_inf {gx gy : List Nat} (w : World) (hgx : gx.length = 4) (hgy : gy.length = 4)
    (c1 : ∀ w, Calls Try.prog 24 #[] w fun e w' => e = .returned (.bool true) ∧ Below w.heap.size w w')
    (c2 : ∀ w, Calls Try.prog 25 #[.agg (pv (zeros 4) (zeros 4) true).toArray] w fun e w' => e = .returned (.bool true) ∧ Below w.heap.size w w')
    (c3 : ∀ w, Calls Try.prog 26 #[.agg (pv (zeros 4) (zeros 4) true).toArray] w fun e w' => e = .returned (.tuple #[.slice none 0 0, .int .i64 62]) ∧ Below w.heap.size w w')
    (c4 : ∀ w, Calls Try.prog 27 #[.agg (pv (zeros 4) (zeros 4) true).toArray] w fun e w' => e = .returned (.tuple #[.slice none 0 0, .int .i64 62]) ∧ Below w.heap.size w w')
    (c5 : ∀ w, Calls Try.prog 28 #[.agg (pv (zeros 4) (zeros 4) true).toArray] w fun e w' => e = .returned (.tuple #[.agg (pv (zeros 4) (zeros 4) true).toArray, .int .i64 0]) ∧ Below w.heap.size w w')
    (c6 : ∀ w, Calls Try.prog 29 #[.agg (pv (zeros 4) (zeros 4) true).toArray] w fun e w' => e = .returned (.bool true) ∧ Below w.heap.size w w')
    (c7 : ∀ w, Calls Try.prog 30 #[] w fun e w' => e = .returned (.agg (pv gx gy false).toArray) ∧ Below w.heap.size w w')
    (c8 : ∀ w, Calls Try.prog 31 #[] w fun e w' => e = .returned (.agg (pv gx gy false).toArray) ∧ Below w.heap.size w w')
    (c9 : ∀ w, Calls Try.prog 32 #[.agg (pv (zeros 4) (zeros 4) true).toArray] w fun e w' => e = .returned (.agg (pv (zeros 4) (zeros 4) true).toArray) ∧ Below w.heap.size w w') :
    Calls Try.prog 5 #[.agg (pv (zeros 4) (zeros 4) true).toArray] w fun e w' => e = .returned (.bool true) ∧ Below w.heap.size w w' := by
  have L_gx := Lib.hid hgx
  clear hgx
  have L_gy := Lib.hid hgy
  clear hgy
  have Hc1 := Lib.hid c1
  clear c1
  have Hc2 := Lib.hid c2
  clear c2
  have Hc3 := Lib.hid c3
  clear c3
  have Hc4 := Lib.hid c4
  clear c4
  have Hc5 := Lib.hid c5
  clear c5
  have Hc6 := Lib.hid c6
  clear c6
  have Hc7 := Lib.hid c7
  clear c7
  have Hc8 := Lib.hid c8
  clear c8
  have Hc9 := Lib.hid c9
  clear c9
  have QG := Lib.hid (fun w => (neq43 gx gy gx gy false false L_gx.out L_gy.out L_gx.out L_gy.out w).trans (by rw [decide_eq_true ⟨rfl, rfl, rfl⟩, Bool.not_true]))
  have QM := Lib.hid (fun w => (neq43 (zeros 4) (zeros 4) (zeros 4) (zeros 4) true true rfl rfl rfl rfl w).trans (by rw [decide_eq_true ⟨rfl, rfl, rfl⟩, Bool.not_true]))
  have B0_ := Lib.hid (Blk.new w  43 (pv (zeros 4) (zeros 4) true))
  have bel_ := ((Below.refl w.heap.size w).alloc (Nat.le_refl _) (.cells (pv (zeros 4) (zeros 4) true).toArray 43))
  go_enter Try.func5, Try.ntmps5
  go_wp2_with fail
  refine (Hc1.out _).mono ?_
  rintro e w1 ⟨rfl, hbw1⟩
  have C2 := Lib.hid (B0_.out.gr hbw1)
  clear B0_
  have hbel3 := bel_.trans (Below.mono hbw1 bel_.size)
  clear bel_
  clear hbw1
  go_wp2_with (first | (refine wpList_load_mid rfl 43 (.tmp 1) rfl w.heap.size 0 rfl (pv (zeros 4) (zeros 4) true) _ (blk_all (C2.out)) Try.underlying43 rfl (i43 rfl rfl) ?_))
  refine (Hc2.out _).mono ?_
  rintro e w4 ⟨rfl, hbw4⟩
  have C5 := Lib.hid (C2.out.gr hbw4)
  clear C2
  have hbel6 := hbel3.trans (Below.mono hbw4 hbel3.size)
  clear hbel3
  clear hbw4
  go_wp2_with (first | (refine wpList_load_mid rfl 43 (.tmp 1) rfl w.heap.size 0 rfl (pv (zeros 4) (zeros 4) true) _ (blk_all (C5.out)) Try.underlying43 rfl (i43 rfl rfl) ?_))
  refine (Hc3.out _).mono ?_
  rintro e w7 ⟨rfl, hbw7⟩
  have C8 := Lib.hid (C5.out.gr hbw7)
  clear C5
  have hbel9 := hbel6.trans (Below.mono hbw7 hbel6.size)
  clear hbel6
  clear hbw7
  go_wp2_with (first | (refine wpList_load_mid rfl 43 (.tmp 1) rfl w.heap.size 0 rfl (pv (zeros 4) (zeros 4) true) _ (blk_all (C8.out)) Try.underlying43 rfl (i43 rfl rfl) ?_))
  refine (Hc4.out _).mono ?_
  rintro e w10 ⟨rfl, hbw10⟩
  have C11 := Lib.hid (C8.out.gr hbw10)
  clear C8
  have hbel12 := hbel9.trans (Below.mono hbw10 hbel9.size)
  clear hbel9
  clear hbw10
  go_wp2_with (first | (refine wpList_load_mid rfl 43 (.tmp 1) rfl w.heap.size 0 rfl (pv (zeros 4) (zeros 4) true) _ (blk_all (C11.out)) Try.underlying43 rfl (i43 rfl rfl) ?_))
  refine (Hc5.out _).mono ?_
  rintro e w13 ⟨rfl, hbw13⟩
  have C14 := Lib.hid (C11.out.gr hbw13)
  clear C11
  have hbel15 := hbel12.trans (Below.mono hbw13 hbel12.size)
  clear hbel12
  clear hbw13
  go_wp2_with (first | (refine stB rfl 43 (.tmp 9) (.tmp 33) rfl w13.heap.size rfl (pv (zeros 4) (zeros 4) true) rfl 43 (pv (zeros 4) (zeros 4) false) (Blk.new w13 43 (pv (zeros 4) (zeros 4) false)) (i43 rfl rfl) (lenEq (show (pv (zeros 4) (zeros 4) false).length = 9 from rfl) (show (pv (zeros 4) (zeros 4) true).length = 9 from rfl)) (pv_one _ _ _) ?_; generalize hW : World.setRow _ _ _ = w16; obtain ⟨hgw16, hnw16⟩ := newfacts hW; clear hW; have C19 := Lib.hid (C14.out.gr hgw16); clear C14; have hbel20 := hbel15.trans (Below.mono hgw16 hbel15.size); clear hbel15; have D18 := Lib.hid hnw16; have szw16 := hgw16.size; clear hnw16 hgw16 szw16; generalize w13.heap.size = G17 at *) | (refine ldwM 43 (.tmp 1) rfl w.heap.size 0 rfl (pv (zeros 4) (zeros 4) true) _ (blk_all (C19.out)) Try.underlying43 rfl (i43 rfl rfl) 2 false rfl 37 rfl rfl ?_))
  refine (Hc6.out _).mono ?_
  rintro e w21 ⟨rfl, hbw21⟩
  have C22 := Lib.hid (C19.out.gr hbw21)
  clear C19
  have C23 := Lib.hid (D18.out.gr hbw21)
  clear D18
  have hbel24 := hbel20.trans (Below.mono hbw21 hbel20.size)
  clear hbel20
  clear hbw21
  go_wp2_with fail
  refine (Hc7.out _).mono ?_
  rintro e w25 ⟨rfl, hbw25⟩
  have C26 := Lib.hid (C22.out.gr hbw25)
  clear C22
  have C27 := Lib.hid (C23.out.gr hbw25)
  clear C23
  have hbel28 := hbel24.trans (Below.mono hbw25 hbel24.size)
  clear hbel24
  clear hbw25
  go_wp2_with fail
  refine (Hc8.out _).mono ?_
  rintro e w29 ⟨rfl, hbw29⟩
  have C30 := Lib.hid (C26.out.gr hbw29)
  clear C26
  have C31 := Lib.hid (C27.out.gr hbw29)
  clear C27
  have hbel32 := hbel28.trans (Below.mono hbw29 hbel28.size)
  clear hbel28
  clear hbw29
  have qg := QG.out
  go_wp2_with fail
  as_aux_lemma =>
  refine wp_region_G (fun w_ => Blk w_ G17 43 (pv (zeros 4) (zeros 4) true) ∧ Blk w_ w.heap.size 43 (pv (zeros 4) (zeros 4) true)) 24 (by kernel_rfl) ⟨C31.out.drew, C30.out.drew⟩ ?_
  refine wpAnyG_take (fun _ _ hS_ hb_ => ⟨hS_.1.gr hb_, hS_.2.gr hb_⟩) (i := 0) rfl (by kernel_rfl) (fun _ _ _ h => h) (pureG (by rfl) (by intro w; go_simp; first | done | with_reducible rfl)) ?_
  try simp only [Act.put, zq1, zq2, zq3, zq4, zq5, zq6]
  refine wpAnyG_take (fun _ _ hS_ hb_ => ⟨hS_.1.gr hb_, hS_.2.gr hb_⟩) (i := 1) rfl (by kernel_rfl) (fun _ _ _ h => h) (pureG (by rfl) (by intro w; go_simp; first | done | with_reducible rfl)) ?_
  try simp only [Act.put, zq1, zq2, zq3, zq4, zq5, zq6]
  refine wpAnyG_take (fun _ _ hS_ hb_ => ⟨hS_.1.gr hb_, hS_.2.gr hb_⟩) (i := 2) rfl (by kernel_rfl) (fun _ _ _ h => h) (pureG (by rfl) (by intro w; go_simp; first | done | with_reducible rfl)) ?_
  try simp only [Act.put, zq1, zq2, zq3, zq4, zq5, zq6]
  refine wpAnyG_take (fun _ _ hS_ hb_ => ⟨hS_.1.gr hb_, hS_.2.gr hb_⟩) (i := 3) rfl (by kernel_rfl) (fun _ _ _ h => h) (skipG (by rfl)) ?_
  try simp only [Act.put, zq1, zq2, zq3, zq4, zq5, zq6]
  refine wpAnyG_take (fun _ _ hS_ hb_ => ⟨hS_.1.gr hb_, hS_.2.gr hb_⟩) (i := 4) rfl (by kernel_rfl) (fun _ _ _ h => h) (skipG (by rfl)) ?_
  try simp only [Act.put, zq1, zq2, zq3, zq4, zq5, zq6]
  refine wpAnyG_take (fun _ _ hS_ hb_ => ⟨hS_.1.gr hb_, hS_.2.gr hb_⟩) (i := 5) rfl (by kernel_rfl) (fun _ _ _ h => h) (skipG (by rfl)) ?_
  try simp only [Act.put, zq1, zq2, zq3, zq4, zq5, zq6]
  refine wpAnyG_take (fun _ _ hS_ hb_ => ⟨hS_.1.gr hb_, hS_.2.gr hb_⟩) (i := 6) rfl (by kernel_rfl) (fun _ _ _ h => h) (skipG (by rfl)) ?_
  try simp only [Act.put, zq1, zq2, zq3, zq4, zq5, zq6]
  refine wpAnyG_take (fun _ _ hS_ hb_ => ⟨hS_.1.gr hb_, hS_.2.gr hb_⟩) (i := 7) rfl (by kernel_rfl) (fun _ _ _ h => h) (skipG (by rfl)) ?_
  try simp only [Act.put, zq1, zq2, zq3, zq4, zq5, zq6]
  refine wpAnyG_take (fun _ _ hS_ hb_ => ⟨hS_.1.gr hb_, hS_.2.gr hb_⟩) (i := 8) rfl (by kernel_rfl) (fun _ _ _ h => h) (skipG (by rfl)) ?_
  try simp only [Act.put, zq1, zq2, zq3, zq4, zq5, zq6]
  refine wpAnyG_take (fun _ _ hS_ hb_ => ⟨hS_.1.gr hb_, hS_.2.gr hb_⟩) (i := 9) rfl (by kernel_rfl) (fun _ _ _ h => h) (skipG (by rfl)) ?_
  try simp only [Act.put, zq1, zq2, zq3, zq4, zq5, zq6]
  refine wpAnyG_take (fun _ _ hS_ hb_ => ⟨hS_.1.gr hb_, hS_.2.gr hb_⟩) (i := 10) rfl (by kernel_rfl) (fun _ _ _ h => h) (pureG (by rfl) (by intro w; go_simp; first | done | with_reducible rfl)) ?_
  try simp only [Act.put, zq1, zq2, zq3, zq4, zq5, zq6]
  refine wpAnyG_take (fun _ _ hS_ hb_ => ⟨hS_.1.gr hb_, hS_.2.gr hb_⟩) (i := 11) rfl (by kernel_rfl) (fun _ _ _ h => h) (pureG (by rfl) (by intro w; go_simp; first | done | with_reducible rfl)) ?_
  try simp only [Act.put, zq1, zq2, zq3, zq4, zq5, zq6]
  refine wpAnyG_take (fun _ _ hS_ hb_ => ⟨hS_.1.gr hb_, hS_.2.gr hb_⟩) (i := 12) rfl (by kernel_rfl) (fun _ _ _ h => h) (pureG (by rfl) (by intro w; go_simp; first | done | with_reducible rfl)) ?_
  try simp only [Act.put, zq1, zq2, zq3, zq4, zq5, zq6]
  refine wpAnyG_take (fun _ _ hS_ hb_ => ⟨hS_.1.gr hb_, hS_.2.gr hb_⟩) (i := 13) rfl (by kernel_rfl) (fun _ _ _ h => h) (pureG (by rfl) (by intro w; go_simp; first | done | with_reducible rfl)) ?_
  try simp only [Act.put, zq1, zq2, zq3, zq4, zq5, zq6]
  refine wpAnyG_take (fun _ _ hS_ hb_ => ⟨hS_.1.gr hb_, hS_.2.gr hb_⟩) (i := 14) rfl (by kernel_rfl) (fun _ _ _ h => h) (pureG (by rfl) (by intro w; go_simp; first | done | with_reducible rfl)) ?_
  try simp only [Act.put, zq1, zq2, zq3, zq4, zq5, zq6]
  refine wpAnyG_take (fun _ _ hS_ hb_ => ⟨hS_.1.gr hb_, hS_.2.gr hb_⟩) (i := 15) rfl (by kernel_rfl) (fun _ _ _ h => h) (pureG (by rfl) (by intro w; go_simp; first | done | with_reducible rfl)) ?_
  try simp only [Act.put, zq1, zq2, zq3, zq4, zq5, zq6]
  refine wpAnyG_take (fun _ _ hS_ hb_ => ⟨hS_.1.gr hb_, hS_.2.gr hb_⟩) (i := 16) rfl (by kernel_rfl) (fun _ _ _ h => h) (pureG (by rfl) (by intro w; go_simp; first | done | with_reducible rfl)) ?_
  try simp only [Act.put, zq1, zq2, zq3, zq4, zq5, zq6]
  refine wpAnyG_take (fun _ _ hS_ hb_ => ⟨hS_.1.gr hb_, hS_.2.gr hb_⟩) (i := 17) rfl (by kernel_rfl) (fun _ _ _ h => h) (loadG (by rfl) _ _ rfl _ _ rfl (pv (zeros 4) (zeros 4) true) _ (fun _ hS_ => blk_all (hS_.1)) Try.underlying43 rfl (i43 rfl rfl)) ?_
  try simp only [Act.put, zq1, zq2, zq3, zq4, zq5, zq6]
  refine wpAnyG_take (fun _ _ hS_ hb_ => ⟨hS_.1.gr hb_, hS_.2.gr hb_⟩) (i := 18) rfl (by kernel_rfl) (fun _ _ _ h => h) (loadG (by rfl) _ _ rfl _ _ rfl (pv (zeros 4) (zeros 4) true) _ (fun _ hS_ => blk_all (hS_.2)) Try.underlying43 rfl (i43 rfl rfl)) ?_
  try simp only [Act.put, zq1, zq2, zq3, zq4, zq5, zq6]
  refine wpAnyG_take (fun _ _ hS_ hb_ => ⟨hS_.1.gr hb_, hS_.2.gr hb_⟩) (i := 19) rfl (by kernel_rfl) (fun _ _ _ h => h) (callG (by rfl) rfl Try.func32 (by kernel_rfl) (by kernel_rfl) (#[.agg (pv (zeros 4) (zeros 4) true).toArray]) (by simp [Act.eval]) (fun W_ _ => Hc9.out W_)) ?_
  try simp only [Act.put, zq1, zq2, zq3, zq4, zq5, zq6]
  refine wpAnyG_take (fun _ _ hS_ hb_ => ⟨hS_.1.gr hb_, hS_.2.gr hb_⟩) (i := 20) rfl (by kernel_rfl) (fun _ _ _ h => h) (pureG (by rfl) (by intro w; have q := QM.out; go_simp; first | done | with_reducible rfl)) ?_
  try simp only [Act.put, zq1, zq2, zq3, zq4, zq5, zq6]
  refine wpAnyG_take (fun _ _ hS_ hb_ => ⟨hS_.1.gr hb_, hS_.2.gr hb_⟩) (i := 21) rfl (by kernel_rfl) (fun _ _ _ h => h) (pureG (by rfl) (by intro w; go_simp; first | done | with_reducible rfl)) ?_
  try simp only [Act.put, zq1, zq2, zq3, zq4, zq5, zq6]
  refine wpAnyG_take (fun _ _ hS_ hb_ => ⟨hS_.1.gr hb_, hS_.2.gr hb_⟩) (i := 22) rfl (by kernel_rfl) (fun _ _ _ h => h) (pureG (by rfl) (by intro w; go_simp; first | done | with_reducible rfl)) ?_
  try simp only [Act.put, zq1, zq2, zq3, zq4, zq5, zq6]
  refine wpAnyG_take (fun _ _ hS_ hb_ => ⟨hS_.1.gr hb_, hS_.2.gr hb_⟩) (i := 23) rfl (by kernel_rfl) (fun _ _ _ h => h) (pureG (by rfl) (by intro w; go_simp; first | done | with_reducible rfl)) ?_
  try simp only [Act.put, zq1, zq2, zq3, zq4, zq5, zq6]
  refine wpAnyG_done (by kernel_rfl) ?_ _
  intro w33 hgw33
  try simp only [Act.put, zq1, zq2, zq3, zq4, zq5, zq6]
  have E34 := Lib.hid (C30.out.drew.gr hgw33)
  clear C30
  have E35 := Lib.hid (C31.out.drew.gr hgw33)
  clear C31
  have hbel36 := hbel32.drew.trans (Below.mono hgw33 hbel32.drew.size)
  clear hbel32
  clear hgw33
  as_aux_lemma =>
  clear qg
  have ci := pv_i E34.out rfl rfl
  go_wp2_with fail
  go_ret
  exact ⟨rfl, hbel36⟩
set_option maxRecDepth 100000 in
set_option maxHeartbeats 3200000 in
theorem points_aff {lx ly gx gy lm : List Nat} {La Lb : List Nat} (w : World) (hlx : lx.length = 4) (hly : ly.length = 4) (hgx : gx.length = 4) (hgy : gy.length = 4) (hlm : lm.length = 4)
    (ha : ∀ z ∈ La, z < 256)
    (hb : ∀ z ∈ Lb, z < 256)
    (d1 : ∀ A c W, BIn W A 65 c La → Calls Try.prog 36 #[.slice A 65 c] W fun e w' => e = .returned (.tuple #[.agg (pv lx ly false).toArray, .int .i64 0]) ∧ Below W.heap.size W w')
    (d2 : ∀ A c W, BIn W A 33 c Lb → Calls Try.prog 36 #[.slice A 33 c] W fun e w' => e = .returned (.tuple #[.agg (pv lx ly false).toArray, .int .i64 0]) ∧ Below W.heap.size W w')
    (c1 : ∀ w, Calls Try.prog 24 #[] w fun e w' => e = .returned (.bool true) ∧ Below w.heap.size w w')
    (c2 : ∀ w, Calls Try.prog 25 #[.agg (pv lx ly false).toArray] w fun e w' => e = .returned (.bool true) ∧ Below w.heap.size w w')
    (c3 : ∀ w, Calls Try.prog 26 #[.agg (pv lx ly false).toArray] w (ListOwn 65 La w))
    (c4 : ∀ w, Calls Try.prog 27 #[.agg (pv lx ly false).toArray] w (ListOwn 33 Lb w))
    (c5 : ∀ w, Calls Try.prog 28 #[.agg (pv lx ly false).toArray] w fun e w' => e = .returned (.tuple #[.agg (pv lx lm false).toArray, .int .i64 0]) ∧ Below w.heap.size w w')
    (c6 : ∀ w, Calls Try.prog 29 #[.agg (pv lx ly false).toArray] w fun e w' => e = .returned (.bool true) ∧ Below w.heap.size w w')
    (c7 : ∀ w, Calls Try.prog 30 #[] w fun e w' => e = .returned (.agg (pv gx gy false).toArray) ∧ Below w.heap.size w w')
    (c8 : ∀ w, Calls Try.prog 31 #[] w fun e w' => e = .returned (.agg (pv gx gy false).toArray) ∧ Below w.heap.size w w')
    (c9 : ∀ w, Calls Try.prog 32 #[.agg (pv lx ly false).toArray] w fun e w' => e = .returned (.agg (pv lx lm false).toArray) ∧ Below w.heap.size w w')
    (c10 : ∀ w, Calls Try.prog 34 #[.agg (pv lx ly false).toArray] w (RetB 65 La w))
    (c11 : ∀ w, Calls Try.prog 35 #[.agg (pv lx ly false).toArray] w (RetB 33 Lb w)) :
    Calls Try.prog 5 #[.agg (pv lx ly false).toArray] w fun e w' => e = .returned (.bool true) ∧ Below w.heap.size w w' := by
  have L_lx := Lib.hid hlx
  clear hlx
  have L_ly := Lib.hid hly
  clear hly
  have L_gx := Lib.hid hgx
  clear hgx
  have L_gy := Lib.hid hgy
  clear hgy
  have L_lm := Lib.hid hlm
  clear hlm
  have Hc1 := Lib.hid c1
  clear c1
  have Hc2 := Lib.hid c2
  clear c2
  have Hc3 := Lib.hid c3
  clear c3
  have Hc4 := Lib.hid c4
  clear c4
  have Hc5 := Lib.hid c5
  clear c5
  have Hc6 := Lib.hid c6
  clear c6
  have Hc7 := Lib.hid c7
  clear c7
  have Hc8 := Lib.hid c8
  clear c8
  have Hc9 := Lib.hid c9
  clear c9
  have Hc10 := Lib.hid c10
  clear c10
  have Hc11 := Lib.hid c11
  clear c11
  have HA := Lib.hid ha
  have HBL := Lib.hid hb
  have HD1 := Lib.hid d1
  have HD2 := Lib.hid d2
  clear ha hb d1 d2
  have QG := Lib.hid (fun w => (neq43 gx gy gx gy false false L_gx.out L_gy.out L_gx.out L_gy.out w).trans (by rw [decide_eq_true ⟨rfl, rfl, rfl⟩, Bool.not_true]))
  have QM := Lib.hid (fun w => (neq43 lx lm lx lm false false L_lx.out L_lm.out L_lx.out L_lm.out w).trans (by rw [decide_eq_true ⟨rfl, rfl, rfl⟩, Bool.not_true]))
  have QP := Lib.hid (fun w => (eql43 lx ly lx ly false false L_lx.out L_ly.out L_lx.out L_ly.out w).trans (by rw [decide_eq_true ⟨rfl, rfl, rfl⟩]))
  have B0_ := Lib.hid (Blk.new w  43 (pv lx ly false))
  have bel_ := ((Below.refl w.heap.size w).alloc (Nat.le_refl _) (.cells (pv lx ly false).toArray 43))
  go_enter Try.func5, Try.ntmps5
  go_wp2_with fail
  refine (Hc1.out _).mono ?_
  rintro e w1 ⟨rfl, hbw1⟩
  have C2 := Lib.hid (B0_.out.gr hbw1)
  clear B0_
  have hbel3 := bel_.trans (Below.mono hbw1 bel_.size)
  clear bel_
  clear hbw1
  go_wp2_with (first | (refine wpList_load_mid rfl 43 (.tmp 1) rfl w.heap.size 0 rfl (pv lx ly false) _ (blk_all (C2.out)) Try.underlying43 rfl (i43 L_lx.out L_ly.out) ?_))
  refine (Hc2.out _).mono ?_
  rintro e w4 ⟨rfl, hbw4⟩
  have C5 := Lib.hid (C2.out.gr hbw4)
  clear C2
  have hbel6 := hbel3.trans (Below.mono hbw4 hbel3.size)
  clear hbel3
  clear hbw4
  go_wp2_with (first | (refine wpList_load_mid rfl 43 (.tmp 1) rfl w.heap.size 0 rfl (pv lx ly false) _ (blk_all (C5.out)) Try.underlying43 rfl (i43 L_lx.out L_ly.out) ?_))
  refine (Hc3.out _).mono ?_
  rintro e w7 ⟨Ga, ca, rfl, ow7, hbw7⟩
  have C8 := Lib.hid (C5.out.gr hbw7)
  clear C5
  have hbel9 := hbel6.trans (Below.mono hbw7 hbel6.size)
  clear hbel6
  have HBa := Lib.hid (own_bin ow7 HA.out (by decide))
  clear ow7
  clear hbw7
  go_wp2_with (first | (refine wpList_load_mid rfl 43 (.tmp 1) rfl w.heap.size 0 rfl (pv lx ly false) _ (blk_all (C8.out)) Try.underlying43 rfl (i43 L_lx.out L_ly.out) ?_))
  refine (Hc4.out _).mono ?_
  rintro e w10 ⟨Gb, cb, rfl, ow10, hbw10⟩
  have C11 := Lib.hid (C8.out.gr hbw10)
  clear C8
  have C12 := Lib.hid (HBa.out.gr hbw10)
  clear HBa
  have hbel13 := hbel9.trans (Below.mono hbw10 hbel9.size)
  clear hbel9
  have HBb := Lib.hid (own_bin ow10 HBL.out (by decide))
  clear ow10
  clear hbw10
  go_wp2_with (first | (refine wpList_load_mid rfl 43 (.tmp 1) rfl w.heap.size 0 rfl (pv lx ly false) _ (blk_all (C11.out)) Try.underlying43 rfl (i43 L_lx.out L_ly.out) ?_))
  refine (Hc5.out _).mono ?_
  rintro e w14 ⟨rfl, hbw14⟩
  have C15 := Lib.hid (C11.out.gr hbw14)
  clear C11
  have C16 := Lib.hid (C12.out.gr hbw14)
  clear C12
  have C17 := Lib.hid (HBb.out.gr hbw14)
  clear HBb
  have hbel18 := hbel13.trans (Below.mono hbw14 hbel13.size)
  clear hbel13
  clear hbw14
  go_wp2_with (first | (refine stB rfl 43 (.tmp 9) (.tmp 33) rfl w14.heap.size rfl (pv lx lm false) rfl 43 (pv (zeros 4) (zeros 4) false) (Blk.new w14 43 (pv (zeros 4) (zeros 4) false)) (i43 L_lx.out L_lm.out) (lenEq (show (pv (zeros 4) (zeros 4) false).length = 9 from rfl) (pv_len L_lx.out L_lm.out)) (pv_one _ _ _) ?_; generalize hW : World.setRow _ _ _ = w19; obtain ⟨hgw19, hnw19⟩ := newfacts hW; clear hW; have C22 := Lib.hid (C15.out.gr hgw19); clear C15; have C23 := Lib.hid (C16.out.gr hgw19); clear C16; have C24 := Lib.hid (C17.out.gr hgw19); clear C17; have hbel25 := hbel18.trans (Below.mono hgw19 hbel18.size); clear hbel18; have D21 := Lib.hid hnw19; have szw19 := hgw19.size; clear hnw19 hgw19 szw19; generalize w14.heap.size = G20 at *) | (refine ldwM 43 (.tmp 1) rfl w.heap.size 0 rfl (pv lx ly false) _ (blk_all (C22.out)) Try.underlying43 rfl (i43 L_lx.out L_ly.out) 2 false rfl 37 rfl rfl ?_))
  refine (Hc6.out _).mono ?_
  rintro e w26 ⟨rfl, hbw26⟩
  have C27 := Lib.hid (C22.out.gr hbw26)
  clear C22
  have C28 := Lib.hid (C23.out.gr hbw26)
  clear C23
  have C29 := Lib.hid (C24.out.gr hbw26)
  clear C24
  have C30 := Lib.hid (D21.out.gr hbw26)
  clear D21
  have hbel31 := hbel25.trans (Below.mono hbw26 hbel25.size)
  clear hbel25
  clear hbw26
  go_wp2_with fail
  refine (Hc7.out _).mono ?_
  rintro e w32 ⟨rfl, hbw32⟩
  have C33 := Lib.hid (C27.out.gr hbw32)
  clear C27
  have C34 := Lib.hid (C28.out.gr hbw32)
  clear C28
  have C35 := Lib.hid (C29.out.gr hbw32)
  clear C29
  have C36 := Lib.hid (C30.out.gr hbw32)
  clear C30
  have hbel37 := hbel31.trans (Below.mono hbw32 hbel31.size)
  clear hbel31
  clear hbw32
  go_wp2_with fail
  refine (Hc8.out _).mono ?_
  rintro e w38 ⟨rfl, hbw38⟩
  have C39 := Lib.hid (C33.out.gr hbw38)
  clear C33
  have C40 := Lib.hid (C34.out.gr hbw38)
  clear C34
  have C41 := Lib.hid (C35.out.gr hbw38)
  clear C35
  have C42 := Lib.hid (C36.out.gr hbw38)
  clear C36
  have hbel43 := hbel37.trans (Below.mono hbw38 hbel37.size)
  clear hbel37
  clear hbw38
  have qg := QG.out
  go_wp2_with fail
  as_aux_lemma =>
  refine wp_region_G (fun w_ => Blk w_ G20 43 (pv lx lm false) ∧ Blk w_ w.heap.size 43 (pv lx ly false)) 24 (by kernel_rfl) ⟨C42.out.drew, C39.out.drew⟩ ?_
  refine wpAnyG_take (fun _ _ hS_ hb_ => ⟨hS_.1.gr hb_, hS_.2.gr hb_⟩) (i := 0) rfl (by kernel_rfl) (fun _ _ _ h => h) (pureG (by rfl) (by intro w; go_simp; first | done | with_reducible rfl)) ?_
  try simp only [Act.put, zq1, zq2, zq3, zq4, zq5, zq6]
  refine wpAnyG_take (fun _ _ hS_ hb_ => ⟨hS_.1.gr hb_, hS_.2.gr hb_⟩) (i := 1) rfl (by kernel_rfl) (fun _ _ _ h => h) (pureG (by rfl) (by intro w; go_simp; first | done | with_reducible rfl)) ?_
  try simp only [Act.put, zq1, zq2, zq3, zq4, zq5, zq6]
  refine wpAnyG_take (fun _ _ hS_ hb_ => ⟨hS_.1.gr hb_, hS_.2.gr hb_⟩) (i := 2) rfl (by kernel_rfl) (fun _ _ _ h => h) (pureG (by rfl) (by intro w; go_simp; first | done | with_reducible rfl)) ?_
  try simp only [Act.put, zq1, zq2, zq3, zq4, zq5, zq6]
  refine wpAnyG_take (fun _ _ hS_ hb_ => ⟨hS_.1.gr hb_, hS_.2.gr hb_⟩) (i := 3) rfl (by kernel_rfl) (fun _ _ _ h => h) (skipG (by rfl)) ?_
  try simp only [Act.put, zq1, zq2, zq3, zq4, zq5, zq6]
  refine wpAnyG_take (fun _ _ hS_ hb_ => ⟨hS_.1.gr hb_, hS_.2.gr hb_⟩) (i := 4) rfl (by kernel_rfl) (fun _ _ _ h => h) (skipG (by rfl)) ?_
  try simp only [Act.put, zq1, zq2, zq3, zq4, zq5, zq6]
  refine wpAnyG_take (fun _ _ hS_ hb_ => ⟨hS_.1.gr hb_, hS_.2.gr hb_⟩) (i := 5) rfl (by kernel_rfl) (fun _ _ _ h => h) (skipG (by rfl)) ?_
  try simp only [Act.put, zq1, zq2, zq3, zq4, zq5, zq6]
  refine wpAnyG_take (fun _ _ hS_ hb_ => ⟨hS_.1.gr hb_, hS_.2.gr hb_⟩) (i := 6) rfl (by kernel_rfl) (fun _ _ _ h => h) (skipG (by rfl)) ?_
  try simp only [Act.put, zq1, zq2, zq3, zq4, zq5, zq6]
  refine wpAnyG_take (fun _ _ hS_ hb_ => ⟨hS_.1.gr hb_, hS_.2.gr hb_⟩) (i := 7) rfl (by kernel_rfl) (fun _ _ _ h => h) (skipG (by rfl)) ?_
  try simp only [Act.put, zq1, zq2, zq3, zq4, zq5, zq6]
  refine wpAnyG_take (fun _ _ hS_ hb_ => ⟨hS_.1.gr hb_, hS_.2.gr hb_⟩) (i := 8) rfl (by kernel_rfl) (fun _ _ _ h => h) (skipG (by rfl)) ?_
  try simp only [Act.put, zq1, zq2, zq3, zq4, zq5, zq6]
  refine wpAnyG_take (fun _ _ hS_ hb_ => ⟨hS_.1.gr hb_, hS_.2.gr hb_⟩) (i := 9) rfl (by kernel_rfl) (fun _ _ _ h => h) (skipG (by rfl)) ?_
  try simp only [Act.put, zq1, zq2, zq3, zq4, zq5, zq6]
  refine wpAnyG_take (fun _ _ hS_ hb_ => ⟨hS_.1.gr hb_, hS_.2.gr hb_⟩) (i := 10) rfl (by kernel_rfl) (fun _ _ _ h => h) (pureG (by rfl) (by intro w; go_simp; first | done | with_reducible rfl)) ?_
  try simp only [Act.put, zq1, zq2, zq3, zq4, zq5, zq6]
  refine wpAnyG_take (fun _ _ hS_ hb_ => ⟨hS_.1.gr hb_, hS_.2.gr hb_⟩) (i := 11) rfl (by kernel_rfl) (fun _ _ _ h => h) (pureG (by rfl) (by intro w; go_simp; first | done | with_reducible rfl)) ?_
  try simp only [Act.put, zq1, zq2, zq3, zq4, zq5, zq6]
  refine wpAnyG_take (fun _ _ hS_ hb_ => ⟨hS_.1.gr hb_, hS_.2.gr hb_⟩) (i := 12) rfl (by kernel_rfl) (fun _ _ _ h => h) (pureG (by rfl) (by intro w; go_simp; first | done | with_reducible rfl)) ?_
  try simp only [Act.put, zq1, zq2, zq3, zq4, zq5, zq6]
  refine wpAnyG_take (fun _ _ hS_ hb_ => ⟨hS_.1.gr hb_, hS_.2.gr hb_⟩) (i := 13) rfl (by kernel_rfl) (fun _ _ _ h => h) (pureG (by rfl) (by intro w; go_simp; first | done | with_reducible rfl)) ?_
  try simp only [Act.put, zq1, zq2, zq3, zq4, zq5, zq6]
  refine wpAnyG_take (fun _ _ hS_ hb_ => ⟨hS_.1.gr hb_, hS_.2.gr hb_⟩) (i := 14) rfl (by kernel_rfl) (fun _ _ _ h => h) (pureG (by rfl) (by intro w; go_simp; first | done | with_reducible rfl)) ?_
  try simp only [Act.put, zq1, zq2, zq3, zq4, zq5, zq6]
  refine wpAnyG_take (fun _ _ hS_ hb_ => ⟨hS_.1.gr hb_, hS_.2.gr hb_⟩) (i := 15) rfl (by kernel_rfl) (fun _ _ _ h => h) (pureG (by rfl) (by intro w; go_simp; first | done | with_reducible rfl)) ?_
  try simp only [Act.put, zq1, zq2, zq3, zq4, zq5, zq6]
  refine wpAnyG_take (fun _ _ hS_ hb_ => ⟨hS_.1.gr hb_, hS_.2.gr hb_⟩) (i := 16) rfl (by kernel_rfl) (fun _ _ _ h => h) (pureG (by rfl) (by intro w; go_simp; first | done | with_reducible rfl)) ?_
  try simp only [Act.put, zq1, zq2, zq3, zq4, zq5, zq6]
  refine wpAnyG_take (fun _ _ hS_ hb_ => ⟨hS_.1.gr hb_, hS_.2.gr hb_⟩) (i := 17) rfl (by kernel_rfl) (fun _ _ _ h => h) (loadG (by rfl) _ _ rfl _ _ rfl (pv lx lm false) _ (fun _ hS_ => blk_all (hS_.1)) Try.underlying43 rfl (i43 L_lx.out L_lm.out)) ?_
  try simp only [Act.put, zq1, zq2, zq3, zq4, zq5, zq6]
  refine wpAnyG_take (fun _ _ hS_ hb_ => ⟨hS_.1.gr hb_, hS_.2.gr hb_⟩) (i := 18) rfl (by kernel_rfl) (fun _ _ _ h => h) (loadG (by rfl) _ _ rfl _ _ rfl (pv lx ly false) _ (fun _ hS_ => blk_all (hS_.2)) Try.underlying43 rfl (i43 L_lx.out L_ly.out)) ?_
  try simp only [Act.put, zq1, zq2, zq3, zq4, zq5, zq6]
  refine wpAnyG_take (fun _ _ hS_ hb_ => ⟨hS_.1.gr hb_, hS_.2.gr hb_⟩) (i := 19) rfl (by kernel_rfl) (fun _ _ _ h => h) (callG (by rfl) rfl Try.func32 (by kernel_rfl) (by kernel_rfl) (#[.agg (pv lx ly false).toArray]) (by simp [Act.eval]) (fun W_ _ => Hc9.out W_)) ?_
  try simp only [Act.put, zq1, zq2, zq3, zq4, zq5, zq6]
  refine wpAnyG_take (fun _ _ hS_ hb_ => ⟨hS_.1.gr hb_, hS_.2.gr hb_⟩) (i := 20) rfl (by kernel_rfl) (fun _ _ _ h => h) (pureG (by rfl) (by intro w; have q := QM.out; go_simp; first | done | with_reducible rfl)) ?_
  try simp only [Act.put, zq1, zq2, zq3, zq4, zq5, zq6]
  refine wpAnyG_take (fun _ _ hS_ hb_ => ⟨hS_.1.gr hb_, hS_.2.gr hb_⟩) (i := 21) rfl (by kernel_rfl) (fun _ _ _ h => h) (pureG (by rfl) (by intro w; go_simp; first | done | with_reducible rfl)) ?_
  try simp only [Act.put, zq1, zq2, zq3, zq4, zq5, zq6]
  refine wpAnyG_take (fun _ _ hS_ hb_ => ⟨hS_.1.gr hb_, hS_.2.gr hb_⟩) (i := 22) rfl (by kernel_rfl) (fun _ _ _ h => h) (pureG (by rfl) (by intro w; go_simp; first | done | with_reducible rfl)) ?_
  try simp only [Act.put, zq1, zq2, zq3, zq4, zq5, zq6]
  refine wpAnyG_take (fun _ _ hS_ hb_ => ⟨hS_.1.gr hb_, hS_.2.gr hb_⟩) (i := 23) rfl (by kernel_rfl) (fun _ _ _ h => h) (pureG (by rfl) (by intro w; go_simp; first | done | with_reducible rfl)) ?_
  try simp only [Act.put, zq1, zq2, zq3, zq4, zq5, zq6]
  refine wpAnyG_done (by kernel_rfl) ?_ _
  intro w44 hgw44
  try simp only [Act.put, zq1, zq2, zq3, zq4, zq5, zq6]
  have E45 := Lib.hid (C39.out.drew.gr hgw44)
  clear C39
  have E46 := Lib.hid (C40.out.drew.gr hgw44)
  clear C40
  have E47 := Lib.hid (C41.out.drew.gr hgw44)
  clear C41
  have E48 := Lib.hid (C42.out.drew.gr hgw44)
  clear C42
  have hbel49 := hbel43.drew.trans (Below.mono hgw44 hbel43.drew.size)
  clear hbel43
  clear hgw44
  as_aux_lemma =>
  clear qg
  have ci := pv_i E45.out L_lx.out L_ly.out
  go_wp2_with (first | (refine wpList_load_mid rfl 43 (.tmp 1) rfl w.heap.size 0 rfl (pv lx ly false) _ (blk_all (E45.out)) Try.underlying43 rfl (i43 L_lx.out L_ly.out) ?_))
  refine (Hc10.out _).mono ?_
  rintro e w50 ⟨Gd, cd, rfl, ow50, hbw50⟩
  have C51 := Lib.hid (E45.out.gr hbw50)
  clear E45
  have C52 := Lib.hid (E46.out.gr hbw50)
  clear E46
  have C53 := Lib.hid (E47.out.gr hbw50)
  clear E47
  have C54 := Lib.hid (E48.out.gr hbw50)
  clear E48
  have hbel55 := hbel49.trans (Below.mono hbw50 hbel49.size)
  clear hbel49
  have HBd := Lib.hid (own_bin ow50 HA.out (by decide))
  clear ow50
  clear hbw50
  go_wp2_with fail
  refine (same_eq (some ⟨Ga, 0, none⟩) (some ⟨Gd, 0, none⟩) 65 ca cd La _ C52.out.1 HBd.out.1).mono ?_
  rintro e w56 ⟨rfl, hbw56⟩
  have C57 := Lib.hid (C51.out.gr hbw56)
  clear C51
  have C58 := Lib.hid (C52.out.gr hbw56)
  clear C52
  have C59 := Lib.hid (C53.out.gr hbw56)
  clear C53
  have C60 := Lib.hid (C54.out.gr hbw56)
  clear C54
  have C61 := Lib.hid (HBd.out.gr hbw56)
  clear HBd
  have hbel62 := hbel55.trans (Below.mono hbw56 hbel55.size)
  clear hbel55
  clear hbw56
  as_aux_lemma =>
  go_wp2_with (first | (refine wpList_load_mid rfl 43 (.tmp 1) rfl w.heap.size 0 rfl (pv lx ly false) _ (blk_all (C57.out)) Try.underlying43 rfl (i43 L_lx.out L_ly.out) ?_))
  refine (Hc11.out _).mono ?_
  rintro e w63 ⟨Ge, ce, rfl, ow63, hbw63⟩
  have C64 := Lib.hid (C57.out.gr hbw63)
  clear C57
  have C65 := Lib.hid (C58.out.gr hbw63)
  clear C58
  have C66 := Lib.hid (C59.out.gr hbw63)
  clear C59
  have C67 := Lib.hid (C60.out.gr hbw63)
  clear C60
  have C68 := Lib.hid (C61.out.gr hbw63)
  clear C61
  have hbel69 := hbel62.trans (Below.mono hbw63 hbel62.size)
  clear hbel62
  have HBe := Lib.hid (own_bin ow63 HBL.out (by decide))
  clear ow63
  clear hbw63
  go_wp2_with fail
  refine (same_eq (some ⟨Gb, 0, none⟩) (some ⟨Ge, 0, none⟩) 33 cb ce Lb _ C66.out.1 HBe.out.1).mono ?_
  rintro e w70 ⟨rfl, hbw70⟩
  have C71 := Lib.hid (C64.out.gr hbw70)
  clear C64
  have C72 := Lib.hid (C65.out.gr hbw70)
  clear C65
  have C73 := Lib.hid (C66.out.gr hbw70)
  clear C66
  have C74 := Lib.hid (C67.out.gr hbw70)
  clear C67
  have C75 := Lib.hid (C68.out.gr hbw70)
  clear C68
  have C76 := Lib.hid (HBe.out.gr hbw70)
  clear HBe
  have hbel77 := hbel69.trans (Below.mono hbw70 hbel69.size)
  clear hbel69
  clear hbw70
  go_wp2_with fail
  refine (HD1.out (some ⟨Ga, 0, none⟩) ca _ C72.out).mono ?_
  rintro e w78 ⟨rfl, hbw78⟩
  have C79 := Lib.hid (C71.out.gr hbw78)
  clear C71
  have C80 := Lib.hid (C72.out.gr hbw78)
  clear C72
  have C81 := Lib.hid (C73.out.gr hbw78)
  clear C73
  have C82 := Lib.hid (C74.out.gr hbw78)
  clear C74
  have C83 := Lib.hid (C75.out.gr hbw78)
  clear C75
  have C84 := Lib.hid (C76.out.gr hbw78)
  clear C76
  have hbel85 := hbel77.trans (Below.mono hbw78 hbel77.size)
  clear hbel77
  clear hbw78
  go_wp2_with (first | (refine stB rfl 43 (.tmp 13) (.tmp 105) rfl w78.heap.size rfl (pv lx ly false) rfl 43 (pv (zeros 4) (zeros 4) false) (Blk.new w78 43 (pv (zeros 4) (zeros 4) false)) (i43 L_lx.out L_ly.out) (lenEq (show (pv (zeros 4) (zeros 4) false).length = 9 from rfl) (pv_len L_lx.out L_ly.out)) (pv_one _ _ _) ?_; generalize hW : World.setRow _ _ _ = w86; obtain ⟨hgw86, hnw86⟩ := newfacts hW; clear hW; have C89 := Lib.hid (C79.out.gr hgw86); clear C79; have C90 := Lib.hid (C80.out.gr hgw86); clear C80; have C91 := Lib.hid (C81.out.gr hgw86); clear C81; have C92 := Lib.hid (C82.out.gr hgw86); clear C82; have C93 := Lib.hid (C83.out.gr hgw86); clear C83; have C94 := Lib.hid (C84.out.gr hgw86); clear C84; have hbel95 := hbel85.trans (Below.mono hgw86 hbel85.size); clear hbel85; have D88 := Lib.hid hnw86; have szw86 := hgw86.size; clear hnw86 hgw86 szw86; generalize w78.heap.size = G87 at *))
  refine (HD2.out (some ⟨Gb, 0, none⟩) cb _ C91.out).mono ?_
  rintro e w96 ⟨rfl, hbw96⟩
  have C97 := Lib.hid (C89.out.gr hbw96)
  clear C89
  have C98 := Lib.hid (C90.out.gr hbw96)
  clear C90
  have C99 := Lib.hid (C91.out.gr hbw96)
  clear C91
  have C100 := Lib.hid (C92.out.gr hbw96)
  clear C92
  have C101 := Lib.hid (C93.out.gr hbw96)
  clear C93
  have C102 := Lib.hid (C94.out.gr hbw96)
  clear C94
  have C103 := Lib.hid (D88.out.gr hbw96)
  clear D88
  have hbel104 := hbel95.trans (Below.mono hbw96 hbel95.size)
  clear hbel95
  clear hbw96
  have qp := QP.out
  go_wp2_with (first | (refine stB rfl 43 (.tmp 15) (.tmp 110) rfl w96.heap.size rfl (pv lx ly false) rfl 43 (pv (zeros 4) (zeros 4) false) (Blk.new w96 43 (pv (zeros 4) (zeros 4) false)) (i43 L_lx.out L_ly.out) (lenEq (show (pv (zeros 4) (zeros 4) false).length = 9 from rfl) (pv_len L_lx.out L_ly.out)) (pv_one _ _ _) ?_; generalize hW : World.setRow _ _ _ = w105; obtain ⟨hgw105, hnw105⟩ := newfacts hW; clear hW; have C108 := Lib.hid (C97.out.gr hgw105); clear C97; have C109 := Lib.hid (C98.out.gr hgw105); clear C98; have C110 := Lib.hid (C99.out.gr hgw105); clear C99; have C111 := Lib.hid (C100.out.gr hgw105); clear C100; have C112 := Lib.hid (C101.out.gr hgw105); clear C101; have C113 := Lib.hid (C102.out.gr hgw105); clear C102; have C114 := Lib.hid (C103.out.gr hgw105); clear C103; have hbel115 := hbel104.trans (Below.mono hgw105 hbel104.size); clear hbel104; have D107 := Lib.hid hnw105; have szw105 := hgw105.size; clear hnw105 hgw105 szw105; generalize w96.heap.size = G106 at *) | (refine ldwM 43 (.tmp 13) rfl G87 0 rfl (pv lx ly false) _ (blk_all (C114.out)) Try.underlying43 rfl (i43 L_lx.out L_ly.out) 12 true rfl 124 rfl rfl ?_) | (refine ldwM 43 (.tmp 1) rfl w.heap.size 0 rfl (pv lx ly false) _ (blk_all (C108.out)) Try.underlying43 rfl (i43 L_lx.out L_ly.out) 12 true rfl 124 rfl rfl ?_) | (refine ldwM 43 (.tmp 15) rfl G106 0 rfl (pv lx ly false) _ (blk_all (D107.out)) Try.underlying43 rfl (i43 L_lx.out L_ly.out) 17 true rfl 129 rfl rfl ?_) | (refine ldwM 43 (.tmp 1) rfl w.heap.size 0 rfl (pv lx ly false) _ (blk_all (C108.out)) Try.underlying43 rfl (i43 L_lx.out L_ly.out) 17 true rfl 129 rfl rfl ?_))
  go_ret
  exact ⟨rfl, hbel115⟩
theorem onB_inf {x y : Nat} (h : onB x y true = true) : x = 0 ∧ y = 0 := of_decide_eq_true h
theorem base_eq : Ans 30 #[] (.agg (pv (pX gP) (pY gP) false).toArray) := by have h := base_pt; rw [ptV_eq gP] at h; exact h
theorem dbase_eq : Ans 31 #[] (.agg (pv (pX gP) (pY gP) false).toArray) := by have h := dbase_pt; rw [ptV_eq gP] at h; exact h
theorem points_any (x y : Nat) (i : Bool) (w : World) (hx : x < 2 ^ 256) (hy : y < 2 ^ 256) :
    Calls Try.prog 5 #[.agg (pv (wds 4 x) (wds 4 y) i).toArray] w fun e w' => e = .returned (.bool true) ∧ Below w.heap.size w w' := by
  have d1 := d_on x y i hx hy
  have k1 := k_on x y i hx hy
  cases ho : onB x y i with
  | false =>
    rw [ho] at d1 k1
    have hne : ¬ (wds 4 x = zeros 4 ∧ wds 4 y = zeros 4 ∧ i = true) := by
      rintro ⟨e1, e2, rfl⟩
      rw [wds0 hx] at e1
      rw [wds0 hy] at e2
      subst e1 e2
      exact absurd ho (by decide)
    exact points_off w (wds_len 4 x) (wds_len 4 y) (pX_len gP) (pY_len gP) k_awake d1 (fun w => enc_off w (wds_len 4 x) (wds_len 4 y) hne cinf_any k1) (fun w => pck_off w (wds_len 4 x) (wds_len 4 y) hne cinf_any k1)
      (fun w => neg_no (wds_len 4 x) (wds_len 4 y) k1 w) k1 base_eq dbase_eq
  | true =>
    rw [ho] at d1 k1
    cases i with
    | true =>
      obtain ⟨rfl, rfl⟩ := onB_inf ho
      rw [num_zero] at d1 k1 ⊢
      have kn := k_neg (P := .inf) trivial
      exact points_inf w (pX_len gP) (pY_len gP) k_awake d1 (fun w => enc_inf w cinf_any) (fun w => pck_inf w cinf_any) kn k1 base_eq dbase_eq (fun w => dneg_inf rfl rfl w)
    | false =>
      obtain ⟨P, hP, eP⟩ := onB_pt ho
      have h2 := ho
      unfold onB at h2
      rw [if_neg (by decide)] at h2
      simp only [Bool.and_eq_true, decide_eq_true_eq] at h2
      obtain ⟨g1, g2, g3⟩ := h2
      have eX : wds 4 x = nw (fv x) := by unfold nw; rw [fv_small g1]
      have eY : wds 4 y = nw (fv y) := by unfold nw; rw [fv_small g2]
      have hon : EC.On bP (.aff (fv x) (fv y)) := g3
      have kn := k_neg hon
      have e0 : ptV (.aff (fv x) (fv y)) = .agg (pv (wds 4 x) (wds 4 y) false).toArray := by rw [eX, eY]; rfl
      have e1 : ptV (EC.neg (.aff (fv x) (fv y))) = .agg (pv (wds 4 x) (nw (-(fv y))) false).toArray := by rw [eX]; rfl
      rw [e0, e1] at kn
      obtain ⟨y0, hy0, hyp⟩ := wds_head y
      have hd2 : y % 2 < 2 := Nat.mod_lt _ (by decide)
      have hbit : ∀ w, Calls Try.prog 69 #[.agg (natsV .u64 (wds 4 y)).toArray, .int .i64 0] w fun e w' => e = .returned (.int .i64 (y % 2 : Nat)) ∧ Below w.heap.size w w' := fun w => by
        have k := Bit_any y ((0 : Nat) : Int) w (by omega) (by omega)
        rw [bitZ_in y 0 (by omega), Nat.pow_zero, Nat.div_one] at k
        exact k
      refine points_aff (La := [4] ++ bytesOf_ x ++ bytesOf_ y) (Lb := [2 + y % 2] ++ bytesOf_ x) w (wds_len 4 x) (wds_len 4 y) (pX_len gP) (pY_len gP) (nw_len (-(fv y))) (lstA_lt x y) (lstB_lt x (y % 2) hd2) ?_ ?_ k_awake d1
        (fun w => enc_ok w (wds_len 4 x) (wds_len 4 y) (bytesOf_len x) (bytesOf_len y) (bytesOf_lt x) (bytesOf_lt y) cinf_any k1 (Bytes_any x) (Bytes_any y))
        (fun w => pck_ok w (wds_len 4 x) (wds_len 4 y) (bytesOf_len x) hd2 (bytesOf_lt x) cinf_any k1 (Bytes_any x) hbit) kn k1 base_eq dbase_eq ?_
        (fun w => denc_ok w (wds_len 4 x) (wds_len 4 y) (bytesOf_len x) (bytesOf_len y) (bytesOf_lt x) (bytesOf_lt y) (refBytes_any x) (refBytes_any y))
        (fun w => dpck_ok w (wds_len 4 x) (wds_len 4 y) (bytesOf_len x) hy0 hyp (bytesOf_lt x) (refBytes_any x))
      · intro A c W hB
        have k := k_dec hB
        unfold decV at k
        rw [decA_enc x y hx hy ho] at k
        exact k
      · intro A c W hB
        have k := k_dec hB
        unfold decV at k
        rw [decA_pck x y hx hy ho] at k
        exact k
      · intro w
        refine dneg_aff (wds_len 4 x) (wds_len 4 y) (wds_len 4 mP) (nw_len (-(fv y))) DP_any (fun w => ?_) w
        have k := d_modS 0 (fv y) w
        rw [nw_zero, neg_g0, ← eY] at k
        exact k
end Go.Proofs.Ytfffmoolkgheaaa
