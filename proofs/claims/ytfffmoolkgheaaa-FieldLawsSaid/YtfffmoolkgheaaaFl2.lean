/- FieldLaws answers true where the first form is not 0: each call in turn. No condition. -/
import Derived.Test.YtfffmoolkgheaaaG0
namespace Go.Proofs.Ytfffmoolkgheaaa
open Go.RowKit
set_option linter.unusedVariables false
set_option linter.unusedSimpArgs false
set_option maxRecDepth 100000 in
set_option maxHeartbeats 6400000 in
theorem laws_ok {lx ly lz la lb lc ab bc l1 pp rr m3 ov ac un iv : List Nat} {k j : Int} {d0 d1 d2 d3 e0 : Nat} (w : World) (hlx : lx.length = 4) (hly : ly.length = 4) (hlz : lz.length = 4) (hla : la.length = 4) (hlb : lb.length = 4) (hlc : lc.length = 4) (hab : ab.length = 4) (hbc : bc.length = 4) (hl1 : l1.length = 4) (hpp : pp.length = 4) (hrr : rr.length = 4) (hm3 : m3.length = 4) (hov : ov.length = 4) (hac : ac.length = 4) (hun : un.length = 4) (hiv : iv.length = 4)
    (hz : ¬ la = zeros 4)
    (he : d0 = e0 + 1)
    (hd : d0 < 18446744073709551616)
    (c1 : ∀ w, Calls Try.prog 16 #[.int .i64 k] w fun e w' => e = .returned (.tuple #[.int .i64 j, .agg (natsV .u64 [d0, d1, d2, d3]).toArray]) ∧ Below w.heap.size w w')
    (c2 : ∀ w, Calls Try.prog 17 #[.int .i64 j, .agg (natsV .u64 lx).toArray] w fun e w' => e = .returned (.tuple #[.agg (natsV .u64 la).toArray, .int .i64 0]) ∧ Below w.heap.size w w')
    (c3 : ∀ w, Calls Try.prog 17 #[.int .i64 j, .agg (natsV .u64 ly).toArray] w fun e w' => e = .returned (.tuple #[.agg (natsV .u64 lb).toArray, .int .i64 0]) ∧ Below w.heap.size w w')
    (c4 : ∀ w, Calls Try.prog 17 #[.int .i64 j, .agg (natsV .u64 lz).toArray] w fun e w' => e = .returned (.tuple #[.agg (natsV .u64 lc).toArray, .int .i64 0]) ∧ Below w.heap.size w w')
    (c5 : ∀ w, Calls Try.prog 18 #[] w fun e w' => e = .returned (.bool true) ∧ Below w.heap.size w w')
    (c6 : ∀ w, Calls Try.prog 19 #[.int .i64 j, .agg (natsV .u64 la).toArray, .agg (natsV .u64 lb).toArray] w fun e w' => e = .returned (.tuple #[.agg (natsV .u64 ab).toArray, .int .i64 0]) ∧ Below w.heap.size w w')
    (c7 : ∀ w, Calls Try.prog 19 #[.int .i64 j, .agg (natsV .u64 lb).toArray, .agg (natsV .u64 la).toArray] w fun e w' => e = .returned (.tuple #[.agg (natsV .u64 ab).toArray, .int .i64 0]) ∧ Below w.heap.size w w')
    (c8 : ∀ w, Calls Try.prog 19 #[.int .i64 j, .agg (natsV .u64 lb).toArray, .agg (natsV .u64 lc).toArray] w fun e w' => e = .returned (.tuple #[.agg (natsV .u64 bc).toArray, .int .i64 0]) ∧ Below w.heap.size w w')
    (c9 : ∀ w, Calls Try.prog 19 #[.int .i64 j, .agg (natsV .u64 ab).toArray, .agg (natsV .u64 lc).toArray] w fun e w' => e = .returned (.tuple #[.agg (natsV .u64 l1).toArray, .int .i64 0]) ∧ Below w.heap.size w w')
    (c10 : ∀ w, Calls Try.prog 19 #[.int .i64 j, .agg (natsV .u64 la).toArray, .agg (natsV .u64 bc).toArray] w fun e w' => e = .returned (.tuple #[.agg (natsV .u64 l1).toArray, .int .i64 0]) ∧ Below w.heap.size w w')
    (c11 : ∀ w, Calls Try.prog 20 #[.int .i64 j, .agg (natsV .u64 ab).toArray, .agg (natsV .u64 lb).toArray] w fun e w' => e = .returned (.tuple #[.agg (natsV .u64 la).toArray, .int .i64 0]) ∧ Below w.heap.size w w')
    (c12 : ∀ w, Calls Try.prog 21 #[.int .i64 j, .agg (natsV .u64 la).toArray, .agg (natsV .u64 lb).toArray] w fun e w' => e = .returned (.tuple #[.agg (natsV .u64 pp).toArray, .int .i64 0]) ∧ Below w.heap.size w w')
    (c13 : ∀ w, Calls Try.prog 21 #[.int .i64 j, .agg (natsV .u64 lb).toArray, .agg (natsV .u64 la).toArray] w fun e w' => e = .returned (.tuple #[.agg (natsV .u64 pp).toArray, .int .i64 0]) ∧ Below w.heap.size w w')
    (c14 : ∀ w, Calls Try.prog 21 #[.int .i64 j, .agg (natsV .u64 lb).toArray, .agg (natsV .u64 lc).toArray] w fun e w' => e = .returned (.tuple #[.agg (natsV .u64 rr).toArray, .int .i64 0]) ∧ Below w.heap.size w w')
    (c15 : ∀ w, Calls Try.prog 21 #[.int .i64 j, .agg (natsV .u64 pp).toArray, .agg (natsV .u64 lc).toArray] w fun e w' => e = .returned (.tuple #[.agg (natsV .u64 m3).toArray, .int .i64 0]) ∧ Below w.heap.size w w')
    (c16 : ∀ w, Calls Try.prog 21 #[.int .i64 j, .agg (natsV .u64 la).toArray, .agg (natsV .u64 rr).toArray] w fun e w' => e = .returned (.tuple #[.agg (natsV .u64 m3).toArray, .int .i64 0]) ∧ Below w.heap.size w w')
    (c17 : ∀ w, Calls Try.prog 21 #[.int .i64 j, .agg (natsV .u64 la).toArray, .agg (natsV .u64 bc).toArray] w fun e w' => e = .returned (.tuple #[.agg (natsV .u64 ov).toArray, .int .i64 0]) ∧ Below w.heap.size w w')
    (c18 : ∀ w, Calls Try.prog 21 #[.int .i64 j, .agg (natsV .u64 la).toArray, .agg (natsV .u64 lc).toArray] w fun e w' => e = .returned (.tuple #[.agg (natsV .u64 ac).toArray, .int .i64 0]) ∧ Below w.heap.size w w')
    (c19 : ∀ w, Calls Try.prog 19 #[.int .i64 j, .agg (natsV .u64 pp).toArray, .agg (natsV .u64 ac).toArray] w fun e w' => e = .returned (.tuple #[.agg (natsV .u64 ov).toArray, .int .i64 0]) ∧ Below w.heap.size w w')
    (c20 : ∀ w, Calls Try.prog 17 #[.int .i64 j, .agg #[.int .u64 1, .int .u64 0, .int .u64 0, .int .u64 0]] w fun e w' => e = .returned (.tuple #[.agg (natsV .u64 un).toArray, .int .i64 0]) ∧ Below w.heap.size w w')
    (c21 : ∀ w, Calls Try.prog 21 #[.int .i64 j, .agg (natsV .u64 la).toArray, .agg (natsV .u64 un).toArray] w fun e w' => e = .returned (.tuple #[.agg (natsV .u64 la).toArray, .int .i64 0]) ∧ Below w.heap.size w w')
    (c22 : ∀ w, Calls Try.prog 22 #[.int .i64 j, .agg (natsV .u64 la).toArray] w fun e w' => e = .returned (.tuple #[.agg (natsV .u64 iv).toArray, .int .i64 0]) ∧ Below w.heap.size w w')
    (c23 : ∀ w, Calls Try.prog 21 #[.int .i64 j, .agg (natsV .u64 la).toArray, .agg (natsV .u64 iv).toArray] w fun e w' => e = .returned (.tuple #[.agg (natsV .u64 un).toArray, .int .i64 0]) ∧ Below w.heap.size w w')
    (c24 : ∀ w, Calls Try.prog 23 #[.int .i64 j, .agg (natsV .u64 la).toArray, .agg #[.int .u64 (e0 : Nat), .int .u64 (d1 : Nat), .int .u64 (d2 : Nat), .int .u64 (d3 : Nat)]] w fun e w' => e = .returned (.tuple #[.agg (natsV .u64 un).toArray, .int .i64 0]) ∧ Below w.heap.size w w') :
    Calls Try.prog 4 #[.int .i64 k, .agg (tv lx ly lz).toArray] w fun e w' => e = .returned (.bool true) ∧ Below w.heap.size w w' := by
  have L_lx := Lib.hid hlx
  clear hlx
  have L_ly := Lib.hid hly
  clear hly
  have L_lz := Lib.hid hlz
  clear hlz
  have L_la := Lib.hid hla
  clear hla
  have L_lb := Lib.hid hlb
  clear hlb
  have L_lc := Lib.hid hlc
  clear hlc
  have L_ab := Lib.hid hab
  clear hab
  have L_bc := Lib.hid hbc
  clear hbc
  have L_l1 := Lib.hid hl1
  clear hl1
  have L_pp := Lib.hid hpp
  clear hpp
  have L_rr := Lib.hid hrr
  clear hrr
  have L_m3 := Lib.hid hm3
  clear hm3
  have L_ov := Lib.hid hov
  clear hov
  have L_ac := Lib.hid hac
  clear hac
  have L_un := Lib.hid hun
  clear hun
  have L_iv := Lib.hid hiv
  clear hiv
  have Hc1 := Lib.hid c1
  clear c1
  have Hc2 := Lib.hid c2
  clear c2
  have Hc3 := Lib.hid c3
  clear c3
  have Hc4 := Lib.hid c4
  clear c4
  have Hc5 := Lib.hid c5
  clear c5
  have Hc6 := Lib.hid c6
  clear c6
  have Hc7 := Lib.hid c7
  clear c7
  have Hc8 := Lib.hid c8
  clear c8
  have Hc9 := Lib.hid c9
  clear c9
  have Hc10 := Lib.hid c10
  clear c10
  have Hc11 := Lib.hid c11
  clear c11
  have Hc12 := Lib.hid c12
  clear c12
  have Hc13 := Lib.hid c13
  clear c13
  have Hc14 := Lib.hid c14
  clear c14
  have Hc15 := Lib.hid c15
  clear c15
  have Hc16 := Lib.hid c16
  clear c16
  have Hc17 := Lib.hid c17
  clear c17
  have Hc18 := Lib.hid c18
  clear c18
  have Hc19 := Lib.hid c19
  clear c19
  have Hc20 := Lib.hid c20
  clear c20
  have Hc21 := Lib.hid c21
  clear c21
  have Hc22 := Lib.hid c22
  clear c22
  have Hc23 := Lib.hid c23
  clear c23
  have Hc24 := Lib.hid c24
  clear c24
  have HZ := Lib.hid (fun w => (eqZ24 la L_la.out w).trans (by rw [decide_eq_false hz]))
  clear hz
  have Q_ab := Lib.hid (fun w => (eql24 ab ab L_ab.out L_ab.out w).trans (by rw [decide_eq_true rfl]))
  have Q_l1 := Lib.hid (fun w => (eql24 l1 l1 L_l1.out L_l1.out w).trans (by rw [decide_eq_true rfl]))
  have Q_la := Lib.hid (fun w => (eql24 la la L_la.out L_la.out w).trans (by rw [decide_eq_true rfl]))
  have Q_pp := Lib.hid (fun w => (eql24 pp pp L_pp.out L_pp.out w).trans (by rw [decide_eq_true rfl]))
  have Q_m3 := Lib.hid (fun w => (eql24 m3 m3 L_m3.out L_m3.out w).trans (by rw [decide_eq_true rfl]))
  have Q_ov := Lib.hid (fun w => (eql24 ov ov L_ov.out L_ov.out w).trans (by rw [decide_eq_true rfl]))
  have Q_un := Lib.hid (fun w => (eql24 un un L_un.out L_un.out w).trans (by rw [decide_eq_true rfl]))
  have HE := Lib.hid (show IntKind.u64.wrap ((d0 : Int) - 1) = (e0 : Int) by rw [IntKind.wrap_u64]; omega)
  have hd1 : (0 : Int) ≤ (d0 : Int) - 1 := by omega
  have HD := Lib.hid (And.intro hd1 hd)
  clear hd1 hd he
  have B0_ := Lib.hid (Blk.new w  36 (tv lx ly lz))
  have bel_ := ((Below.refl w.heap.size w).alloc (Nat.le_refl _) (.cells (tv lx ly lz).toArray 36))
  go_enter Try.func4, Try.ntmps4
  go_upto_region 1 with (fail)
  generalize w.alloc (.cells (tv lx ly lz).toArray 36) = w0 at *
  go_wp2_with (first | (refine wpList_load_mid rfl 24 (.tmp 54) rfl w.heap.size 0 rfl (natsV .u64 lx) _ (tv_x (B0_.out)) Try.underlying24 rfl (i24 L_lx.out) ?_) | (refine stB rfl 24 (.tmp 5) (.tmp 55) rfl w0.heap.size rfl (natsV .u64 lx) rfl 24 (natsV .u64 (zeros 4)) (Blk.new w0 24 (natsV .u64 (zeros 4))) (i24 L_lx.out) (lenEq (show (natsV .u64 (zeros 4)).length = 4 from rfl) (by rw [natsV_length, L_lx.out])) (natsV_one _ _) ?_; generalize hW : World.setRow _ _ _ = w1; obtain ⟨hgw1, hnw1⟩ := newfacts hW; clear hW; have C4 := Lib.hid (B0_.out.gr hgw1); clear B0_; have hbel5 := bel_.trans (Below.mono hgw1 bel_.size); clear bel_; have D3 := Lib.hid hnw1; have szw1 := hgw1.size; clear hnw1 hgw1 szw1; generalize w0.heap.size = G2 at *) | (refine wpList_load_mid rfl 24 (.tmp 56) rfl w.heap.size 4 rfl (natsV .u64 ly) _ (tv_y (C4.out) L_lx.out) Try.underlying24 rfl (i24 L_ly.out) ?_) | (refine stB rfl 24 (.tmp 6) (.tmp 57) rfl w1.heap.size rfl (natsV .u64 ly) rfl 24 (natsV .u64 (zeros 4)) (Blk.new w1 24 (natsV .u64 (zeros 4))) (i24 L_ly.out) (lenEq (show (natsV .u64 (zeros 4)).length = 4 from rfl) (by rw [natsV_length, L_ly.out])) (natsV_one _ _) ?_; generalize hW : World.setRow _ _ _ = w6; obtain ⟨hgw6, hnw6⟩ := newfacts hW; clear hW; have C9 := Lib.hid (C4.out.gr hgw6); clear C4; have C10 := Lib.hid (D3.out.gr hgw6); clear D3; have hbel11 := hbel5.trans (Below.mono hgw6 hbel5.size); clear hbel5; have D8 := Lib.hid hnw6; have szw6 := hgw6.size; clear hnw6 hgw6 szw6; generalize w1.heap.size = G7 at *) | (refine wpList_load_mid rfl 24 (.tmp 58) rfl w.heap.size 8 rfl (natsV .u64 lz) _ (tv_z (C9.out) L_lx.out L_ly.out) Try.underlying24 rfl (i24 L_lz.out) ?_) | (refine stB rfl 24 (.tmp 7) (.tmp 59) rfl w6.heap.size rfl (natsV .u64 lz) rfl 24 (natsV .u64 (zeros 4)) (Blk.new w6 24 (natsV .u64 (zeros 4))) (i24 L_lz.out) (lenEq (show (natsV .u64 (zeros 4)).length = 4 from rfl) (by rw [natsV_length, L_lz.out])) (natsV_one _ _) ?_; generalize hW : World.setRow _ _ _ = w12; obtain ⟨hgw12, hnw12⟩ := newfacts hW; clear hW; have C15 := Lib.hid (C9.out.gr hgw12); clear C9; have C16 := Lib.hid (C10.out.gr hgw12); clear C10; have C17 := Lib.hid (D8.out.gr hgw12); clear D8; have hbel18 := hbel11.trans (Below.mono hgw12 hbel11.size); clear hbel11; have D14 := Lib.hid hnw12; have szw12 := hgw12.size; clear hnw12 hgw12 szw12; generalize w6.heap.size = G13 at *))
  refine (Hc1.out _).mono ?_
  rintro e w19 ⟨rfl, hbw19⟩
  have C20 := Lib.hid (C15.out.gr hbw19)
  clear C15
  have C21 := Lib.hid (C16.out.gr hbw19)
  clear C16
  have C22 := Lib.hid (C17.out.gr hbw19)
  clear C17
  have C23 := Lib.hid (D14.out.gr hbw19)
  clear D14
  have hbel24 := hbel18.trans (Below.mono hbw19 hbel18.size)
  clear hbel18
  clear hbw19
  clear C20
  go_wp2_with (first | (refine stB rfl 24 (.tmp 9) (.tmp 64) rfl w19.heap.size rfl (natsV .u64 [d0, d1, d2, d3]) rfl 24 (natsV .u64 (zeros 4)) (Blk.new w19 24 (natsV .u64 (zeros 4))) (i24 (show [d0, d1, d2, d3].length = 4 from rfl)) (lenEq (show (natsV .u64 (zeros 4)).length = 4 from rfl) (by rw [natsV_length, (show [d0, d1, d2, d3].length = 4 from rfl)])) (natsV_one _ _) ?_; generalize hW : World.setRow _ _ _ = w25; obtain ⟨hgw25, hnw25⟩ := newfacts hW; clear hW; have C28 := Lib.hid (C21.out.gr hgw25); clear C21; have C29 := Lib.hid (C22.out.gr hgw25); clear C22; have C30 := Lib.hid (C23.out.gr hgw25); clear C23; have hbel31 := hbel24.trans (Below.mono hgw25 hbel24.size); clear hbel24; have D27 := Lib.hid hnw25; have szw25 := hgw25.size; clear hnw25 hgw25 szw25; generalize w19.heap.size = G26 at *) | (refine wpList_load_mid rfl 24 (.tmp 5) rfl G2 0 rfl (natsV .u64 lx) _ (blk_all (C28.out)) Try.underlying24 rfl (i24 L_lx.out) ?_))
  refine (Hc2.out _).mono ?_
  rintro e w32 ⟨rfl, hbw32⟩
  have C33 := Lib.hid (C28.out.gr hbw32)
  clear C28
  have C34 := Lib.hid (C29.out.gr hbw32)
  clear C29
  have C35 := Lib.hid (C30.out.gr hbw32)
  clear C30
  have C36 := Lib.hid (D27.out.gr hbw32)
  clear D27
  have hbel37 := hbel31.trans (Below.mono hbw32 hbel31.size)
  clear hbel31
  clear hbw32
  clear C33
  go_wp2_with (first | (refine stB rfl 24 (.tmp 10) (.tmp 69) rfl w32.heap.size rfl (natsV .u64 la) rfl 24 (natsV .u64 (zeros 4)) (Blk.new w32 24 (natsV .u64 (zeros 4))) (i24 L_la.out) (lenEq (show (natsV .u64 (zeros 4)).length = 4 from rfl) (by rw [natsV_length, L_la.out])) (natsV_one _ _) ?_; generalize hW : World.setRow _ _ _ = w38; obtain ⟨hgw38, hnw38⟩ := newfacts hW; clear hW; have C41 := Lib.hid (C34.out.gr hgw38); clear C34; have C42 := Lib.hid (C35.out.gr hgw38); clear C35; have C43 := Lib.hid (C36.out.gr hgw38); clear C36; have hbel44 := hbel37.trans (Below.mono hgw38 hbel37.size); clear hbel37; have D40 := Lib.hid hnw38; have szw38 := hgw38.size; clear hnw38 hgw38 szw38; generalize w32.heap.size = G39 at *) | (refine wpList_load_mid rfl 24 (.tmp 6) rfl G7 0 rfl (natsV .u64 ly) _ (blk_all (C41.out)) Try.underlying24 rfl (i24 L_ly.out) ?_))
  refine (Hc3.out _).mono ?_
  rintro e w45 ⟨rfl, hbw45⟩
  have C46 := Lib.hid (C41.out.gr hbw45)
  clear C41
  have C47 := Lib.hid (C42.out.gr hbw45)
  clear C42
  have C48 := Lib.hid (C43.out.gr hbw45)
  clear C43
  have C49 := Lib.hid (D40.out.gr hbw45)
  clear D40
  have hbel50 := hbel44.trans (Below.mono hbw45 hbel44.size)
  clear hbel44
  clear hbw45
  clear C46
  go_wp2_with (first | (refine stB rfl 24 (.tmp 12) (.tmp 75) rfl w45.heap.size rfl (natsV .u64 lb) rfl 24 (natsV .u64 (zeros 4)) (Blk.new w45 24 (natsV .u64 (zeros 4))) (i24 L_lb.out) (lenEq (show (natsV .u64 (zeros 4)).length = 4 from rfl) (by rw [natsV_length, L_lb.out])) (natsV_one _ _) ?_; generalize hW : World.setRow _ _ _ = w51; obtain ⟨hgw51, hnw51⟩ := newfacts hW; clear hW; have C54 := Lib.hid (C47.out.gr hgw51); clear C47; have C55 := Lib.hid (C48.out.gr hgw51); clear C48; have C56 := Lib.hid (C49.out.gr hgw51); clear C49; have hbel57 := hbel50.trans (Below.mono hgw51 hbel50.size); clear hbel50; have D53 := Lib.hid hnw51; have szw51 := hgw51.size; clear hnw51 hgw51 szw51; generalize w45.heap.size = G52 at *) | (refine wpList_load_mid rfl 24 (.tmp 7) rfl G13 0 rfl (natsV .u64 lz) _ (blk_all (C54.out)) Try.underlying24 rfl (i24 L_lz.out) ?_))
  refine (Hc4.out _).mono ?_
  rintro e w58 ⟨rfl, hbw58⟩
  have C59 := Lib.hid (C54.out.gr hbw58)
  clear C54
  have C60 := Lib.hid (C55.out.gr hbw58)
  clear C55
  have C61 := Lib.hid (C56.out.gr hbw58)
  clear C56
  have C62 := Lib.hid (D53.out.gr hbw58)
  clear D53
  have hbel63 := hbel57.trans (Below.mono hbw58 hbel57.size)
  clear hbel57
  clear hbw58
  clear C59
  go_wp2_with (first | (refine stB rfl 24 (.tmp 14) (.tmp 81) rfl w58.heap.size rfl (natsV .u64 lc) rfl 24 (natsV .u64 (zeros 4)) (Blk.new w58 24 (natsV .u64 (zeros 4))) (i24 L_lc.out) (lenEq (show (natsV .u64 (zeros 4)).length = 4 from rfl) (by rw [natsV_length, L_lc.out])) (natsV_one _ _) ?_; generalize hW : World.setRow _ _ _ = w64; obtain ⟨hgw64, hnw64⟩ := newfacts hW; clear hW; have C67 := Lib.hid (C60.out.gr hgw64); clear C60; have C68 := Lib.hid (C61.out.gr hgw64); clear C61; have C69 := Lib.hid (C62.out.gr hgw64); clear C62; have hbel70 := hbel63.trans (Below.mono hgw64 hbel63.size); clear hbel63; have D66 := Lib.hid hnw64; have szw64 := hgw64.size; clear hnw64 hgw64 szw64; generalize w58.heap.size = G65 at *))
  refine (Hc5.out _).mono ?_
  rintro e w71 ⟨rfl, hbw71⟩
  have C72 := Lib.hid (C67.out.gr hbw71)
  clear C67
  have C73 := Lib.hid (C68.out.gr hbw71)
  clear C68
  have C74 := Lib.hid (C69.out.gr hbw71)
  clear C69
  have C75 := Lib.hid (D66.out.gr hbw71)
  clear D66
  have hbel76 := hbel70.trans (Below.mono hbw71 hbel70.size)
  clear hbel70
  clear hbw71
  go_wp2_with (first | (refine wpList_load_mid rfl 24 (.tmp 10) rfl G39 0 rfl (natsV .u64 la) _ (blk_all (C73.out)) Try.underlying24 rfl (i24 L_la.out) ?_) | (refine wpList_load_mid rfl 24 (.tmp 12) rfl G52 0 rfl (natsV .u64 lb) _ (blk_all (C74.out)) Try.underlying24 rfl (i24 L_lb.out) ?_))
  refine (Hc6.out _).mono ?_
  rintro e w77 ⟨rfl, hbw77⟩
  have C78 := Lib.hid (C72.out.gr hbw77)
  clear C72
  have C79 := Lib.hid (C73.out.gr hbw77)
  clear C73
  have C80 := Lib.hid (C74.out.gr hbw77)
  clear C74
  have C81 := Lib.hid (C75.out.gr hbw77)
  clear C75
  have hbel82 := hbel76.trans (Below.mono hbw77 hbel76.size)
  clear hbel76
  clear hbw77
  go_wp2_with (first | (refine stB rfl 24 (.tmp 17) (.tmp 103) rfl w77.heap.size rfl (natsV .u64 ab) rfl 24 (natsV .u64 (zeros 4)) (Blk.new w77 24 (natsV .u64 (zeros 4))) (i24 L_ab.out) (lenEq (show (natsV .u64 (zeros 4)).length = 4 from rfl) (by rw [natsV_length, L_ab.out])) (natsV_one _ _) ?_; generalize hW : World.setRow _ _ _ = w83; obtain ⟨hgw83, hnw83⟩ := newfacts hW; clear hW; have C86 := Lib.hid (C78.out.gr hgw83); clear C78; have C87 := Lib.hid (C79.out.gr hgw83); clear C79; have C88 := Lib.hid (C80.out.gr hgw83); clear C80; have C89 := Lib.hid (C81.out.gr hgw83); clear C81; have hbel90 := hbel82.trans (Below.mono hgw83 hbel82.size); clear hbel82; have D85 := Lib.hid hnw83; have szw83 := hgw83.size; clear hnw83 hgw83 szw83; generalize w77.heap.size = G84 at *) | (refine wpList_load_mid rfl 24 (.tmp 12) rfl G52 0 rfl (natsV .u64 lb) _ (blk_all (C88.out)) Try.underlying24 rfl (i24 L_lb.out) ?_) | (refine wpList_load_mid rfl 24 (.tmp 10) rfl G39 0 rfl (natsV .u64 la) _ (blk_all (C87.out)) Try.underlying24 rfl (i24 L_la.out) ?_))
  refine (Hc7.out _).mono ?_
  rintro e w91 ⟨rfl, hbw91⟩
  have C92 := Lib.hid (C86.out.gr hbw91)
  clear C86
  have C93 := Lib.hid (C87.out.gr hbw91)
  clear C87
  have C94 := Lib.hid (C88.out.gr hbw91)
  clear C88
  have C95 := Lib.hid (C89.out.gr hbw91)
  clear C89
  have C96 := Lib.hid (D85.out.gr hbw91)
  clear D85
  have hbel97 := hbel90.trans (Below.mono hbw91 hbel90.size)
  clear hbel90
  clear hbw91
  as_aux_lemma =>
  go_wp2_with (first | (refine stB rfl 24 (.tmp 19) (.tmp 110) rfl w91.heap.size rfl (natsV .u64 ab) rfl 24 (natsV .u64 (zeros 4)) (Blk.new w91 24 (natsV .u64 (zeros 4))) (i24 L_ab.out) (lenEq (show (natsV .u64 (zeros 4)).length = 4 from rfl) (by rw [natsV_length, L_ab.out])) (natsV_one _ _) ?_; generalize hW : World.setRow _ _ _ = w98; obtain ⟨hgw98, hnw98⟩ := newfacts hW; clear hW; have C101 := Lib.hid (C92.out.gr hgw98); clear C92; have C102 := Lib.hid (C93.out.gr hgw98); clear C93; have C103 := Lib.hid (C94.out.gr hgw98); clear C94; have C104 := Lib.hid (C95.out.gr hgw98); clear C95; have C105 := Lib.hid (C96.out.gr hgw98); clear C96; have hbel106 := hbel97.trans (Below.mono hgw98 hbel97.size); clear hbel97; have D100 := Lib.hid hnw98; have szw98 := hgw98.size; clear hnw98 hgw98 szw98; generalize w91.heap.size = G99 at *) | (refine wpList_load_mid rfl 24 (.tmp 12) rfl G52 0 rfl (natsV .u64 lb) _ (blk_all (C103.out)) Try.underlying24 rfl (i24 L_lb.out) ?_) | (refine wpList_load_mid rfl 24 (.tmp 14) rfl G65 0 rfl (natsV .u64 lc) _ (blk_all (C104.out)) Try.underlying24 rfl (i24 L_lc.out) ?_))
  refine (Hc8.out _).mono ?_
  rintro e w107 ⟨rfl, hbw107⟩
  have C108 := Lib.hid (C101.out.gr hbw107)
  clear C101
  have C109 := Lib.hid (C102.out.gr hbw107)
  clear C102
  have C110 := Lib.hid (C103.out.gr hbw107)
  clear C103
  have C111 := Lib.hid (C104.out.gr hbw107)
  clear C104
  have C112 := Lib.hid (C105.out.gr hbw107)
  clear C105
  have C113 := Lib.hid (D100.out.gr hbw107)
  clear D100
  have hbel114 := hbel106.trans (Below.mono hbw107 hbel106.size)
  clear hbel106
  clear hbw107
  go_wp2_with (first | (refine stB rfl 24 (.tmp 21) (.tmp 117) rfl w107.heap.size rfl (natsV .u64 bc) rfl 24 (natsV .u64 (zeros 4)) (Blk.new w107 24 (natsV .u64 (zeros 4))) (i24 L_bc.out) (lenEq (show (natsV .u64 (zeros 4)).length = 4 from rfl) (by rw [natsV_length, L_bc.out])) (natsV_one _ _) ?_; generalize hW : World.setRow _ _ _ = w115; obtain ⟨hgw115, hnw115⟩ := newfacts hW; clear hW; have C118 := Lib.hid (C108.out.gr hgw115); clear C108; have C119 := Lib.hid (C109.out.gr hgw115); clear C109; have C120 := Lib.hid (C110.out.gr hgw115); clear C110; have C121 := Lib.hid (C111.out.gr hgw115); clear C111; have C122 := Lib.hid (C112.out.gr hgw115); clear C112; have C123 := Lib.hid (C113.out.gr hgw115); clear C113; have hbel124 := hbel114.trans (Below.mono hgw115 hbel114.size); clear hbel114; have D117 := Lib.hid hnw115; have szw115 := hgw115.size; clear hnw115 hgw115 szw115; generalize w107.heap.size = G116 at *) | (refine wpList_load_mid rfl 24 (.tmp 17) rfl G84 0 rfl (natsV .u64 ab) _ (blk_all (C122.out)) Try.underlying24 rfl (i24 L_ab.out) ?_) | (refine wpList_load_mid rfl 24 (.tmp 14) rfl G65 0 rfl (natsV .u64 lc) _ (blk_all (C121.out)) Try.underlying24 rfl (i24 L_lc.out) ?_))
  refine (Hc9.out _).mono ?_
  rintro e w125 ⟨rfl, hbw125⟩
  have C126 := Lib.hid (C118.out.gr hbw125)
  clear C118
  have C127 := Lib.hid (C119.out.gr hbw125)
  clear C119
  have C128 := Lib.hid (C120.out.gr hbw125)
  clear C120
  have C129 := Lib.hid (C121.out.gr hbw125)
  clear C121
  have C130 := Lib.hid (C122.out.gr hbw125)
  clear C122
  have C131 := Lib.hid (C123.out.gr hbw125)
  clear C123
  have C132 := Lib.hid (D117.out.gr hbw125)
  clear D117
  have hbel133 := hbel124.trans (Below.mono hbw125 hbel124.size)
  clear hbel124
  clear hbw125
  as_aux_lemma =>
  go_wp2_with (first | (refine stB rfl 24 (.tmp 23) (.tmp 124) rfl w125.heap.size rfl (natsV .u64 l1) rfl 24 (natsV .u64 (zeros 4)) (Blk.new w125 24 (natsV .u64 (zeros 4))) (i24 L_l1.out) (lenEq (show (natsV .u64 (zeros 4)).length = 4 from rfl) (by rw [natsV_length, L_l1.out])) (natsV_one _ _) ?_; generalize hW : World.setRow _ _ _ = w134; obtain ⟨hgw134, hnw134⟩ := newfacts hW; clear hW; have NE137 := Lib.hid (Nat.ne_of_lt (C126.out.lt)); have NE138 := Lib.hid (Nat.ne_of_lt (C127.out.lt)); have NE139 := Lib.hid (Nat.ne_of_lt (C128.out.lt)); have NE140 := Lib.hid (Nat.ne_of_lt (C129.out.lt)); have NE141 := Lib.hid (Nat.ne_of_lt (C130.out.lt)); have NE142 := Lib.hid (Nat.ne_of_lt (C131.out.lt)); have NE143 := Lib.hid (Nat.ne_of_lt (C132.out.lt)); have GE144 := Lib.hid hbel133.size; have C145 := Lib.hid (C126.out.gr hgw134); clear C126; have C146 := Lib.hid (C127.out.gr hgw134); clear C127; have C147 := Lib.hid (C128.out.gr hgw134); clear C128; have C148 := Lib.hid (C129.out.gr hgw134); clear C129; have C149 := Lib.hid (C130.out.gr hgw134); clear C130; have C150 := Lib.hid (C131.out.gr hgw134); clear C131; have C151 := Lib.hid (C132.out.gr hgw134); clear C132; have hbel152 := hbel133.trans (Below.mono hgw134 hbel133.size); clear hbel133; have D136 := Lib.hid hnw134; have szw134 := hgw134.size; clear hnw134 hgw134 szw134; generalize w125.heap.size = G135 at *) | (refine wpList_load_mid rfl 24 (.tmp 10) rfl G39 0 rfl (natsV .u64 la) _ (blk_all (C146.out)) Try.underlying24 rfl (i24 L_la.out) ?_) | (refine wpList_load_mid rfl 24 (.tmp 21) rfl G116 0 rfl (natsV .u64 bc) _ (blk_all (C151.out)) Try.underlying24 rfl (i24 L_bc.out) ?_))
  refine (Hc10.out _).mono ?_
  rintro e w153 ⟨rfl, hbw153⟩
  have C154 := Lib.hid (C145.out.gr hbw153)
  clear C145
  have C155 := Lib.hid (C146.out.gr hbw153)
  clear C146
  have C156 := Lib.hid (C147.out.gr hbw153)
  clear C147
  have C157 := Lib.hid (C148.out.gr hbw153)
  clear C148
  have C158 := Lib.hid (C149.out.gr hbw153)
  clear C149
  have C159 := Lib.hid (C150.out.gr hbw153)
  clear C150
  have C160 := Lib.hid (C151.out.gr hbw153)
  clear C151
  have C161 := Lib.hid (D136.out.gr hbw153)
  clear D136
  have hbel162 := hbel152.trans (Below.mono hbw153 hbel152.size)
  clear hbel152
  clear hbw153
  go_wp2_with (first | (refine stB rfl 24 (.tmp 25) (.tmp 131) rfl w153.heap.size rfl (natsV .u64 l1) rfl 24 (natsV .u64 (zeros 4)) (Blk.new w153 24 (natsV .u64 (zeros 4))) (i24 L_l1.out) (lenEq (show (natsV .u64 (zeros 4)).length = 4 from rfl) (by rw [natsV_length, L_l1.out])) (natsV_one _ _) ?_; generalize hW : World.setRow _ _ _ = w163; obtain ⟨hgw163, hnw163⟩ := newfacts hW; clear hW; have NE166 := Lib.hid (Nat.ne_of_lt (C154.out.lt)); have NE167 := Lib.hid (Nat.ne_of_lt (C155.out.lt)); have NE168 := Lib.hid (Nat.ne_of_lt (C156.out.lt)); have NE169 := Lib.hid (Nat.ne_of_lt (C157.out.lt)); have NE170 := Lib.hid (Nat.ne_of_lt (C158.out.lt)); have NE171 := Lib.hid (Nat.ne_of_lt (C159.out.lt)); have NE172 := Lib.hid (Nat.ne_of_lt (C160.out.lt)); have NE173 := Lib.hid (Nat.ne_of_lt (C161.out.lt)); have GE174 := Lib.hid hbel162.size; have C175 := Lib.hid (C154.out.gr hgw163); clear C154; have C176 := Lib.hid (C155.out.gr hgw163); clear C155; have C177 := Lib.hid (C156.out.gr hgw163); clear C156; have C178 := Lib.hid (C157.out.gr hgw163); clear C157; have C179 := Lib.hid (C158.out.gr hgw163); clear C158; have C180 := Lib.hid (C159.out.gr hgw163); clear C159; have C181 := Lib.hid (C160.out.gr hgw163); clear C160; have C182 := Lib.hid (C161.out.gr hgw163); clear C161; have hbel183 := hbel162.trans (Below.mono hgw163 hbel162.size); clear hbel162; have D165 := Lib.hid hnw163; have szw163 := hgw163.size; clear hnw163 hgw163 szw163; generalize w153.heap.size = G164 at *) | (refine wpList_load_mid rfl 24 (.tmp 17) rfl G84 0 rfl (natsV .u64 ab) _ (blk_all (C179.out)) Try.underlying24 rfl (i24 L_ab.out) ?_) | (refine wpList_load_mid rfl 24 (.tmp 12) rfl G52 0 rfl (natsV .u64 lb) _ (blk_all (C177.out)) Try.underlying24 rfl (i24 L_lb.out) ?_))
  refine (Hc11.out _).mono ?_
  rintro e w184 ⟨rfl, hbw184⟩
  have C185 := Lib.hid (C175.out.gr hbw184)
  clear C175
  have C186 := Lib.hid (C176.out.gr hbw184)
  clear C176
  have C187 := Lib.hid (C177.out.gr hbw184)
  clear C177
  have C188 := Lib.hid (C178.out.gr hbw184)
  clear C178
  have C189 := Lib.hid (C179.out.gr hbw184)
  clear C179
  have C190 := Lib.hid (C180.out.gr hbw184)
  clear C180
  have C191 := Lib.hid (C181.out.gr hbw184)
  clear C181
  have C192 := Lib.hid (C182.out.gr hbw184)
  clear C182
  have C193 := Lib.hid (D165.out.gr hbw184)
  clear D165
  have hbel194 := hbel183.trans (Below.mono hbw184 hbel183.size)
  clear hbel183
  clear hbw184
  have q_ab := Q_ab.out
  have q_l1 := Q_l1.out
  have q_la := Q_la.out
  go_wp2_with (first | (refine stB rfl 24 (.tmp 27) (.tmp 138) rfl w184.heap.size rfl (natsV .u64 la) rfl 24 (natsV .u64 (zeros 4)) (Blk.new w184 24 (natsV .u64 (zeros 4))) (i24 L_la.out) (lenEq (show (natsV .u64 (zeros 4)).length = 4 from rfl) (by rw [natsV_length, L_la.out])) (natsV_one _ _) ?_; generalize hW : World.setRow _ _ _ = w195; obtain ⟨hgw195, hnw195⟩ := newfacts hW; clear hW; have NE198 := Lib.hid (Nat.ne_of_lt (C192.out.lt)); have NE199 := Lib.hid (Nat.ne_of_lt (C193.out.lt)); have C200 := Lib.hid (C185.out.gr hgw195); clear C185; have C201 := Lib.hid (C186.out.gr hgw195); clear C186; have C202 := Lib.hid (C187.out.gr hgw195); clear C187; have C203 := Lib.hid (C188.out.gr hgw195); clear C188; have C204 := Lib.hid (C189.out.gr hgw195); clear C189; have C205 := Lib.hid (C190.out.gr hgw195); clear C190; have C206 := Lib.hid (C191.out.gr hgw195); clear C191; have C207 := Lib.hid (C192.out.gr hgw195); clear C192; have C208 := Lib.hid (C193.out.gr hgw195); clear C193; have hbel209 := hbel194.trans (Below.mono hgw195 hbel194.size); clear hbel194; have D197 := Lib.hid hnw195; have szw195 := hgw195.size; clear hnw195 hgw195 szw195; generalize w184.heap.size = G196 at *) | (refine wpList_load_mid rfl 24 (.tmp 17) rfl G84 0 rfl (natsV .u64 ab) _ (blk_all (C204.out)) Try.underlying24 rfl (i24 L_ab.out) ?_) | (refine wpList_load_mid rfl 24 (.tmp 19) rfl G99 0 rfl (natsV .u64 ab) _ (blk_all (C205.out)) Try.underlying24 rfl (i24 L_ab.out) ?_) | (refine ldwM 24 (.tmp 23) rfl G135 0 rfl (natsV .u64 l1) _ (blk_all (C207.out)) Try.underlying24 rfl (i24 L_l1.out) 3 true rfl 143 rfl rfl ?_) | (refine ldwM 24 (.tmp 25) rfl G164 0 rfl (natsV .u64 l1) _ (blk_all (C208.out)) Try.underlying24 rfl (i24 L_l1.out) 3 true rfl 143 rfl rfl ?_) | (refine ldwM 24 (.tmp 27) rfl G196 0 rfl (natsV .u64 la) _ (blk_all (D197.out)) Try.underlying24 rfl (i24 L_la.out) 8 true rfl 148 rfl rfl ?_) | (refine ldwM 24 (.tmp 10) rfl G39 0 rfl (natsV .u64 la) _ (blk_all (C201.out)) Try.underlying24 rfl (i24 L_la.out) 8 true rfl 148 rfl rfl ?_) | (refine wpList_load_mid rfl 24 (.tmp 10) rfl G39 0 rfl (natsV .u64 la) _ (blk_all (C201.out)) Try.underlying24 rfl (i24 L_la.out) ?_) | (refine wpList_load_mid rfl 24 (.tmp 12) rfl G52 0 rfl (natsV .u64 lb) _ (blk_all (C202.out)) Try.underlying24 rfl (i24 L_lb.out) ?_))
  refine (Hc12.out _).mono ?_
  rintro e w210 ⟨rfl, hbw210⟩
  have C211 := Lib.hid (C200.out.gr hbw210)
  clear C200
  have C212 := Lib.hid (C201.out.gr hbw210)
  clear C201
  have C213 := Lib.hid (C202.out.gr hbw210)
  clear C202
  have C214 := Lib.hid (C203.out.gr hbw210)
  clear C203
  have C215 := Lib.hid (C204.out.gr hbw210)
  clear C204
  have C216 := Lib.hid (C205.out.gr hbw210)
  clear C205
  have C217 := Lib.hid (C206.out.gr hbw210)
  clear C206
  have C218 := Lib.hid (C207.out.gr hbw210)
  clear C207
  have C219 := Lib.hid (C208.out.gr hbw210)
  clear C208
  have C220 := Lib.hid (D197.out.gr hbw210)
  clear D197
  have hbel221 := hbel209.trans (Below.mono hbw210 hbel209.size)
  clear hbel209
  clear hbw210
  clear C215 C216 C220
  clear q_ab q_l1 q_la
  as_aux_lemma =>
  go_wp2_with (first | (refine stB rfl 24 (.tmp 30) (.tmp 158) rfl w210.heap.size rfl (natsV .u64 pp) rfl 24 (natsV .u64 (zeros 4)) (Blk.new w210 24 (natsV .u64 (zeros 4))) (i24 L_pp.out) (lenEq (show (natsV .u64 (zeros 4)).length = 4 from rfl) (by rw [natsV_length, L_pp.out])) (natsV_one _ _) ?_; generalize hW : World.setRow _ _ _ = w222; obtain ⟨hgw222, hnw222⟩ := newfacts hW; clear hW; have NE225 := Lib.hid (Nat.ne_of_lt (C218.out.lt)); have NE226 := Lib.hid (Nat.ne_of_lt (C219.out.lt)); have C227 := Lib.hid (C211.out.gr hgw222); clear C211; have C228 := Lib.hid (C212.out.gr hgw222); clear C212; have C229 := Lib.hid (C213.out.gr hgw222); clear C213; have C230 := Lib.hid (C214.out.gr hgw222); clear C214; have C231 := Lib.hid (C217.out.gr hgw222); clear C217; have C232 := Lib.hid (C218.out.gr hgw222); clear C218; have C233 := Lib.hid (C219.out.gr hgw222); clear C219; have hbel234 := hbel221.trans (Below.mono hgw222 hbel221.size); clear hbel221; have D224 := Lib.hid hnw222; have szw222 := hgw222.size; clear hnw222 hgw222 szw222; generalize w210.heap.size = G223 at *) | (refine wpList_load_mid rfl 24 (.tmp 12) rfl G52 0 rfl (natsV .u64 lb) _ (blk_all (C229.out)) Try.underlying24 rfl (i24 L_lb.out) ?_) | (refine wpList_load_mid rfl 24 (.tmp 10) rfl G39 0 rfl (natsV .u64 la) _ (blk_all (C228.out)) Try.underlying24 rfl (i24 L_la.out) ?_))
  refine (Hc13.out _).mono ?_
  rintro e w235 ⟨rfl, hbw235⟩
  have C236 := Lib.hid (C227.out.gr hbw235)
  clear C227
  have C237 := Lib.hid (C228.out.gr hbw235)
  clear C228
  have C238 := Lib.hid (C229.out.gr hbw235)
  clear C229
  have C239 := Lib.hid (C230.out.gr hbw235)
  clear C230
  have C240 := Lib.hid (C231.out.gr hbw235)
  clear C231
  have C241 := Lib.hid (C232.out.gr hbw235)
  clear C232
  have C242 := Lib.hid (C233.out.gr hbw235)
  clear C233
  have C243 := Lib.hid (D224.out.gr hbw235)
  clear D224
  have hbel244 := hbel234.trans (Below.mono hbw235 hbel234.size)
  clear hbel234
  clear hbw235
  go_wp2_with (first | (refine stB rfl 24 (.tmp 32) (.tmp 165) rfl w235.heap.size rfl (natsV .u64 pp) rfl 24 (natsV .u64 (zeros 4)) (Blk.new w235 24 (natsV .u64 (zeros 4))) (i24 L_pp.out) (lenEq (show (natsV .u64 (zeros 4)).length = 4 from rfl) (by rw [natsV_length, L_pp.out])) (natsV_one _ _) ?_; generalize hW : World.setRow _ _ _ = w245; obtain ⟨hgw245, hnw245⟩ := newfacts hW; clear hW; have NE248 := Lib.hid (Nat.ne_of_lt (C241.out.lt)); have NE249 := Lib.hid (Nat.ne_of_lt (C242.out.lt)); have C250 := Lib.hid (C236.out.gr hgw245); clear C236; have C251 := Lib.hid (C237.out.gr hgw245); clear C237; have C252 := Lib.hid (C238.out.gr hgw245); clear C238; have C253 := Lib.hid (C239.out.gr hgw245); clear C239; have C254 := Lib.hid (C240.out.gr hgw245); clear C240; have C255 := Lib.hid (C241.out.gr hgw245); clear C241; have C256 := Lib.hid (C242.out.gr hgw245); clear C242; have C257 := Lib.hid (C243.out.gr hgw245); clear C243; have hbel258 := hbel244.trans (Below.mono hgw245 hbel244.size); clear hbel244; have D247 := Lib.hid hnw245; have szw245 := hgw245.size; clear hnw245 hgw245 szw245; generalize w235.heap.size = G246 at *) | (refine wpList_load_mid rfl 24 (.tmp 12) rfl G52 0 rfl (natsV .u64 lb) _ (blk_all (C252.out)) Try.underlying24 rfl (i24 L_lb.out) ?_) | (refine wpList_load_mid rfl 24 (.tmp 14) rfl G65 0 rfl (natsV .u64 lc) _ (blk_all (C253.out)) Try.underlying24 rfl (i24 L_lc.out) ?_))
  refine (Hc14.out _).mono ?_
  rintro e w259 ⟨rfl, hbw259⟩
  have C260 := Lib.hid (C250.out.gr hbw259)
  clear C250
  have C261 := Lib.hid (C251.out.gr hbw259)
  clear C251
  have C262 := Lib.hid (C252.out.gr hbw259)
  clear C252
  have C263 := Lib.hid (C253.out.gr hbw259)
  clear C253
  have C264 := Lib.hid (C254.out.gr hbw259)
  clear C254
  have C265 := Lib.hid (C255.out.gr hbw259)
  clear C255
  have C266 := Lib.hid (C256.out.gr hbw259)
  clear C256
  have C267 := Lib.hid (C257.out.gr hbw259)
  clear C257
  have C268 := Lib.hid (D247.out.gr hbw259)
  clear D247
  have hbel269 := hbel258.trans (Below.mono hbw259 hbel258.size)
  clear hbel258
  clear hbw259
  clear C262
  as_aux_lemma =>
  go_wp2_with (first | (refine stB rfl 24 (.tmp 34) (.tmp 172) rfl w259.heap.size rfl (natsV .u64 rr) rfl 24 (natsV .u64 (zeros 4)) (Blk.new w259 24 (natsV .u64 (zeros 4))) (i24 L_rr.out) (lenEq (show (natsV .u64 (zeros 4)).length = 4 from rfl) (by rw [natsV_length, L_rr.out])) (natsV_one _ _) ?_; generalize hW : World.setRow _ _ _ = w270; obtain ⟨hgw270, hnw270⟩ := newfacts hW; clear hW; have NE273 := Lib.hid (Nat.ne_of_lt (C265.out.lt)); have NE274 := Lib.hid (Nat.ne_of_lt (C266.out.lt)); have C275 := Lib.hid (C260.out.gr hgw270); clear C260; have C276 := Lib.hid (C261.out.gr hgw270); clear C261; have C277 := Lib.hid (C263.out.gr hgw270); clear C263; have C278 := Lib.hid (C264.out.gr hgw270); clear C264; have C279 := Lib.hid (C265.out.gr hgw270); clear C265; have C280 := Lib.hid (C266.out.gr hgw270); clear C266; have C281 := Lib.hid (C267.out.gr hgw270); clear C267; have C282 := Lib.hid (C268.out.gr hgw270); clear C268; have hbel283 := hbel269.trans (Below.mono hgw270 hbel269.size); clear hbel269; have D272 := Lib.hid hnw270; have szw270 := hgw270.size; clear hnw270 hgw270 szw270; generalize w259.heap.size = G271 at *) | (refine wpList_load_mid rfl 24 (.tmp 30) rfl G223 0 rfl (natsV .u64 pp) _ (blk_all (C281.out)) Try.underlying24 rfl (i24 L_pp.out) ?_) | (refine wpList_load_mid rfl 24 (.tmp 14) rfl G65 0 rfl (natsV .u64 lc) _ (blk_all (C277.out)) Try.underlying24 rfl (i24 L_lc.out) ?_))
  refine (Hc15.out _).mono ?_
  rintro e w284 ⟨rfl, hbw284⟩
  have C285 := Lib.hid (C275.out.gr hbw284)
  clear C275
  have C286 := Lib.hid (C276.out.gr hbw284)
  clear C276
  have C287 := Lib.hid (C277.out.gr hbw284)
  clear C277
  have C288 := Lib.hid (C278.out.gr hbw284)
  clear C278
  have C289 := Lib.hid (C279.out.gr hbw284)
  clear C279
  have C290 := Lib.hid (C280.out.gr hbw284)
  clear C280
  have C291 := Lib.hid (C281.out.gr hbw284)
  clear C281
  have C292 := Lib.hid (C282.out.gr hbw284)
  clear C282
  have C293 := Lib.hid (D272.out.gr hbw284)
  clear D272
  have hbel294 := hbel283.trans (Below.mono hbw284 hbel283.size)
  clear hbel283
  clear hbw284
  go_wp2_with (first | (refine stB rfl 24 (.tmp 23) (.tmp 179) rfl G135 rfl (natsV .u64 m3) rfl 24 (natsV .u64 l1) C289.out (i24 L_m3.out) (lenEq (by rw [natsV_length, L_l1.out]) (by rw [natsV_length, L_m3.out])) (natsV_one _ _) ?_; generalize hW : World.setRow _ _ _ = w295; obtain ⟨hgw295, hnw295⟩ := setfacts hW C289.out; clear hW; have E296 := Lib.hid (C285.out.grown hgw295 (fun e => NE137.out (Option.some.inj e))); clear C285; have E297 := Lib.hid (C286.out.grown hgw295 (fun e => NE138.out (Option.some.inj e))); clear C286; have E298 := Lib.hid (C287.out.grown hgw295 (fun e => NE140.out (Option.some.inj e))); clear C287; have E299 := Lib.hid (C288.out.grown hgw295 (fun e => NE143.out (Option.some.inj e))); clear C288; have E300 := Lib.hid (C290.out.grown hgw295 (fun e => (Ne.symm NE173.out) (Option.some.inj e))); clear C290; have E301 := Lib.hid (C291.out.grown hgw295 (fun e => (Ne.symm NE225.out) (Option.some.inj e))); clear C291; have E302 := Lib.hid (C292.out.grown hgw295 (fun e => (Ne.symm NE248.out) (Option.some.inj e))); clear C292; have E303 := Lib.hid (C293.out.grown hgw295 (fun e => (Ne.symm NE273.out) (Option.some.inj e))); clear C293; have D304 := Lib.hid hnw295; clear hnw295 C289; have hbel305 := belStore hbel294 hgw295 (GE144.out); clear hgw295; clear hbel294) | (refine wpList_load_mid rfl 24 (.tmp 10) rfl G39 0 rfl (natsV .u64 la) _ (blk_all (E297.out)) Try.underlying24 rfl (i24 L_la.out) ?_) | (refine wpList_load_mid rfl 24 (.tmp 34) rfl G271 0 rfl (natsV .u64 rr) _ (blk_all (E303.out)) Try.underlying24 rfl (i24 L_rr.out) ?_))
  refine (Hc16.out _).mono ?_
  rintro e w306 ⟨rfl, hbw306⟩
  have C307 := Lib.hid (E296.out.gr hbw306)
  clear E296
  have C308 := Lib.hid (E297.out.gr hbw306)
  clear E297
  have C309 := Lib.hid (E298.out.gr hbw306)
  clear E298
  have C310 := Lib.hid (E299.out.gr hbw306)
  clear E299
  have C311 := Lib.hid (D304.out.gr hbw306)
  clear D304
  have C312 := Lib.hid (E300.out.gr hbw306)
  clear E300
  have C313 := Lib.hid (E301.out.gr hbw306)
  clear E301
  have C314 := Lib.hid (E302.out.gr hbw306)
  clear E302
  have C315 := Lib.hid (E303.out.gr hbw306)
  clear E303
  have hbel316 := hbel305.trans (Below.mono hbw306 hbel305.size)
  clear hbel305
  clear hbw306
  clear C315
  have q_pp := Q_pp.out
  have q_m3 := Q_m3.out
  go_wp2_with (first | (refine stB rfl 24 (.tmp 25) (.tmp 186) rfl G164 rfl (natsV .u64 m3) rfl 24 (natsV .u64 l1) C312.out (i24 L_m3.out) (lenEq (by rw [natsV_length, L_l1.out]) (by rw [natsV_length, L_m3.out])) (natsV_one _ _) ?_; generalize hW : World.setRow _ _ _ = w317; obtain ⟨hgw317, hnw317⟩ := setfacts hW C312.out; clear hW; have E318 := Lib.hid (C307.out.grown hgw317 (fun e => NE166.out (Option.some.inj e))); clear C307; have E319 := Lib.hid (C308.out.grown hgw317 (fun e => NE167.out (Option.some.inj e))); clear C308; have E320 := Lib.hid (C309.out.grown hgw317 (fun e => NE169.out (Option.some.inj e))); clear C309; have E321 := Lib.hid (C310.out.grown hgw317 (fun e => NE172.out (Option.some.inj e))); clear C310; have E322 := Lib.hid (C311.out.grown hgw317 (fun e => NE173.out (Option.some.inj e))); clear C311; have E323 := Lib.hid (C313.out.grown hgw317 (fun e => (Ne.symm NE226.out) (Option.some.inj e))); clear C313; have E324 := Lib.hid (C314.out.grown hgw317 (fun e => (Ne.symm NE249.out) (Option.some.inj e))); clear C314; have D325 := Lib.hid hnw317; clear hnw317 C312; have hbel326 := belStore hbel316 hgw317 (GE174.out); clear hgw317; clear hbel316) | (refine wpList_load_mid rfl 24 (.tmp 30) rfl G223 0 rfl (natsV .u64 pp) _ (blk_all (E323.out)) Try.underlying24 rfl (i24 L_pp.out) ?_) | (refine wpList_load_mid rfl 24 (.tmp 32) rfl G246 0 rfl (natsV .u64 pp) _ (blk_all (E324.out)) Try.underlying24 rfl (i24 L_pp.out) ?_) | (refine ldwM 24 (.tmp 23) rfl G135 0 rfl (natsV .u64 m3) _ (blk_all (E322.out)) Try.underlying24 rfl (i24 L_m3.out) 3 true rfl 191 rfl rfl ?_) | (refine ldwM 24 (.tmp 25) rfl G164 0 rfl (natsV .u64 m3) _ (blk_all (D325.out)) Try.underlying24 rfl (i24 L_m3.out) 3 true rfl 191 rfl rfl ?_) | (refine wpList_load_mid rfl 24 (.tmp 10) rfl G39 0 rfl (natsV .u64 la) _ (blk_all (E319.out)) Try.underlying24 rfl (i24 L_la.out) ?_) | (refine wpList_load_mid rfl 24 (.tmp 21) rfl G116 0 rfl (natsV .u64 bc) _ (blk_all (E321.out)) Try.underlying24 rfl (i24 L_bc.out) ?_))
  refine (Hc17.out _).mono ?_
  rintro e w327 ⟨rfl, hbw327⟩
  have C328 := Lib.hid (E318.out.gr hbw327)
  clear E318
  have C329 := Lib.hid (E319.out.gr hbw327)
  clear E319
  have C330 := Lib.hid (E320.out.gr hbw327)
  clear E320
  have C331 := Lib.hid (E321.out.gr hbw327)
  clear E321
  have C332 := Lib.hid (E322.out.gr hbw327)
  clear E322
  have C333 := Lib.hid (D325.out.gr hbw327)
  clear D325
  have C334 := Lib.hid (E323.out.gr hbw327)
  clear E323
  have C335 := Lib.hid (E324.out.gr hbw327)
  clear E324
  have hbel336 := hbel326.trans (Below.mono hbw327 hbel326.size)
  clear hbel326
  clear hbw327
  clear C335 C332 C333 C331
  clear q_pp q_m3
  as_aux_lemma =>
  go_wp2_with (first | (refine stB rfl 24 (.tmp 37) (.tmp 201) rfl w327.heap.size rfl (natsV .u64 ov) rfl 24 (natsV .u64 (zeros 4)) (Blk.new w327 24 (natsV .u64 (zeros 4))) (i24 L_ov.out) (lenEq (show (natsV .u64 (zeros 4)).length = 4 from rfl) (by rw [natsV_length, L_ov.out])) (natsV_one _ _) ?_; generalize hW : World.setRow _ _ _ = w337; obtain ⟨hgw337, hnw337⟩ := newfacts hW; clear hW; have C340 := Lib.hid (C328.out.gr hgw337); clear C328; have C341 := Lib.hid (C329.out.gr hgw337); clear C329; have C342 := Lib.hid (C330.out.gr hgw337); clear C330; have C343 := Lib.hid (C334.out.gr hgw337); clear C334; have hbel344 := hbel336.trans (Below.mono hgw337 hbel336.size); clear hbel336; have D339 := Lib.hid hnw337; have szw337 := hgw337.size; clear hnw337 hgw337 szw337; generalize w327.heap.size = G338 at *) | (refine wpList_load_mid rfl 24 (.tmp 10) rfl G39 0 rfl (natsV .u64 la) _ (blk_all (C341.out)) Try.underlying24 rfl (i24 L_la.out) ?_) | (refine wpList_load_mid rfl 24 (.tmp 14) rfl G65 0 rfl (natsV .u64 lc) _ (blk_all (C342.out)) Try.underlying24 rfl (i24 L_lc.out) ?_))
  refine (Hc18.out _).mono ?_
  rintro e w345 ⟨rfl, hbw345⟩
  have C346 := Lib.hid (C340.out.gr hbw345)
  clear C340
  have C347 := Lib.hid (C341.out.gr hbw345)
  clear C341
  have C348 := Lib.hid (C342.out.gr hbw345)
  clear C342
  have C349 := Lib.hid (C343.out.gr hbw345)
  clear C343
  have C350 := Lib.hid (D339.out.gr hbw345)
  clear D339
  have hbel351 := hbel344.trans (Below.mono hbw345 hbel344.size)
  clear hbel344
  clear hbw345
  clear C348
  go_wp2_with (first | (refine stB rfl 24 (.tmp 39) (.tmp 208) rfl w345.heap.size rfl (natsV .u64 ac) rfl 24 (natsV .u64 (zeros 4)) (Blk.new w345 24 (natsV .u64 (zeros 4))) (i24 L_ac.out) (lenEq (show (natsV .u64 (zeros 4)).length = 4 from rfl) (by rw [natsV_length, L_ac.out])) (natsV_one _ _) ?_; generalize hW : World.setRow _ _ _ = w352; obtain ⟨hgw352, hnw352⟩ := newfacts hW; clear hW; have C355 := Lib.hid (C346.out.gr hgw352); clear C346; have C356 := Lib.hid (C347.out.gr hgw352); clear C347; have C357 := Lib.hid (C349.out.gr hgw352); clear C349; have C358 := Lib.hid (C350.out.gr hgw352); clear C350; have hbel359 := hbel351.trans (Below.mono hgw352 hbel351.size); clear hbel351; have D354 := Lib.hid hnw352; have szw352 := hgw352.size; clear hnw352 hgw352 szw352; generalize w345.heap.size = G353 at *) | (refine wpList_load_mid rfl 24 (.tmp 30) rfl G223 0 rfl (natsV .u64 pp) _ (blk_all (C357.out)) Try.underlying24 rfl (i24 L_pp.out) ?_) | (refine wpList_load_mid rfl 24 (.tmp 39) rfl G353 0 rfl (natsV .u64 ac) _ (blk_all (D354.out)) Try.underlying24 rfl (i24 L_ac.out) ?_))
  refine (Hc19.out _).mono ?_
  rintro e w360 ⟨rfl, hbw360⟩
  have C361 := Lib.hid (C355.out.gr hbw360)
  clear C355
  have C362 := Lib.hid (C356.out.gr hbw360)
  clear C356
  have C363 := Lib.hid (C357.out.gr hbw360)
  clear C357
  have C364 := Lib.hid (C358.out.gr hbw360)
  clear C358
  have C365 := Lib.hid (D354.out.gr hbw360)
  clear D354
  have hbel366 := hbel359.trans (Below.mono hbw360 hbel359.size)
  clear hbel359
  clear hbw360
  clear C363 C365
  go_wp2_with (first | (refine stB rfl 24 (.tmp 41) (.tmp 215) rfl w360.heap.size rfl (natsV .u64 ov) rfl 24 (natsV .u64 (zeros 4)) (Blk.new w360 24 (natsV .u64 (zeros 4))) (i24 L_ov.out) (lenEq (show (natsV .u64 (zeros 4)).length = 4 from rfl) (by rw [natsV_length, L_ov.out])) (natsV_one _ _) ?_; generalize hW : World.setRow _ _ _ = w367; obtain ⟨hgw367, hnw367⟩ := newfacts hW; clear hW; have C370 := Lib.hid (C361.out.gr hgw367); clear C361; have C371 := Lib.hid (C362.out.gr hgw367); clear C362; have C372 := Lib.hid (C364.out.gr hgw367); clear C364; have hbel373 := hbel366.trans (Below.mono hgw367 hbel366.size); clear hbel366; have D369 := Lib.hid hnw367; have szw367 := hgw367.size; clear hnw367 hgw367 szw367; generalize w360.heap.size = G368 at *))
  refine (Hc20.out _).mono ?_
  rintro e w374 ⟨rfl, hbw374⟩
  have C375 := Lib.hid (C370.out.gr hbw374)
  clear C370
  have C376 := Lib.hid (C371.out.gr hbw374)
  clear C371
  have C377 := Lib.hid (C372.out.gr hbw374)
  clear C372
  have C378 := Lib.hid (D369.out.gr hbw374)
  clear D369
  have hbel379 := hbel373.trans (Below.mono hbw374 hbel373.size)
  clear hbel373
  clear hbw374
  as_aux_lemma =>
  go_wp2_with (first | (refine stB rfl 24 (.tmp 43) (.tmp 221) rfl w374.heap.size rfl (natsV .u64 un) rfl 24 (natsV .u64 (zeros 4)) (Blk.new w374 24 (natsV .u64 (zeros 4))) (i24 L_un.out) (lenEq (show (natsV .u64 (zeros 4)).length = 4 from rfl) (by rw [natsV_length, L_un.out])) (natsV_one _ _) ?_; generalize hW : World.setRow _ _ _ = w380; obtain ⟨hgw380, hnw380⟩ := newfacts hW; clear hW; have C383 := Lib.hid (C375.out.gr hgw380); clear C375; have C384 := Lib.hid (C376.out.gr hgw380); clear C376; have C385 := Lib.hid (C377.out.gr hgw380); clear C377; have C386 := Lib.hid (C378.out.gr hgw380); clear C378; have hbel387 := hbel379.trans (Below.mono hgw380 hbel379.size); clear hbel379; have D382 := Lib.hid hnw380; have szw380 := hgw380.size; clear hnw380 hgw380 szw380; generalize w374.heap.size = G381 at *) | (refine wpList_load_mid rfl 24 (.tmp 10) rfl G39 0 rfl (natsV .u64 la) _ (blk_all (C384.out)) Try.underlying24 rfl (i24 L_la.out) ?_) | (refine wpList_load_mid rfl 24 (.tmp 43) rfl G381 0 rfl (natsV .u64 un) _ (blk_all (D382.out)) Try.underlying24 rfl (i24 L_un.out) ?_))
  refine (Hc21.out _).mono ?_
  rintro e w388 ⟨rfl, hbw388⟩
  have C389 := Lib.hid (C383.out.gr hbw388)
  clear C383
  have C390 := Lib.hid (C384.out.gr hbw388)
  clear C384
  have C391 := Lib.hid (C385.out.gr hbw388)
  clear C385
  have C392 := Lib.hid (C386.out.gr hbw388)
  clear C386
  have C393 := Lib.hid (D382.out.gr hbw388)
  clear D382
  have hbel394 := hbel387.trans (Below.mono hbw388 hbel387.size)
  clear hbel387
  clear hbw388
  have q_ov := Q_ov.out
  have q_la := Q_la.out
  have hz0 := HZ.out
  go_wp2_with (first | (refine stB rfl 24 (.tmp 45) (.tmp 228) rfl w388.heap.size rfl (natsV .u64 la) rfl 24 (natsV .u64 (zeros 4)) (Blk.new w388 24 (natsV .u64 (zeros 4))) (i24 L_la.out) (lenEq (show (natsV .u64 (zeros 4)).length = 4 from rfl) (by rw [natsV_length, L_la.out])) (natsV_one _ _) ?_; generalize hW : World.setRow _ _ _ = w395; obtain ⟨hgw395, hnw395⟩ := newfacts hW; clear hW; have C398 := Lib.hid (C389.out.gr hgw395); clear C389; have C399 := Lib.hid (C390.out.gr hgw395); clear C390; have C400 := Lib.hid (C391.out.gr hgw395); clear C391; have C401 := Lib.hid (C392.out.gr hgw395); clear C392; have C402 := Lib.hid (C393.out.gr hgw395); clear C393; have hbel403 := hbel394.trans (Below.mono hgw395 hbel394.size); clear hbel394; have D397 := Lib.hid hnw395; have szw395 := hgw395.size; clear hnw395 hgw395 szw395; generalize w388.heap.size = G396 at *) | (refine wpList_load_mid rfl 24 (.tmp 37) rfl G338 0 rfl (natsV .u64 ov) _ (blk_all (C400.out)) Try.underlying24 rfl (i24 L_ov.out) ?_) | (refine wpList_load_mid rfl 24 (.tmp 41) rfl G368 0 rfl (natsV .u64 ov) _ (blk_all (C401.out)) Try.underlying24 rfl (i24 L_ov.out) ?_) | (refine ldwM 24 (.tmp 45) rfl G396 0 rfl (natsV .u64 la) _ (blk_all (D397.out)) Try.underlying24 rfl (i24 L_la.out) 3 true rfl 233 rfl rfl ?_) | (refine ldwM 24 (.tmp 10) rfl G39 0 rfl (natsV .u64 la) _ (blk_all (C399.out)) Try.underlying24 rfl (i24 L_la.out) 3 true rfl 233 rfl rfl ?_) | (refine wpList_load_mid rfl 24 (.tmp 10) rfl G39 0 rfl (natsV .u64 la) _ (blk_all (C399.out)) Try.underlying24 rfl (i24 L_la.out) ?_) | (refine wpList_load_mid rfl 24 (.tmp 10) rfl G39 0 rfl (natsV .u64 la) _ (blk_all (C399.out)) Try.underlying24 rfl (i24 L_la.out) ?_))
  refine (Hc22.out _).mono ?_
  rintro e w404 ⟨rfl, hbw404⟩
  have C405 := Lib.hid (C398.out.gr hbw404)
  clear C398
  have C406 := Lib.hid (C399.out.gr hbw404)
  clear C399
  have C407 := Lib.hid (C400.out.gr hbw404)
  clear C400
  have C408 := Lib.hid (C401.out.gr hbw404)
  clear C401
  have C409 := Lib.hid (C402.out.gr hbw404)
  clear C402
  have C410 := Lib.hid (D397.out.gr hbw404)
  clear D397
  have hbel411 := hbel403.trans (Below.mono hbw404 hbel403.size)
  clear hbel403
  clear hbw404
  clear C407 C408 C410
  clear q_ov q_la
  clear hz0
  as_aux_lemma =>
  go_wp2_with (first | (refine stB rfl 24 (.tmp 48) (.tmp 252) rfl w404.heap.size rfl (natsV .u64 iv) rfl 24 (natsV .u64 (zeros 4)) (Blk.new w404 24 (natsV .u64 (zeros 4))) (i24 L_iv.out) (lenEq (show (natsV .u64 (zeros 4)).length = 4 from rfl) (by rw [natsV_length, L_iv.out])) (natsV_one _ _) ?_; generalize hW : World.setRow _ _ _ = w412; obtain ⟨hgw412, hnw412⟩ := newfacts hW; clear hW; have C415 := Lib.hid (C405.out.gr hgw412); clear C405; have C416 := Lib.hid (C406.out.gr hgw412); clear C406; have C417 := Lib.hid (C409.out.gr hgw412); clear C409; have hbel418 := hbel411.trans (Below.mono hgw412 hbel411.size); clear hbel411; have D414 := Lib.hid hnw412; have szw412 := hgw412.size; clear hnw412 hgw412 szw412; generalize w404.heap.size = G413 at *) | (refine wpList_load_mid rfl 24 (.tmp 10) rfl G39 0 rfl (natsV .u64 la) _ (blk_all (C416.out)) Try.underlying24 rfl (i24 L_la.out) ?_) | (refine wpList_load_mid rfl 24 (.tmp 48) rfl G413 0 rfl (natsV .u64 iv) _ (blk_all (D414.out)) Try.underlying24 rfl (i24 L_iv.out) ?_))
  refine (Hc23.out _).mono ?_
  rintro e w419 ⟨rfl, hbw419⟩
  have C420 := Lib.hid (C415.out.gr hbw419)
  clear C415
  have C421 := Lib.hid (C416.out.gr hbw419)
  clear C416
  have C422 := Lib.hid (C417.out.gr hbw419)
  clear C417
  have C423 := Lib.hid (D414.out.gr hbw419)
  clear D414
  have hbel424 := hbel418.trans (Below.mono hbw419 hbel418.size)
  clear hbel418
  clear hbw419
  clear C423
  have hE := HE.out
  have hD := HD.out.1
  have hD2 := HD.out.2
  go_wp2_with (first | (refine stB rfl 24 (.tmp 50) (.tmp 259) rfl w419.heap.size rfl (natsV .u64 un) rfl 24 (natsV .u64 (zeros 4)) (Blk.new w419 24 (natsV .u64 (zeros 4))) (i24 L_un.out) (lenEq (show (natsV .u64 (zeros 4)).length = 4 from rfl) (by rw [natsV_length, L_un.out])) (natsV_one _ _) ?_; generalize hW : World.setRow _ _ _ = w425; obtain ⟨hgw425, hnw425⟩ := newfacts hW; clear hW; have C428 := Lib.hid (C420.out.gr hgw425); clear C420; have C429 := Lib.hid (C421.out.gr hgw425); clear C421; have C430 := Lib.hid (C422.out.gr hgw425); clear C422; have hbel431 := hbel424.trans (Below.mono hgw425 hbel424.size); clear hbel424; have D427 := Lib.hid hnw425; have szw425 := hgw425.size; clear hnw425 hgw425 szw425; generalize w419.heap.size = G426 at *; have m0_w425 : w425.cell? ⟨G26, 0, none⟩ = some (.int .u64 (d0 : Nat)) := C428.out.cell 0; have m1_w425 : w425.cell? ⟨G26, 1, none⟩ = some (.int .u64 (d1 : Nat)) := C428.out.cell 1; have m2_w425 : w425.cell? ⟨G26, 2, none⟩ = some (.int .u64 (d2 : Nat)) := C428.out.cell 2; have m3_w425 : w425.cell? ⟨G26, 3, none⟩ = some (.int .u64 (d3 : Nat)) := C428.out.cell 3) | (refine wpList_load_mid rfl 24 (.tmp 10) rfl G39 0 rfl (natsV .u64 la) _ (blk_all (C429.out)) Try.underlying24 rfl (i24 L_la.out) ?_))
  refine (Hc24.out _).mono ?_
  rintro e w432 ⟨rfl, hbw432⟩
  have C433 := Lib.hid (C428.out.gr hbw432)
  clear C428
  have C434 := Lib.hid (C429.out.gr hbw432)
  clear C429
  have C435 := Lib.hid (C430.out.gr hbw432)
  clear C430
  have C436 := Lib.hid (D427.out.gr hbw432)
  clear D427
  have hbel437 := hbel431.trans (Below.mono hbw432 hbel431.size)
  clear hbel431
  clear hbw432
  clear hE hD hD2
  as_aux_lemma =>
  have q_un := Q_un.out
  go_wp2_with (first | (refine stB rfl 24 (.tmp 52) (.tmp 275) rfl w432.heap.size rfl (natsV .u64 un) rfl 24 (natsV .u64 (zeros 4)) (Blk.new w432 24 (natsV .u64 (zeros 4))) (i24 L_un.out) (lenEq (show (natsV .u64 (zeros 4)).length = 4 from rfl) (by rw [natsV_length, L_un.out])) (natsV_one _ _) ?_; generalize hW : World.setRow _ _ _ = w438; obtain ⟨hgw438, hnw438⟩ := newfacts hW; clear hW; have C441 := Lib.hid (C433.out.gr hgw438); clear C433; have C442 := Lib.hid (C434.out.gr hgw438); clear C434; have C443 := Lib.hid (C435.out.gr hgw438); clear C435; have C444 := Lib.hid (C436.out.gr hgw438); clear C436; have hbel445 := hbel437.trans (Below.mono hgw438 hbel437.size); clear hbel437; have D440 := Lib.hid hnw438; have szw438 := hgw438.size; clear hnw438 hgw438 szw438; generalize w432.heap.size = G439 at *) | (refine ldwM 24 (.tmp 50) rfl G426 0 rfl (natsV .u64 un) _ (blk_all (C444.out)) Try.underlying24 rfl (i24 L_un.out) 11 true rfl 288 rfl rfl ?_) | (refine ldwM 24 (.tmp 43) rfl G381 0 rfl (natsV .u64 un) _ (blk_all (C443.out)) Try.underlying24 rfl (i24 L_un.out) 11 true rfl 288 rfl rfl ?_) | (refine ldwM 24 (.tmp 52) rfl G439 0 rfl (natsV .u64 un) _ (blk_all (D440.out)) Try.underlying24 rfl (i24 L_un.out) 16 true rfl 293 rfl rfl ?_) | (refine ldwM 24 (.tmp 43) rfl G381 0 rfl (natsV .u64 un) _ (blk_all (C443.out)) Try.underlying24 rfl (i24 L_un.out) 16 true rfl 293 rfl rfl ?_))
  go_ret
  exact ⟨rfl, hbel445⟩
end Go.Proofs.Ytfffmoolkgheaaa
