/- Parts of proofs of statements, each text behind those that it stands on. No condition of its own. -/
import Derived.Test.YtfffmoolkgheaaaZ29
namespace Go.Proofs.Ytfffmoolkgheaaa
open Go.RowKit
set_option linter.unusedVariables false
set_option linter.unusedSimpArgs false
set_option maxRecDepth 100000 in
set_option maxHeartbeats 6400000 in
theorem group_w {la lb lc gx gy px py qx qy rx ry mx my sx sy tx ty ux uy ln ra rb rc : List Nat} {ip iq ir im is_ it iu : Bool} (hla : la.length = 4) (hlb : lb.length = 4) (hlc : lc.length = 4) (hgx : gx.length = 4) (hgy : gy.length = 4) (hpx : px.length = 4) (hpy : py.length = 4) (hqx : qx.length = 4) (hqy : qy.length = 4) (hrx : rx.length = 4) (hry : ry.length = 4) (hmx : mx.length = 4) (hmy : my.length = 4) (hsx : sx.length = 4) (hsy : sy.length = 4) (htx : tx.length = 4) (hty : ty.length = 4) (hux : ux.length = 4) (huy : uy.length = 4) (hln : ln.length = 4) (hra : ra.length = 4) (hrb : rb.length = 4) (hrc : rc.length = 4)
    (c1 : ∀ w, Calls Try.prog 24 #[] w fun e w' => e = .returned (.bool true) ∧ Below w.heap.size w w')
    (c2 : ∀ w, Calls Try.prog 30 #[] w fun e w' => e = .returned (.agg (pv gx gy false).toArray) ∧ Below w.heap.size w w')
    (c3 : ∀ w, Calls Try.prog 40 #[.agg (natsV .u64 la).toArray, .agg (pv gx gy false).toArray] w fun e w' => e = .returned (.tuple #[.agg (pv px py ip).toArray, .int .i64 0]) ∧ Below w.heap.size w w')
    (c4 : ∀ w, Calls Try.prog 40 #[.agg (natsV .u64 lb).toArray, .agg (pv gx gy false).toArray] w fun e w' => e = .returned (.tuple #[.agg (pv qx qy iq).toArray, .int .i64 0]) ∧ Below w.heap.size w w')
    (c5 : ∀ w, Calls Try.prog 40 #[.agg (natsV .u64 lc).toArray, .agg (pv gx gy false).toArray] w fun e w' => e = .returned (.tuple #[.agg (pv rx ry ir).toArray, .int .i64 0]) ∧ Below w.heap.size w w')
    (c6 : ∀ w, Calls Try.prog 38 #[.agg (pv px py ip).toArray, .agg (pv qx qy iq).toArray] w fun e w' => e = .returned (.tuple #[.agg (pv sx sy is_).toArray, .int .i64 0]) ∧ Below w.heap.size w w')
    (c7 : ∀ w, Calls Try.prog 38 #[.agg (pv qx qy iq).toArray, .agg (pv px py ip).toArray] w fun e w' => e = .returned (.tuple #[.agg (pv sx sy is_).toArray, .int .i64 0]) ∧ Below w.heap.size w w')
    (c8 : ∀ w, Calls Try.prog 38 #[.agg (pv qx qy iq).toArray, .agg (pv rx ry ir).toArray] w fun e w' => e = .returned (.tuple #[.agg (pv tx ty it).toArray, .int .i64 0]) ∧ Below w.heap.size w w')
    (c9 : ∀ w, Calls Try.prog 38 #[.agg (pv sx sy is_).toArray, .agg (pv rx ry ir).toArray] w fun e w' => e = .returned (.tuple #[.agg (pv ux uy iu).toArray, .int .i64 0]) ∧ Below w.heap.size w w')
    (c10 : ∀ w, Calls Try.prog 38 #[.agg (pv px py ip).toArray, .agg (pv tx ty it).toArray] w fun e w' => e = .returned (.tuple #[.agg (pv ux uy iu).toArray, .int .i64 0]) ∧ Below w.heap.size w w')
    (c11 : ∀ w, Calls Try.prog 28 #[.agg (pv px py ip).toArray] w fun e w' => e = .returned (.tuple #[.agg (pv mx my im).toArray, .int .i64 0]) ∧ Below w.heap.size w w')
    (c12 : ∀ w, Calls Try.prog 38 #[.agg (pv px py ip).toArray, .agg (pv mx my im).toArray] w fun e w' => e = .returned (.tuple #[.agg (pv (zeros 4) (zeros 4) true).toArray, .int .i64 0]) ∧ Below w.heap.size w w')
    (c13 : ∀ w, Calls Try.prog 43 #[] w fun e w' => e = .returned (.agg (pv (zeros 4) (zeros 4) true).toArray) ∧ Below w.heap.size w w')
    (c14 : ∀ w, Calls Try.prog 38 #[.agg (pv px py ip).toArray, .agg (pv (zeros 4) (zeros 4) true).toArray] w fun e w' => e = .returned (.tuple #[.agg (pv px py ip).toArray, .int .i64 0]) ∧ Below w.heap.size w w')
    (c15 : ∀ w, Calls Try.prog 44 #[] w fun e w' => e = .returned (.agg (natsV .u64 ln).toArray) ∧ Below w.heap.size w w')
    (c16 : ∀ w, Calls Try.prog 40 #[.agg (natsV .u64 ln).toArray, .agg (pv px py ip).toArray] w fun e w' => e = .returned (.tuple #[.agg (pv (zeros 4) (zeros 4) true).toArray, .int .i64 0]) ∧ Below w.heap.size w w')
    (c17 : ∀ w, Calls Try.prog 45 #[.agg (natsV .u64 la).toArray, .bool false, .agg (natsV .u64 ln).toArray] w fun e w' => e = .returned (.agg (natsV .u64 ra).toArray) ∧ Below w.heap.size w w')
    (c18 : ∀ w, Calls Try.prog 45 #[.agg (natsV .u64 lb).toArray, .bool false, .agg (natsV .u64 ln).toArray] w fun e w' => e = .returned (.agg (natsV .u64 rb).toArray) ∧ Below w.heap.size w w')
    (c19 : ∀ w, Calls Try.prog 46 #[.agg (natsV .u64 ra).toArray, .agg (natsV .u64 rb).toArray, .agg (natsV .u64 ln).toArray] w fun e w' => e = .returned (.agg (natsV .u64 rc).toArray) ∧ Below w.heap.size w w')
    (c20 : ∀ w, Calls Try.prog 40 #[.agg (natsV .u64 rc).toArray, .agg (pv gx gy false).toArray] w fun e w' => e = .returned (.tuple #[.agg (pv sx sy is_).toArray, .int .i64 0]) ∧ Below w.heap.size w w')
    (c21 : ∀ w, Calls Try.prog 41 #[.agg (natsV .u64 la).toArray, .agg (pv gx gy false).toArray, .agg (natsV .u64 lb).toArray, .agg (pv gx gy false).toArray] w fun e w' => e = .returned (.tuple #[.agg (pv sx sy is_).toArray, .int .i64 0]) ∧ Below w.heap.size w w')
    (c22 : ∀ w, Calls Try.prog 29 #[.agg (pv px py ip).toArray] w fun e w' => e = .returned (.bool true) ∧ Below w.heap.size w w')
    (c23 : ∀ w, Calls Try.prog 29 #[.agg (pv sx sy is_).toArray] w fun e w' => e = .returned (.bool true) ∧ Below w.heap.size w w')
    (c24 : ∀ w, Calls Try.prog 29 #[.agg (pv ux uy iu).toArray] w fun e w' => e = .returned (.bool true) ∧ Below w.heap.size w w') (w : World) :
    Calls Try.prog 9 #[.agg (tv la lb lc).toArray] w fun e w' => e = .returned (.bool true) ∧ Below w.heap.size w w' := by
  have L_la := Lib.hid hla
  clear hla
  have L_lb := Lib.hid hlb
  clear hlb
  have L_lc := Lib.hid hlc
  clear hlc
  have L_gx := Lib.hid hgx
  clear hgx
  have L_gy := Lib.hid hgy
  clear hgy
  have L_px := Lib.hid hpx
  clear hpx
  have L_py := Lib.hid hpy
  clear hpy
  have L_qx := Lib.hid hqx
  clear hqx
  have L_qy := Lib.hid hqy
  clear hqy
  have L_rx := Lib.hid hrx
  clear hrx
  have L_ry := Lib.hid hry
  clear hry
  have L_mx := Lib.hid hmx
  clear hmx
  have L_my := Lib.hid hmy
  clear hmy
  have L_sx := Lib.hid hsx
  clear hsx
  have L_sy := Lib.hid hsy
  clear hsy
  have L_tx := Lib.hid htx
  clear htx
  have L_ty := Lib.hid hty
  clear hty
  have L_ux := Lib.hid hux
  clear hux
  have L_uy := Lib.hid huy
  clear huy
  have L_ln := Lib.hid hln
  clear hln
  have L_ra := Lib.hid hra
  clear hra
  have L_rb := Lib.hid hrb
  clear hrb
  have L_rc := Lib.hid hrc
  clear hrc
  have Hc1 := Lib.hid c1
  clear c1
  have Hc2 := Lib.hid c2
  clear c2
  have Hc3 := Lib.hid c3
  clear c3
  have Hc4 := Lib.hid c4
  clear c4
  have Hc5 := Lib.hid c5
  clear c5
  have Hc6 := Lib.hid c6
  clear c6
  have Hc7 := Lib.hid c7
  clear c7
  have Hc8 := Lib.hid c8
  clear c8
  have Hc9 := Lib.hid c9
  clear c9
  have Hc10 := Lib.hid c10
  clear c10
  have Hc11 := Lib.hid c11
  clear c11
  have Hc12 := Lib.hid c12
  clear c12
  have Hc13 := Lib.hid c13
  clear c13
  have Hc14 := Lib.hid c14
  clear c14
  have Hc15 := Lib.hid c15
  clear c15
  have Hc16 := Lib.hid c16
  clear c16
  have Hc17 := Lib.hid c17
  clear c17
  have Hc18 := Lib.hid c18
  clear c18
  have Hc19 := Lib.hid c19
  clear c19
  have Hc20 := Lib.hid c20
  clear c20
  have Hc21 := Lib.hid c21
  clear c21
  have Hc22 := Lib.hid c22
  clear c22
  have Hc23 := Lib.hid c23
  clear c23
  have Hc24 := Lib.hid c24
  clear c24
  have QS := Lib.hid (fun w => (eql43 sx sy sx sy is_ is_ L_sx.out L_sy.out L_sx.out L_sy.out w).trans (by rw [decide_eq_true ⟨rfl, rfl, rfl⟩]))
  have QU := Lib.hid (fun w => (eql43 ux uy ux uy iu iu L_ux.out L_uy.out L_ux.out L_uy.out w).trans (by rw [decide_eq_true ⟨rfl, rfl, rfl⟩]))
  have QP := Lib.hid (fun w => (eql43 px py px py ip ip L_px.out L_py.out L_px.out L_py.out w).trans (by rw [decide_eq_true ⟨rfl, rfl, rfl⟩]))
  have QI := Lib.hid (fun w => (eql43 (zeros 4) (zeros 4) (zeros 4) (zeros 4) true true rfl rfl rfl rfl w).trans (by rw [decide_eq_true ⟨rfl, rfl, rfl⟩]))
  have B0_ := Lib.hid (Blk.new w  64 (tv la lb lc))
  have bel_ := ((Below.refl w.heap.size w).alloc (Nat.le_refl _) (.cells (tv la lb lc).toArray 64))
  go_enter Try.func9, Try.ntmps9
  go_wp2_with fail
  refine (Hc1.out _).mono ?_
  rintro e w1 ⟨rfl, hbw1⟩
  have C2 := Lib.hid (B0_.out.gr hbw1)
  clear B0_
  have hbel3 := bel_.trans (Below.mono hbw1 bel_.size)
  clear bel_
  clear hbw1
  go_wp2_with fail
  refine (Hc2.out _).mono ?_
  rintro e w4 ⟨rfl, hbw4⟩
  have C5 := Lib.hid (C2.out.gr hbw4)
  clear C2
  have hbel6 := hbel3.trans (Below.mono hbw4 hbel3.size)
  clear hbel3
  clear hbw4
  go_wp2_with (first | (refine stB rfl 43 (.tmp 4) (.tmp 38) rfl w4.heap.size rfl (pv gx gy false) rfl 43 (pv (zeros 4) (zeros 4) false) (Blk.new w4 43 (pv (zeros 4) (zeros 4) false)) (i43 L_gx.out L_gy.out) (lenEq (show (pv (zeros 4) (zeros 4) false).length = 9 from rfl) (pv_len L_gx.out L_gy.out)) (pv_one _ _ _) ?_; generalize hW : World.setRow _ _ _ = w7; obtain ⟨hgw7, hnw7⟩ := newfacts hW; clear hW; have C10 := Lib.hid (C5.out.gr hgw7); clear C5; have hbel11 := hbel6.trans (Below.mono hgw7 hbel6.size); clear hbel6; have D9 := Lib.hid hnw7; have szw7 := hgw7.size; clear hnw7 hgw7 szw7; generalize w4.heap.size = G8 at *) | (refine wpList_load_mid rfl 24 (.tmp 40) rfl w.heap.size 0 rfl (natsV .u64 la) _ (tv_x (C10.out)) Try.underlying24 rfl (i24 L_la.out) ?_) | (refine wpList_load_mid rfl 43 (.tmp 4) rfl G8 0 rfl (pv gx gy false) _ (blk_all (D9.out)) Try.underlying43 rfl (i43 L_gx.out L_gy.out) ?_))
  refine (Hc3.out _).mono ?_
  rintro e w12 ⟨rfl, hbw12⟩
  have C13 := Lib.hid (C10.out.gr hbw12)
  clear C10
  have C14 := Lib.hid (D9.out.gr hbw12)
  clear D9
  have hbel15 := hbel11.trans (Below.mono hbw12 hbel11.size)
  clear hbel11
  clear hbw12
  go_wp2_with (first | (refine stB rfl 43 (.tmp 5) (.tmp 44) rfl w12.heap.size rfl (pv px py ip) rfl 43 (pv (zeros 4) (zeros 4) false) (Blk.new w12 43 (pv (zeros 4) (zeros 4) false)) (i43 L_px.out L_py.out) (lenEq (show (pv (zeros 4) (zeros 4) false).length = 9 from rfl) (pv_len L_px.out L_py.out)) (pv_one _ _ _) ?_; generalize hW : World.setRow _ _ _ = w16; obtain ⟨hgw16, hnw16⟩ := newfacts hW; clear hW; have C19 := Lib.hid (C13.out.gr hgw16); clear C13; have C20 := Lib.hid (C14.out.gr hgw16); clear C14; have hbel21 := hbel15.trans (Below.mono hgw16 hbel15.size); clear hbel15; have D18 := Lib.hid hnw16; have szw16 := hgw16.size; clear hnw16 hgw16 szw16; generalize w12.heap.size = G17 at *) | (refine wpList_load_mid rfl 24 (.tmp 47) rfl w.heap.size 4 rfl (natsV .u64 lb) _ (tv_y (C19.out) L_la.out) Try.underlying24 rfl (i24 L_lb.out) ?_) | (refine wpList_load_mid rfl 43 (.tmp 4) rfl G8 0 rfl (pv gx gy false) _ (blk_all (C20.out)) Try.underlying43 rfl (i43 L_gx.out L_gy.out) ?_))
  refine (Hc4.out _).mono ?_
  rintro e w22 ⟨rfl, hbw22⟩
  have C23 := Lib.hid (C19.out.gr hbw22)
  clear C19
  have C24 := Lib.hid (C20.out.gr hbw22)
  clear C20
  have C25 := Lib.hid (D18.out.gr hbw22)
  clear D18
  have hbel26 := hbel21.trans (Below.mono hbw22 hbel21.size)
  clear hbel21
  clear hbw22
  go_wp2_with (first | (refine stB rfl 43 (.tmp 7) (.tmp 51) rfl w22.heap.size rfl (pv qx qy iq) rfl 43 (pv (zeros 4) (zeros 4) false) (Blk.new w22 43 (pv (zeros 4) (zeros 4) false)) (i43 L_qx.out L_qy.out) (lenEq (show (pv (zeros 4) (zeros 4) false).length = 9 from rfl) (pv_len L_qx.out L_qy.out)) (pv_one _ _ _) ?_; generalize hW : World.setRow _ _ _ = w27; obtain ⟨hgw27, hnw27⟩ := newfacts hW; clear hW; have C30 := Lib.hid (C23.out.gr hgw27); clear C23; have C31 := Lib.hid (C24.out.gr hgw27); clear C24; have C32 := Lib.hid (C25.out.gr hgw27); clear C25; have hbel33 := hbel26.trans (Below.mono hgw27 hbel26.size); clear hbel26; have D29 := Lib.hid hnw27; have szw27 := hgw27.size; clear hnw27 hgw27 szw27; generalize w22.heap.size = G28 at *) | (refine wpList_load_mid rfl 24 (.tmp 54) rfl w.heap.size 8 rfl (natsV .u64 lc) _ (tv_z (C30.out) L_la.out L_lb.out) Try.underlying24 rfl (i24 L_lc.out) ?_) | (refine wpList_load_mid rfl 43 (.tmp 4) rfl G8 0 rfl (pv gx gy false) _ (blk_all (C31.out)) Try.underlying43 rfl (i43 L_gx.out L_gy.out) ?_))
  refine (Hc5.out _).mono ?_
  rintro e w34 ⟨rfl, hbw34⟩
  have C35 := Lib.hid (C30.out.gr hbw34)
  clear C30
  have C36 := Lib.hid (C31.out.gr hbw34)
  clear C31
  have C37 := Lib.hid (C32.out.gr hbw34)
  clear C32
  have C38 := Lib.hid (D29.out.gr hbw34)
  clear D29
  have hbel39 := hbel33.trans (Below.mono hbw34 hbel33.size)
  clear hbel33
  clear hbw34
  go_wp2_with (first | (refine stB rfl 43 (.tmp 9) (.tmp 58) rfl w34.heap.size rfl (pv rx ry ir) rfl 43 (pv (zeros 4) (zeros 4) false) (Blk.new w34 43 (pv (zeros 4) (zeros 4) false)) (i43 L_rx.out L_ry.out) (lenEq (show (pv (zeros 4) (zeros 4) false).length = 9 from rfl) (pv_len L_rx.out L_ry.out)) (pv_one _ _ _) ?_; generalize hW : World.setRow _ _ _ = w40; obtain ⟨hgw40, hnw40⟩ := newfacts hW; clear hW; have C43 := Lib.hid (C35.out.gr hgw40); clear C35; have C44 := Lib.hid (C36.out.gr hgw40); clear C36; have C45 := Lib.hid (C37.out.gr hgw40); clear C37; have C46 := Lib.hid (C38.out.gr hgw40); clear C38; have hbel47 := hbel39.trans (Below.mono hgw40 hbel39.size); clear hbel39; have D42 := Lib.hid hnw40; have szw40 := hgw40.size; clear hnw40 hgw40 szw40; generalize w34.heap.size = G41 at *) | (refine wpList_load_mid rfl 43 (.tmp 5) rfl G17 0 rfl (pv px py ip) _ (blk_all (C45.out)) Try.underlying43 rfl (i43 L_px.out L_py.out) ?_) | (refine wpList_load_mid rfl 43 (.tmp 7) rfl G28 0 rfl (pv qx qy iq) _ (blk_all (C46.out)) Try.underlying43 rfl (i43 L_qx.out L_qy.out) ?_))
  refine (Hc6.out _).mono ?_
  rintro e w48 ⟨rfl, hbw48⟩
  have C49 := Lib.hid (C43.out.gr hbw48)
  clear C43
  have C50 := Lib.hid (C44.out.gr hbw48)
  clear C44
  have C51 := Lib.hid (C45.out.gr hbw48)
  clear C45
  have C52 := Lib.hid (C46.out.gr hbw48)
  clear C46
  have C53 := Lib.hid (D42.out.gr hbw48)
  clear D42
  have hbel54 := hbel47.trans (Below.mono hbw48 hbel47.size)
  clear hbel47
  clear hbw48
  as_aux_lemma =>
  go_wp2_with (first | (refine stB rfl 43 (.tmp 11) (.tmp 78) rfl w48.heap.size rfl (pv sx sy is_) rfl 43 (pv (zeros 4) (zeros 4) false) (Blk.new w48 43 (pv (zeros 4) (zeros 4) false)) (i43 L_sx.out L_sy.out) (lenEq (show (pv (zeros 4) (zeros 4) false).length = 9 from rfl) (pv_len L_sx.out L_sy.out)) (pv_one _ _ _) ?_; generalize hW : World.setRow _ _ _ = w55; obtain ⟨hgw55, hnw55⟩ := newfacts hW; clear hW; have C58 := Lib.hid (C49.out.gr hgw55); clear C49; have C59 := Lib.hid (C50.out.gr hgw55); clear C50; have C60 := Lib.hid (C51.out.gr hgw55); clear C51; have C61 := Lib.hid (C52.out.gr hgw55); clear C52; have C62 := Lib.hid (C53.out.gr hgw55); clear C53; have hbel63 := hbel54.trans (Below.mono hgw55 hbel54.size); clear hbel54; have D57 := Lib.hid hnw55; have szw55 := hgw55.size; clear hnw55 hgw55 szw55; generalize w48.heap.size = G56 at *) | (refine wpList_load_mid rfl 43 (.tmp 7) rfl G28 0 rfl (pv qx qy iq) _ (blk_all (C61.out)) Try.underlying43 rfl (i43 L_qx.out L_qy.out) ?_) | (refine wpList_load_mid rfl 43 (.tmp 5) rfl G17 0 rfl (pv px py ip) _ (blk_all (C60.out)) Try.underlying43 rfl (i43 L_px.out L_py.out) ?_))
  refine (Hc7.out _).mono ?_
  rintro e w64 ⟨rfl, hbw64⟩
  have C65 := Lib.hid (C58.out.gr hbw64)
  clear C58
  have C66 := Lib.hid (C59.out.gr hbw64)
  clear C59
  have C67 := Lib.hid (C60.out.gr hbw64)
  clear C60
  have C68 := Lib.hid (C61.out.gr hbw64)
  clear C61
  have C69 := Lib.hid (C62.out.gr hbw64)
  clear C62
  have C70 := Lib.hid (D57.out.gr hbw64)
  clear D57
  have hbel71 := hbel63.trans (Below.mono hbw64 hbel63.size)
  clear hbel63
  clear hbw64
  go_wp2_with (first | (refine stB rfl 43 (.tmp 13) (.tmp 84) rfl w64.heap.size rfl (pv sx sy is_) rfl 43 (pv (zeros 4) (zeros 4) false) (Blk.new w64 43 (pv (zeros 4) (zeros 4) false)) (i43 L_sx.out L_sy.out) (lenEq (show (pv (zeros 4) (zeros 4) false).length = 9 from rfl) (pv_len L_sx.out L_sy.out)) (pv_one _ _ _) ?_; generalize hW : World.setRow _ _ _ = w72; obtain ⟨hgw72, hnw72⟩ := newfacts hW; clear hW; have C75 := Lib.hid (C65.out.gr hgw72); clear C65; have C76 := Lib.hid (C66.out.gr hgw72); clear C66; have C77 := Lib.hid (C67.out.gr hgw72); clear C67; have C78 := Lib.hid (C68.out.gr hgw72); clear C68; have C79 := Lib.hid (C69.out.gr hgw72); clear C69; have C80 := Lib.hid (C70.out.gr hgw72); clear C70; have hbel81 := hbel71.trans (Below.mono hgw72 hbel71.size); clear hbel71; have D74 := Lib.hid hnw72; have szw72 := hgw72.size; clear hnw72 hgw72 szw72; generalize w64.heap.size = G73 at *) | (refine wpList_load_mid rfl 43 (.tmp 7) rfl G28 0 rfl (pv qx qy iq) _ (blk_all (C78.out)) Try.underlying43 rfl (i43 L_qx.out L_qy.out) ?_) | (refine wpList_load_mid rfl 43 (.tmp 9) rfl G41 0 rfl (pv rx ry ir) _ (blk_all (C79.out)) Try.underlying43 rfl (i43 L_rx.out L_ry.out) ?_))
  refine (Hc8.out _).mono ?_
  rintro e w82 ⟨rfl, hbw82⟩
  have C83 := Lib.hid (C75.out.gr hbw82)
  clear C75
  have C84 := Lib.hid (C76.out.gr hbw82)
  clear C76
  have C85 := Lib.hid (C77.out.gr hbw82)
  clear C77
  have C86 := Lib.hid (C78.out.gr hbw82)
  clear C78
  have C87 := Lib.hid (C79.out.gr hbw82)
  clear C79
  have C88 := Lib.hid (C80.out.gr hbw82)
  clear C80
  have C89 := Lib.hid (D74.out.gr hbw82)
  clear D74
  have hbel90 := hbel81.trans (Below.mono hbw82 hbel81.size)
  clear hbel81
  clear hbw82
  go_wp2_with (first | (refine stB rfl 43 (.tmp 15) (.tmp 90) rfl w82.heap.size rfl (pv tx ty it) rfl 43 (pv (zeros 4) (zeros 4) false) (Blk.new w82 43 (pv (zeros 4) (zeros 4) false)) (i43 L_tx.out L_ty.out) (lenEq (show (pv (zeros 4) (zeros 4) false).length = 9 from rfl) (pv_len L_tx.out L_ty.out)) (pv_one _ _ _) ?_; generalize hW : World.setRow _ _ _ = w91; obtain ⟨hgw91, hnw91⟩ := newfacts hW; clear hW; have C94 := Lib.hid (C83.out.gr hgw91); clear C83; have C95 := Lib.hid (C84.out.gr hgw91); clear C84; have C96 := Lib.hid (C85.out.gr hgw91); clear C85; have C97 := Lib.hid (C86.out.gr hgw91); clear C86; have C98 := Lib.hid (C87.out.gr hgw91); clear C87; have C99 := Lib.hid (C88.out.gr hgw91); clear C88; have C100 := Lib.hid (C89.out.gr hgw91); clear C89; have hbel101 := hbel90.trans (Below.mono hgw91 hbel90.size); clear hbel90; have D93 := Lib.hid hnw91; have szw91 := hgw91.size; clear hnw91 hgw91 szw91; generalize w82.heap.size = G92 at *) | (refine wpList_load_mid rfl 43 (.tmp 11) rfl G56 0 rfl (pv sx sy is_) _ (blk_all (C99.out)) Try.underlying43 rfl (i43 L_sx.out L_sy.out) ?_) | (refine wpList_load_mid rfl 43 (.tmp 9) rfl G41 0 rfl (pv rx ry ir) _ (blk_all (C98.out)) Try.underlying43 rfl (i43 L_rx.out L_ry.out) ?_))
  refine (Hc9.out _).mono ?_
  rintro e w102 ⟨rfl, hbw102⟩
  have C103 := Lib.hid (C94.out.gr hbw102)
  clear C94
  have C104 := Lib.hid (C95.out.gr hbw102)
  clear C95
  have C105 := Lib.hid (C96.out.gr hbw102)
  clear C96
  have C106 := Lib.hid (C97.out.gr hbw102)
  clear C97
  have C107 := Lib.hid (C98.out.gr hbw102)
  clear C98
  have C108 := Lib.hid (C99.out.gr hbw102)
  clear C99
  have C109 := Lib.hid (C100.out.gr hbw102)
  clear C100
  have C110 := Lib.hid (D93.out.gr hbw102)
  clear D93
  have hbel111 := hbel101.trans (Below.mono hbw102 hbel101.size)
  clear hbel101
  clear hbw102
  as_aux_lemma =>
  go_wp2_with (first | (refine stB rfl 43 (.tmp 17) (.tmp 96) rfl w102.heap.size rfl (pv ux uy iu) rfl 43 (pv (zeros 4) (zeros 4) false) (Blk.new w102 43 (pv (zeros 4) (zeros 4) false)) (i43 L_ux.out L_uy.out) (lenEq (show (pv (zeros 4) (zeros 4) false).length = 9 from rfl) (pv_len L_ux.out L_uy.out)) (pv_one _ _ _) ?_; generalize hW : World.setRow _ _ _ = w112; obtain ⟨hgw112, hnw112⟩ := newfacts hW; clear hW; have C115 := Lib.hid (C103.out.gr hgw112); clear C103; have C116 := Lib.hid (C104.out.gr hgw112); clear C104; have C117 := Lib.hid (C105.out.gr hgw112); clear C105; have C118 := Lib.hid (C106.out.gr hgw112); clear C106; have C119 := Lib.hid (C107.out.gr hgw112); clear C107; have C120 := Lib.hid (C108.out.gr hgw112); clear C108; have C121 := Lib.hid (C109.out.gr hgw112); clear C109; have C122 := Lib.hid (C110.out.gr hgw112); clear C110; have hbel123 := hbel111.trans (Below.mono hgw112 hbel111.size); clear hbel111; have D114 := Lib.hid hnw112; have szw112 := hgw112.size; clear hnw112 hgw112 szw112; generalize w102.heap.size = G113 at *) | (refine wpList_load_mid rfl 43 (.tmp 5) rfl G17 0 rfl (pv px py ip) _ (blk_all (C117.out)) Try.underlying43 rfl (i43 L_px.out L_py.out) ?_) | (refine wpList_load_mid rfl 43 (.tmp 15) rfl G92 0 rfl (pv tx ty it) _ (blk_all (C122.out)) Try.underlying43 rfl (i43 L_tx.out L_ty.out) ?_))
  refine (Hc10.out _).mono ?_
  rintro e w124 ⟨rfl, hbw124⟩
  have C125 := Lib.hid (C115.out.gr hbw124)
  clear C115
  have C126 := Lib.hid (C116.out.gr hbw124)
  clear C116
  have C127 := Lib.hid (C117.out.gr hbw124)
  clear C117
  have C128 := Lib.hid (C118.out.gr hbw124)
  clear C118
  have C129 := Lib.hid (C119.out.gr hbw124)
  clear C119
  have C130 := Lib.hid (C120.out.gr hbw124)
  clear C120
  have C131 := Lib.hid (C121.out.gr hbw124)
  clear C121
  have C132 := Lib.hid (C122.out.gr hbw124)
  clear C122
  have C133 := Lib.hid (D114.out.gr hbw124)
  clear D114
  have hbel134 := hbel123.trans (Below.mono hbw124 hbel123.size)
  clear hbel123
  clear hbw124
  go_wp2_with (first | (refine stB rfl 43 (.tmp 19) (.tmp 102) rfl w124.heap.size rfl (pv ux uy iu) rfl 43 (pv (zeros 4) (zeros 4) false) (Blk.new w124 43 (pv (zeros 4) (zeros 4) false)) (i43 L_ux.out L_uy.out) (lenEq (show (pv (zeros 4) (zeros 4) false).length = 9 from rfl) (pv_len L_ux.out L_uy.out)) (pv_one _ _ _) ?_; generalize hW : World.setRow _ _ _ = w135; obtain ⟨hgw135, hnw135⟩ := newfacts hW; clear hW; have C138 := Lib.hid (C125.out.gr hgw135); clear C125; have C139 := Lib.hid (C126.out.gr hgw135); clear C126; have C140 := Lib.hid (C127.out.gr hgw135); clear C127; have C141 := Lib.hid (C128.out.gr hgw135); clear C128; have C142 := Lib.hid (C129.out.gr hgw135); clear C129; have C143 := Lib.hid (C130.out.gr hgw135); clear C130; have C144 := Lib.hid (C131.out.gr hgw135); clear C131; have C145 := Lib.hid (C132.out.gr hgw135); clear C132; have C146 := Lib.hid (C133.out.gr hgw135); clear C133; have hbel147 := hbel134.trans (Below.mono hgw135 hbel134.size); clear hbel134; have D137 := Lib.hid hnw135; have szw135 := hgw135.size; clear hnw135 hgw135 szw135; generalize w124.heap.size = G136 at *) | (refine wpList_load_mid rfl 43 (.tmp 5) rfl G17 0 rfl (pv px py ip) _ (blk_all (C140.out)) Try.underlying43 rfl (i43 L_px.out L_py.out) ?_))
  refine (Hc11.out _).mono ?_
  rintro e w148 ⟨rfl, hbw148⟩
  have C149 := Lib.hid (C138.out.gr hbw148)
  clear C138
  have C150 := Lib.hid (C139.out.gr hbw148)
  clear C139
  have C151 := Lib.hid (C140.out.gr hbw148)
  clear C140
  have C152 := Lib.hid (C141.out.gr hbw148)
  clear C141
  have C153 := Lib.hid (C142.out.gr hbw148)
  clear C142
  have C154 := Lib.hid (C143.out.gr hbw148)
  clear C143
  have C155 := Lib.hid (C144.out.gr hbw148)
  clear C144
  have C156 := Lib.hid (C145.out.gr hbw148)
  clear C145
  have C157 := Lib.hid (C146.out.gr hbw148)
  clear C146
  have C158 := Lib.hid (D137.out.gr hbw148)
  clear D137
  have hbel159 := hbel147.trans (Below.mono hbw148 hbel147.size)
  clear hbel147
  clear hbw148
  go_wp2_with (first | (refine stB rfl 43 (.tmp 21) (.tmp 107) rfl w148.heap.size rfl (pv mx my im) rfl 43 (pv (zeros 4) (zeros 4) false) (Blk.new w148 43 (pv (zeros 4) (zeros 4) false)) (i43 L_mx.out L_my.out) (lenEq (show (pv (zeros 4) (zeros 4) false).length = 9 from rfl) (pv_len L_mx.out L_my.out)) (pv_one _ _ _) ?_; generalize hW : World.setRow _ _ _ = w160; obtain ⟨hgw160, hnw160⟩ := newfacts hW; clear hW; have C163 := Lib.hid (C149.out.gr hgw160); clear C149; have C164 := Lib.hid (C150.out.gr hgw160); clear C150; have C165 := Lib.hid (C151.out.gr hgw160); clear C151; have C166 := Lib.hid (C152.out.gr hgw160); clear C152; have C167 := Lib.hid (C153.out.gr hgw160); clear C153; have C168 := Lib.hid (C154.out.gr hgw160); clear C154; have C169 := Lib.hid (C155.out.gr hgw160); clear C155; have C170 := Lib.hid (C156.out.gr hgw160); clear C156; have C171 := Lib.hid (C157.out.gr hgw160); clear C157; have C172 := Lib.hid (C158.out.gr hgw160); clear C158; have hbel173 := hbel159.trans (Below.mono hgw160 hbel159.size); clear hbel159; have D162 := Lib.hid hnw160; have szw160 := hgw160.size; clear hnw160 hgw160 szw160; generalize w148.heap.size = G161 at *) | (refine wpList_load_mid rfl 43 (.tmp 5) rfl G17 0 rfl (pv px py ip) _ (blk_all (C165.out)) Try.underlying43 rfl (i43 L_px.out L_py.out) ?_) | (refine wpList_load_mid rfl 43 (.tmp 21) rfl G161 0 rfl (pv mx my im) _ (blk_all (D162.out)) Try.underlying43 rfl (i43 L_mx.out L_my.out) ?_))
  refine (Hc12.out _).mono ?_
  rintro e w174 ⟨rfl, hbw174⟩
  have C175 := Lib.hid (C163.out.gr hbw174)
  clear C163
  have C176 := Lib.hid (C164.out.gr hbw174)
  clear C164
  have C177 := Lib.hid (C165.out.gr hbw174)
  clear C165
  have C178 := Lib.hid (C166.out.gr hbw174)
  clear C166
  have C179 := Lib.hid (C167.out.gr hbw174)
  clear C167
  have C180 := Lib.hid (C168.out.gr hbw174)
  clear C168
  have C181 := Lib.hid (C169.out.gr hbw174)
  clear C169
  have C182 := Lib.hid (C170.out.gr hbw174)
  clear C170
  have C183 := Lib.hid (C171.out.gr hbw174)
  clear C171
  have C184 := Lib.hid (C172.out.gr hbw174)
  clear C172
  have C185 := Lib.hid (D162.out.gr hbw174)
  clear D162
  have hbel186 := hbel173.trans (Below.mono hbw174 hbel173.size)
  clear hbel173
  clear hbw174
  go_wp2_with (first | (refine stB rfl 43 (.tmp 23) (.tmp 113) rfl w174.heap.size rfl (pv (zeros 4) (zeros 4) true) rfl 43 (pv (zeros 4) (zeros 4) false) (Blk.new w174 43 (pv (zeros 4) (zeros 4) false)) (i43 rfl rfl) (lenEq (show (pv (zeros 4) (zeros 4) false).length = 9 from rfl) (show (pv (zeros 4) (zeros 4) true).length = 9 from rfl)) (pv_one _ _ _) ?_; generalize hW : World.setRow _ _ _ = w187; obtain ⟨hgw187, hnw187⟩ := newfacts hW; clear hW; have C190 := Lib.hid (C175.out.gr hgw187); clear C175; have C191 := Lib.hid (C176.out.gr hgw187); clear C176; have C192 := Lib.hid (C177.out.gr hgw187); clear C177; have C193 := Lib.hid (C178.out.gr hgw187); clear C178; have C194 := Lib.hid (C179.out.gr hgw187); clear C179; have C195 := Lib.hid (C180.out.gr hgw187); clear C180; have C196 := Lib.hid (C181.out.gr hgw187); clear C181; have C197 := Lib.hid (C182.out.gr hgw187); clear C182; have C198 := Lib.hid (C183.out.gr hgw187); clear C183; have C199 := Lib.hid (C184.out.gr hgw187); clear C184; have C200 := Lib.hid (C185.out.gr hgw187); clear C185; have hbel201 := hbel186.trans (Below.mono hgw187 hbel186.size); clear hbel186; have D189 := Lib.hid hnw187; have szw187 := hgw187.size; clear hnw187 hgw187 szw187; generalize w174.heap.size = G188 at *))
  as_aux_lemma =>
  refine wp_region_G (fun w_ => Blk w_ G17 43 (pv px py ip)) 9 (by kernel_rfl) C192.out.drew ?_
  refine wpAnyG_take (fun _ _ hS_ hb_ => hS_.gr hb_) (i := 0) rfl (by kernel_rfl) (fun _ _ _ h => h) (loadG (by rfl) _ _ rfl _ _ rfl (pv px py ip) _ (fun _ hS_ => blk_all (hS_)) Try.underlying43 rfl (i43 L_px.out L_py.out)) ?_
  try simp only [Act.put, zq1, zq2, zq3, zq4, zq5, zq6]
  refine wpAnyG_take (fun _ _ hS_ hb_ => hS_.gr hb_) (i := 1) rfl (by kernel_rfl) (fun _ _ _ h => h) (callG (by rfl) rfl Try.func43 (by kernel_rfl) (by kernel_rfl) (#[]) (by simp [Act.eval]) (fun w _ => Hc13.out w)) ?_
  try simp only [Act.put, zq1, zq2, zq3, zq4, zq5, zq6]
  refine wpAnyG_take (fun _ _ hS_ hb_ => hS_.gr hb_) (i := 2) rfl (by kernel_rfl) (fun _ _ _ h => h) (callG (by rfl) rfl Try.func38 (by kernel_rfl) (by kernel_rfl) (#[.agg (pv px py ip).toArray, .agg (pv (zeros 4) (zeros 4) true).toArray]) (by simp [Act.eval]) (fun w _ => Hc14.out w)) ?_
  try simp only [Act.put, zq1, zq2, zq3, zq4, zq5, zq6]
  refine wpAnyG_take (fun _ _ hS_ hb_ => hS_.gr hb_) (i := 3) rfl (by kernel_rfl) (fun _ _ _ h => h) (pureG (by rfl) (by intro w; go_simp; first | done | with_reducible rfl)) ?_
  try simp only [Act.put, zq1, zq2, zq3, zq4, zq5, zq6]
  refine wpAnyG_take (fun _ _ hS_ hb_ => hS_.gr hb_) (i := 4) rfl (by kernel_rfl) (fun _ _ _ h => h) (pureG (by rfl) (by intro w; go_simp; first | done | with_reducible rfl)) ?_
  try simp only [Act.put, zq1, zq2, zq3, zq4, zq5, zq6]
  refine wpAnyG_take (fun _ _ hS_ hb_ => hS_.gr hb_) (i := 5) rfl (by kernel_rfl) (fun _ _ _ h => h) (pureG (by rfl) (by intro w; go_simp; first | done | with_reducible rfl)) ?_
  try simp only [Act.put, zq1, zq2, zq3, zq4, zq5, zq6]
  refine wpAnyG_alloc (i := 6) (fun _ _ hS_ hb_ => hS_.gr hb_) (by kernel_rfl) rfl (allocG (by rfl) rfl _ alloc43) ?_
  intro w202 G203 hgw202 hz_ hn_
  try simp only [Act.put, zq1, zq2, zq3, zq4, zq5, zq6]
  have NG204 := Lib.hid (Nat.ne_of_lt (Nat.lt_of_lt_of_le C192.out.drew.lt hz_))
  have NE205 := Lib.hid (Nat.ne_of_lt (Nat.lt_of_lt_of_le C190.out.drew.lt hz_))
  have NE206 := Lib.hid (Nat.ne_of_lt (Nat.lt_of_lt_of_le C191.out.drew.lt hz_))
  have NE207 := Lib.hid (Nat.ne_of_lt (Nat.lt_of_lt_of_le C192.out.drew.lt hz_))
  have NE208 := Lib.hid (Nat.ne_of_lt (Nat.lt_of_lt_of_le C193.out.drew.lt hz_))
  have NE209 := Lib.hid (Nat.ne_of_lt (Nat.lt_of_lt_of_le C194.out.drew.lt hz_))
  have NE210 := Lib.hid (Nat.ne_of_lt (Nat.lt_of_lt_of_le C195.out.drew.lt hz_))
  have NE211 := Lib.hid (Nat.ne_of_lt (Nat.lt_of_lt_of_le C196.out.drew.lt hz_))
  have NE212 := Lib.hid (Nat.ne_of_lt (Nat.lt_of_lt_of_le C197.out.drew.lt hz_))
  have NE213 := Lib.hid (Nat.ne_of_lt (Nat.lt_of_lt_of_le C198.out.drew.lt hz_))
  have NE214 := Lib.hid (Nat.ne_of_lt (Nat.lt_of_lt_of_le C199.out.drew.lt hz_))
  have NE215 := Lib.hid (Nat.ne_of_lt (Nat.lt_of_lt_of_le C200.out.drew.lt hz_))
  have NE216 := Lib.hid (Nat.ne_of_lt (Nat.lt_of_lt_of_le D189.out.drew.lt hz_))
  have GE217 := Lib.hid (Nat.le_trans hbel201.drew.size hz_)
  have E218 := Lib.hid (C190.out.drew.gr hgw202)
  clear C190
  have E219 := Lib.hid (C191.out.drew.gr hgw202)
  clear C191
  have E220 := Lib.hid (C192.out.drew.gr hgw202)
  clear C192
  have E221 := Lib.hid (C193.out.drew.gr hgw202)
  clear C193
  have E222 := Lib.hid (C194.out.drew.gr hgw202)
  clear C194
  have E223 := Lib.hid (C195.out.drew.gr hgw202)
  clear C195
  have E224 := Lib.hid (C196.out.drew.gr hgw202)
  clear C196
  have E225 := Lib.hid (C197.out.drew.gr hgw202)
  clear C197
  have E226 := Lib.hid (C198.out.drew.gr hgw202)
  clear C198
  have E227 := Lib.hid (C199.out.drew.gr hgw202)
  clear C199
  have E228 := Lib.hid (C200.out.drew.gr hgw202)
  clear C200
  have E229 := Lib.hid (D189.out.drew.gr hgw202)
  clear D189
  have hbel230 := hbel201.drew.trans (Below.mono hgw202 hbel201.drew.size)
  clear hbel201
  have D231 := Lib.hid hn_
  clear hn_ hz_ hgw202
  refine wpAnyG_store (i := 7) (by kernel_rfl) rfl D231.out (lenEq (show (pv (zeros 4) (zeros 4) false).length = 9 from rfl) (pv_len L_px.out L_py.out)) (StoresG.mk (cs := (pv px py ip)) (by rfl) 43 _ _ rfl rfl rfl (i43 L_px.out L_py.out) (pv_one _ _ _)) (.inr (fun _ hS_ => hS_.row _ (NG204.out))) ?_
  intro w232 hgw232 hn_
  try simp only [Act.put, zq1, zq2, zq3, zq4, zq5, zq6]
  have E233 := Lib.hid (E218.out.grown hgw232 (fun e => NE205.out (Option.some.inj e)))
  clear E218
  have E234 := Lib.hid (E219.out.grown hgw232 (fun e => NE206.out (Option.some.inj e)))
  clear E219
  have E235 := Lib.hid (E220.out.grown hgw232 (fun e => NE207.out (Option.some.inj e)))
  clear E220
  have E236 := Lib.hid (E221.out.grown hgw232 (fun e => NE208.out (Option.some.inj e)))
  clear E221
  have E237 := Lib.hid (E222.out.grown hgw232 (fun e => NE209.out (Option.some.inj e)))
  clear E222
  have E238 := Lib.hid (E223.out.grown hgw232 (fun e => NE210.out (Option.some.inj e)))
  clear E223
  have E239 := Lib.hid (E224.out.grown hgw232 (fun e => NE211.out (Option.some.inj e)))
  clear E224
  have E240 := Lib.hid (E225.out.grown hgw232 (fun e => NE212.out (Option.some.inj e)))
  clear E225
  have E241 := Lib.hid (E226.out.grown hgw232 (fun e => NE213.out (Option.some.inj e)))
  clear E226
  have E242 := Lib.hid (E227.out.grown hgw232 (fun e => NE214.out (Option.some.inj e)))
  clear E227
  have E243 := Lib.hid (E228.out.grown hgw232 (fun e => NE215.out (Option.some.inj e)))
  clear E228
  have E244 := Lib.hid (E229.out.grown hgw232 (fun e => NE216.out (Option.some.inj e)))
  clear E229
  have D245 := Lib.hid hn_
  clear hn_ D231
  have hbel246 := belStore hbel230 hgw232 (GE217.out)
  clear hgw232
  refine wpAnyG_take (fun _ _ hS_ hb_ => hS_.gr hb_) (i := 8) rfl (by kernel_rfl) (fun _ _ _ h => h) (pureG (by rfl) (by intro w; go_simp; first | done | with_reducible rfl)) ?_
  try simp only [Act.put, zq1, zq2, zq3, zq4, zq5, zq6]
  refine wpAnyG_done (by kernel_rfl) ?_ _
  intro w247 hgw247
  try simp only [Act.put, zq1, zq2, zq3, zq4, zq5, zq6]
  have C248 := Lib.hid (E233.out.gr hgw247)
  clear E233
  have C249 := Lib.hid (E234.out.gr hgw247)
  clear E234
  have C250 := Lib.hid (E235.out.gr hgw247)
  clear E235
  have C251 := Lib.hid (E236.out.gr hgw247)
  clear E236
  have C252 := Lib.hid (E237.out.gr hgw247)
  clear E237
  have C253 := Lib.hid (E238.out.gr hgw247)
  clear E238
  have C254 := Lib.hid (E239.out.gr hgw247)
  clear E239
  have C255 := Lib.hid (E240.out.gr hgw247)
  clear E240
  have C256 := Lib.hid (E241.out.gr hgw247)
  clear E241
  have C257 := Lib.hid (E242.out.gr hgw247)
  clear E242
  have C258 := Lib.hid (E243.out.gr hgw247)
  clear E243
  have C259 := Lib.hid (E244.out.gr hgw247)
  clear E244
  have C260 := Lib.hid (D245.out.gr hgw247)
  clear D245
  have hbel261 := hbel246.trans (Below.mono hgw247 hbel246.size)
  clear hbel246
  clear hgw247
  as_aux_lemma =>
  go_wp2_with fail
  refine (Hc15.out _).mono ?_
  rintro e w262 ⟨rfl, hbw262⟩
  have C263 := Lib.hid (C248.out.gr hbw262)
  clear C248
  have C264 := Lib.hid (C249.out.gr hbw262)
  clear C249
  have C265 := Lib.hid (C250.out.gr hbw262)
  clear C250
  have C266 := Lib.hid (C251.out.gr hbw262)
  clear C251
  have C267 := Lib.hid (C252.out.gr hbw262)
  clear C252
  have C268 := Lib.hid (C253.out.gr hbw262)
  clear C253
  have C269 := Lib.hid (C254.out.gr hbw262)
  clear C254
  have C270 := Lib.hid (C255.out.gr hbw262)
  clear C255
  have C271 := Lib.hid (C256.out.gr hbw262)
  clear C256
  have C272 := Lib.hid (C257.out.gr hbw262)
  clear C257
  have C273 := Lib.hid (C258.out.gr hbw262)
  clear C258
  have C274 := Lib.hid (C259.out.gr hbw262)
  clear C259
  have C275 := Lib.hid (C260.out.gr hbw262)
  clear C260
  have hbel276 := hbel261.trans (Below.mono hbw262 hbel261.size)
  clear hbel261
  clear hbw262
  go_wp2_with (first | (refine stB rfl 24 (.tmp 27) (.tmp 121) rfl w262.heap.size rfl (natsV .u64 ln) rfl 24 (natsV .u64 (zeros 4)) (Blk.new w262 24 (natsV .u64 (zeros 4))) (i24 L_ln.out) (lenEq (show (natsV .u64 (zeros 4)).length = 4 from rfl) (by rw [natsV_length, L_ln.out])) (natsV_one _ _) ?_; generalize hW : World.setRow _ _ _ = w277; obtain ⟨hgw277, hnw277⟩ := newfacts hW; clear hW; have NE280 := Lib.hid (Nat.ne_of_lt (C275.out.lt)); have C281 := Lib.hid (C263.out.gr hgw277); clear C263; have C282 := Lib.hid (C264.out.gr hgw277); clear C264; have C283 := Lib.hid (C265.out.gr hgw277); clear C265; have C284 := Lib.hid (C266.out.gr hgw277); clear C266; have C285 := Lib.hid (C267.out.gr hgw277); clear C267; have C286 := Lib.hid (C268.out.gr hgw277); clear C268; have C287 := Lib.hid (C269.out.gr hgw277); clear C269; have C288 := Lib.hid (C270.out.gr hgw277); clear C270; have C289 := Lib.hid (C271.out.gr hgw277); clear C271; have C290 := Lib.hid (C272.out.gr hgw277); clear C272; have C291 := Lib.hid (C273.out.gr hgw277); clear C273; have C292 := Lib.hid (C274.out.gr hgw277); clear C274; have C293 := Lib.hid (C275.out.gr hgw277); clear C275; have hbel294 := hbel276.trans (Below.mono hgw277 hbel276.size); clear hbel276; have D279 := Lib.hid hnw277; have szw277 := hgw277.size; clear hnw277 hgw277 szw277; generalize w262.heap.size = G278 at *) | (refine wpList_load_mid rfl 24 (.tmp 27) rfl G278 0 rfl (natsV .u64 ln) _ (blk_all (D279.out)) Try.underlying24 rfl (i24 L_ln.out) ?_) | (refine wpList_load_mid rfl 43 (.tmp 5) rfl G17 0 rfl (pv px py ip) _ (blk_all (C283.out)) Try.underlying43 rfl (i43 L_px.out L_py.out) ?_))
  refine (Hc16.out _).mono ?_
  rintro e w295 ⟨rfl, hbw295⟩
  have C296 := Lib.hid (C281.out.gr hbw295)
  clear C281
  have C297 := Lib.hid (C282.out.gr hbw295)
  clear C282
  have C298 := Lib.hid (C283.out.gr hbw295)
  clear C283
  have C299 := Lib.hid (C284.out.gr hbw295)
  clear C284
  have C300 := Lib.hid (C285.out.gr hbw295)
  clear C285
  have C301 := Lib.hid (C286.out.gr hbw295)
  clear C286
  have C302 := Lib.hid (C287.out.gr hbw295)
  clear C287
  have C303 := Lib.hid (C288.out.gr hbw295)
  clear C288
  have C304 := Lib.hid (C289.out.gr hbw295)
  clear C289
  have C305 := Lib.hid (C290.out.gr hbw295)
  clear C290
  have C306 := Lib.hid (C291.out.gr hbw295)
  clear C291
  have C307 := Lib.hid (C292.out.gr hbw295)
  clear C292
  have C308 := Lib.hid (C293.out.gr hbw295)
  clear C293
  have C309 := Lib.hid (D279.out.gr hbw295)
  clear D279
  have hbel310 := hbel294.trans (Below.mono hbw295 hbel294.size)
  clear hbel294
  clear hbw295
  go_wp2_with (first | (refine stB rfl 43 (.tmp 28) (.tmp 126) rfl w295.heap.size rfl (pv (zeros 4) (zeros 4) true) rfl 43 (pv (zeros 4) (zeros 4) false) (Blk.new w295 43 (pv (zeros 4) (zeros 4) false)) (i43 rfl rfl) (lenEq (show (pv (zeros 4) (zeros 4) false).length = 9 from rfl) (show (pv (zeros 4) (zeros 4) true).length = 9 from rfl)) (pv_one _ _ _) ?_; generalize hW : World.setRow _ _ _ = w311; obtain ⟨hgw311, hnw311⟩ := newfacts hW; clear hW; have NE314 := Lib.hid (Nat.ne_of_lt (C308.out.lt)); have C315 := Lib.hid (C296.out.gr hgw311); clear C296; have C316 := Lib.hid (C297.out.gr hgw311); clear C297; have C317 := Lib.hid (C298.out.gr hgw311); clear C298; have C318 := Lib.hid (C299.out.gr hgw311); clear C299; have C319 := Lib.hid (C300.out.gr hgw311); clear C300; have C320 := Lib.hid (C301.out.gr hgw311); clear C301; have C321 := Lib.hid (C302.out.gr hgw311); clear C302; have C322 := Lib.hid (C303.out.gr hgw311); clear C303; have C323 := Lib.hid (C304.out.gr hgw311); clear C304; have C324 := Lib.hid (C305.out.gr hgw311); clear C305; have C325 := Lib.hid (C306.out.gr hgw311); clear C306; have C326 := Lib.hid (C307.out.gr hgw311); clear C307; have C327 := Lib.hid (C308.out.gr hgw311); clear C308; have C328 := Lib.hid (C309.out.gr hgw311); clear C309; have hbel329 := hbel310.trans (Below.mono hgw311 hbel310.size); clear hbel310; have D313 := Lib.hid hnw311; have szw311 := hgw311.size; clear hnw311 hgw311 szw311; generalize w295.heap.size = G312 at *) | (refine wpList_load_mid rfl 24 (.tmp 128) rfl w.heap.size 0 rfl (natsV .u64 la) _ (tv_x (C315.out)) Try.underlying24 rfl (i24 L_la.out) ?_) | (refine wpList_load_mid rfl 24 (.tmp 27) rfl G278 0 rfl (natsV .u64 ln) _ (blk_all (C328.out)) Try.underlying24 rfl (i24 L_ln.out) ?_))
  refine (Hc17.out _).mono ?_
  rintro e w330 ⟨rfl, hbw330⟩
  have C331 := Lib.hid (C315.out.gr hbw330)
  clear C315
  have C332 := Lib.hid (C316.out.gr hbw330)
  clear C316
  have C333 := Lib.hid (C317.out.gr hbw330)
  clear C317
  have C334 := Lib.hid (C318.out.gr hbw330)
  clear C318
  have C335 := Lib.hid (C319.out.gr hbw330)
  clear C319
  have C336 := Lib.hid (C320.out.gr hbw330)
  clear C320
  have C337 := Lib.hid (C321.out.gr hbw330)
  clear C321
  have C338 := Lib.hid (C322.out.gr hbw330)
  clear C322
  have C339 := Lib.hid (C323.out.gr hbw330)
  clear C323
  have C340 := Lib.hid (C324.out.gr hbw330)
  clear C324
  have C341 := Lib.hid (C325.out.gr hbw330)
  clear C325
  have C342 := Lib.hid (C326.out.gr hbw330)
  clear C326
  have C343 := Lib.hid (C327.out.gr hbw330)
  clear C327
  have C344 := Lib.hid (C328.out.gr hbw330)
  clear C328
  have C345 := Lib.hid (D313.out.gr hbw330)
  clear D313
  have hbel346 := hbel329.trans (Below.mono hbw330 hbel329.size)
  clear hbel329
  clear hbw330
  go_wp2_with (first | (refine stB rfl 24 (.tmp 30) (.tmp 131) rfl w330.heap.size rfl (natsV .u64 ra) rfl 24 (natsV .u64 (zeros 4)) (Blk.new w330 24 (natsV .u64 (zeros 4))) (i24 L_ra.out) (lenEq (show (natsV .u64 (zeros 4)).length = 4 from rfl) (by rw [natsV_length, L_ra.out])) (natsV_one _ _) ?_; generalize hW : World.setRow _ _ _ = w347; obtain ⟨hgw347, hnw347⟩ := newfacts hW; clear hW; have NE350 := Lib.hid (Nat.ne_of_lt (C343.out.lt)); have C351 := Lib.hid (C331.out.gr hgw347); clear C331; have C352 := Lib.hid (C332.out.gr hgw347); clear C332; have C353 := Lib.hid (C333.out.gr hgw347); clear C333; have C354 := Lib.hid (C334.out.gr hgw347); clear C334; have C355 := Lib.hid (C335.out.gr hgw347); clear C335; have C356 := Lib.hid (C336.out.gr hgw347); clear C336; have C357 := Lib.hid (C337.out.gr hgw347); clear C337; have C358 := Lib.hid (C338.out.gr hgw347); clear C338; have C359 := Lib.hid (C339.out.gr hgw347); clear C339; have C360 := Lib.hid (C340.out.gr hgw347); clear C340; have C361 := Lib.hid (C341.out.gr hgw347); clear C341; have C362 := Lib.hid (C342.out.gr hgw347); clear C342; have C363 := Lib.hid (C343.out.gr hgw347); clear C343; have C364 := Lib.hid (C344.out.gr hgw347); clear C344; have C365 := Lib.hid (C345.out.gr hgw347); clear C345; have hbel366 := hbel346.trans (Below.mono hgw347 hbel346.size); clear hbel346; have D349 := Lib.hid hnw347; have szw347 := hgw347.size; clear hnw347 hgw347 szw347; generalize w330.heap.size = G348 at *) | (refine wpList_load_mid rfl 24 (.tmp 132) rfl w.heap.size 4 rfl (natsV .u64 lb) _ (tv_y (C351.out) L_la.out) Try.underlying24 rfl (i24 L_lb.out) ?_) | (refine wpList_load_mid rfl 24 (.tmp 27) rfl G278 0 rfl (natsV .u64 ln) _ (blk_all (C364.out)) Try.underlying24 rfl (i24 L_ln.out) ?_))
  refine (Hc18.out _).mono ?_
  rintro e w367 ⟨rfl, hbw367⟩
  have C368 := Lib.hid (C351.out.gr hbw367)
  clear C351
  have C369 := Lib.hid (C352.out.gr hbw367)
  clear C352
  have C370 := Lib.hid (C353.out.gr hbw367)
  clear C353
  have C371 := Lib.hid (C354.out.gr hbw367)
  clear C354
  have C372 := Lib.hid (C355.out.gr hbw367)
  clear C355
  have C373 := Lib.hid (C356.out.gr hbw367)
  clear C356
  have C374 := Lib.hid (C357.out.gr hbw367)
  clear C357
  have C375 := Lib.hid (C358.out.gr hbw367)
  clear C358
  have C376 := Lib.hid (C359.out.gr hbw367)
  clear C359
  have C377 := Lib.hid (C360.out.gr hbw367)
  clear C360
  have C378 := Lib.hid (C361.out.gr hbw367)
  clear C361
  have C379 := Lib.hid (C362.out.gr hbw367)
  clear C362
  have C380 := Lib.hid (C363.out.gr hbw367)
  clear C363
  have C381 := Lib.hid (C364.out.gr hbw367)
  clear C364
  have C382 := Lib.hid (C365.out.gr hbw367)
  clear C365
  have C383 := Lib.hid (D349.out.gr hbw367)
  clear D349
  have hbel384 := hbel366.trans (Below.mono hbw367 hbel366.size)
  clear hbel366
  clear hbw367
  go_wp2_with (first | (refine stB rfl 24 (.tmp 31) (.tmp 135) rfl w367.heap.size rfl (natsV .u64 rb) rfl 24 (natsV .u64 (zeros 4)) (Blk.new w367 24 (natsV .u64 (zeros 4))) (i24 L_rb.out) (lenEq (show (natsV .u64 (zeros 4)).length = 4 from rfl) (by rw [natsV_length, L_rb.out])) (natsV_one _ _) ?_; generalize hW : World.setRow _ _ _ = w385; obtain ⟨hgw385, hnw385⟩ := newfacts hW; clear hW; have NE388 := Lib.hid (Nat.ne_of_lt (C380.out.lt)); have C389 := Lib.hid (C368.out.gr hgw385); clear C368; have C390 := Lib.hid (C369.out.gr hgw385); clear C369; have C391 := Lib.hid (C370.out.gr hgw385); clear C370; have C392 := Lib.hid (C371.out.gr hgw385); clear C371; have C393 := Lib.hid (C372.out.gr hgw385); clear C372; have C394 := Lib.hid (C373.out.gr hgw385); clear C373; have C395 := Lib.hid (C374.out.gr hgw385); clear C374; have C396 := Lib.hid (C375.out.gr hgw385); clear C375; have C397 := Lib.hid (C376.out.gr hgw385); clear C376; have C398 := Lib.hid (C377.out.gr hgw385); clear C377; have C399 := Lib.hid (C378.out.gr hgw385); clear C378; have C400 := Lib.hid (C379.out.gr hgw385); clear C379; have C401 := Lib.hid (C380.out.gr hgw385); clear C380; have C402 := Lib.hid (C381.out.gr hgw385); clear C381; have C403 := Lib.hid (C382.out.gr hgw385); clear C382; have C404 := Lib.hid (C383.out.gr hgw385); clear C383; have hbel405 := hbel384.trans (Below.mono hgw385 hbel384.size); clear hbel384; have D387 := Lib.hid hnw385; have szw385 := hgw385.size; clear hnw385 hgw385 szw385; generalize w367.heap.size = G386 at *))
  as_aux_lemma =>
  refine wp_region_G (fun w_ => Blk w_ G348 24 (natsV .u64 ra) ∧ Blk w_ G386 24 (natsV .u64 rb) ∧ Blk w_ G278 24 (natsV .u64 ln) ∧ Blk w_ G8 43 (pv gx gy false)) 12 (by kernel_rfl) ⟨C404.out.drew, D387.out.drew, C402.out.drew, C390.out.drew⟩ ?_
  refine wpAnyG_take (fun _ _ hS_ hb_ => ⟨hS_.1.gr hb_, hS_.2.1.gr hb_, hS_.2.2.1.gr hb_, hS_.2.2.2.gr hb_⟩) (i := 0) rfl (by kernel_rfl) (fun _ _ _ h => h) (loadG (by rfl) _ _ rfl _ _ rfl (natsV .u64 ra) _ (fun _ hS_ => blk_all (hS_.1)) Try.underlying24 rfl (i24 L_ra.out)) ?_
  try simp only [Act.put, zq1, zq2, zq3, zq4, zq5, zq6]
  refine wpAnyG_take (fun _ _ hS_ hb_ => ⟨hS_.1.gr hb_, hS_.2.1.gr hb_, hS_.2.2.1.gr hb_, hS_.2.2.2.gr hb_⟩) (i := 1) rfl (by kernel_rfl) (fun _ _ _ h => h) (loadG (by rfl) _ _ rfl _ _ rfl (natsV .u64 rb) _ (fun _ hS_ => blk_all (hS_.2.1)) Try.underlying24 rfl (i24 L_rb.out)) ?_
  try simp only [Act.put, zq1, zq2, zq3, zq4, zq5, zq6]
  refine wpAnyG_take (fun _ _ hS_ hb_ => ⟨hS_.1.gr hb_, hS_.2.1.gr hb_, hS_.2.2.1.gr hb_, hS_.2.2.2.gr hb_⟩) (i := 2) rfl (by kernel_rfl) (fun _ _ _ h => h) (loadG (by rfl) _ _ rfl _ _ rfl (natsV .u64 ln) _ (fun _ hS_ => blk_all (hS_.2.2.1)) Try.underlying24 rfl (i24 L_ln.out)) ?_
  try simp only [Act.put, zq1, zq2, zq3, zq4, zq5, zq6]
  refine wpAnyG_take (fun _ _ hS_ hb_ => ⟨hS_.1.gr hb_, hS_.2.1.gr hb_, hS_.2.2.1.gr hb_, hS_.2.2.2.gr hb_⟩) (i := 3) rfl (by kernel_rfl) (fun _ _ _ h => h) (callG (by rfl) rfl Try.func46 (by kernel_rfl) (by kernel_rfl) (#[.agg (natsV .u64 ra).toArray, .agg (natsV .u64 rb).toArray, .agg (natsV .u64 ln).toArray]) (by simp [Act.eval]) (fun w _ => Hc19.out w)) ?_
  try simp only [Act.put, zq1, zq2, zq3, zq4, zq5, zq6]
  refine wpAnyG_take (fun _ _ hS_ hb_ => ⟨hS_.1.gr hb_, hS_.2.1.gr hb_, hS_.2.2.1.gr hb_, hS_.2.2.2.gr hb_⟩) (i := 4) rfl (by kernel_rfl) (fun _ _ _ h => h) (loadG (by rfl) _ _ rfl _ _ rfl (pv gx gy false) _ (fun _ hS_ => blk_all (hS_.2.2.2)) Try.underlying43 rfl (i43 L_gx.out L_gy.out)) ?_
  try simp only [Act.put, zq1, zq2, zq3, zq4, zq5, zq6]
  refine wpAnyG_take (fun _ _ hS_ hb_ => ⟨hS_.1.gr hb_, hS_.2.1.gr hb_, hS_.2.2.1.gr hb_, hS_.2.2.2.gr hb_⟩) (i := 5) rfl (by kernel_rfl) (fun _ _ _ h => h) (callG (by rfl) rfl Try.func40 (by kernel_rfl) (by kernel_rfl) (#[.agg (natsV .u64 rc).toArray, .agg (pv gx gy false).toArray]) (by simp [Act.eval]) (fun w _ => Hc20.out w)) ?_
  try simp only [Act.put, zq1, zq2, zq3, zq4, zq5, zq6]
  refine wpAnyG_take (fun _ _ hS_ hb_ => ⟨hS_.1.gr hb_, hS_.2.1.gr hb_, hS_.2.2.1.gr hb_, hS_.2.2.2.gr hb_⟩) (i := 6) rfl (by kernel_rfl) (fun _ _ _ h => h) (pureG (by rfl) (by intro w; go_simp; first | done | with_reducible rfl)) ?_
  try simp only [Act.put, zq1, zq2, zq3, zq4, zq5, zq6]
  refine wpAnyG_take (fun _ _ hS_ hb_ => ⟨hS_.1.gr hb_, hS_.2.1.gr hb_, hS_.2.2.1.gr hb_, hS_.2.2.2.gr hb_⟩) (i := 7) rfl (by kernel_rfl) (fun _ _ _ h => h) (pureG (by rfl) (by intro w; go_simp; first | done | with_reducible rfl)) ?_
  try simp only [Act.put, zq1, zq2, zq3, zq4, zq5, zq6]
  refine wpAnyG_take (fun _ _ hS_ hb_ => ⟨hS_.1.gr hb_, hS_.2.1.gr hb_, hS_.2.2.1.gr hb_, hS_.2.2.2.gr hb_⟩) (i := 8) rfl (by kernel_rfl) (fun _ _ _ h => h) (pureG (by rfl) (by intro w; go_simp; first | done | with_reducible rfl)) ?_
  try simp only [Act.put, zq1, zq2, zq3, zq4, zq5, zq6]
  refine wpAnyG_alloc (i := 9) (fun _ _ hS_ hb_ => ⟨hS_.1.gr hb_, hS_.2.1.gr hb_, hS_.2.2.1.gr hb_, hS_.2.2.2.gr hb_⟩) (by kernel_rfl) rfl (allocG (by rfl) rfl _ alloc43) ?_
  intro w406 G407 hgw406 hz_ hn_
  try simp only [Act.put, zq1, zq2, zq3, zq4, zq5, zq6]
  have NG408 := Lib.hid (Nat.ne_of_lt (Nat.lt_of_lt_of_le C404.out.drew.lt hz_))
  have NG409 := Lib.hid (Nat.ne_of_lt (Nat.lt_of_lt_of_le D387.out.drew.lt hz_))
  have NG410 := Lib.hid (Nat.ne_of_lt (Nat.lt_of_lt_of_le C402.out.drew.lt hz_))
  have NG411 := Lib.hid (Nat.ne_of_lt (Nat.lt_of_lt_of_le C390.out.drew.lt hz_))
  have NE412 := Lib.hid (Nat.ne_of_lt (Nat.lt_of_lt_of_le C389.out.drew.lt hz_))
  have NE413 := Lib.hid (Nat.ne_of_lt (Nat.lt_of_lt_of_le C390.out.drew.lt hz_))
  have NE414 := Lib.hid (Nat.ne_of_lt (Nat.lt_of_lt_of_le C391.out.drew.lt hz_))
  have NE415 := Lib.hid (Nat.ne_of_lt (Nat.lt_of_lt_of_le C392.out.drew.lt hz_))
  have NE416 := Lib.hid (Nat.ne_of_lt (Nat.lt_of_lt_of_le C393.out.drew.lt hz_))
  have NE417 := Lib.hid (Nat.ne_of_lt (Nat.lt_of_lt_of_le C394.out.drew.lt hz_))
  have NE418 := Lib.hid (Nat.ne_of_lt (Nat.lt_of_lt_of_le C395.out.drew.lt hz_))
  have NE419 := Lib.hid (Nat.ne_of_lt (Nat.lt_of_lt_of_le C396.out.drew.lt hz_))
  have NE420 := Lib.hid (Nat.ne_of_lt (Nat.lt_of_lt_of_le C397.out.drew.lt hz_))
  have NE421 := Lib.hid (Nat.ne_of_lt (Nat.lt_of_lt_of_le C398.out.drew.lt hz_))
  have NE422 := Lib.hid (Nat.ne_of_lt (Nat.lt_of_lt_of_le C399.out.drew.lt hz_))
  have NE423 := Lib.hid (Nat.ne_of_lt (Nat.lt_of_lt_of_le C400.out.drew.lt hz_))
  have NE424 := Lib.hid (Nat.ne_of_lt (Nat.lt_of_lt_of_le C401.out.drew.lt hz_))
  have NE425 := Lib.hid (Nat.ne_of_lt (Nat.lt_of_lt_of_le C402.out.drew.lt hz_))
  have NE426 := Lib.hid (Nat.ne_of_lt (Nat.lt_of_lt_of_le C403.out.drew.lt hz_))
  have NE427 := Lib.hid (Nat.ne_of_lt (Nat.lt_of_lt_of_le C404.out.drew.lt hz_))
  have NE428 := Lib.hid (Nat.ne_of_lt (Nat.lt_of_lt_of_le D387.out.drew.lt hz_))
  have GE429 := Lib.hid (Nat.le_trans hbel405.drew.size hz_)
  have E430 := Lib.hid (C389.out.drew.gr hgw406)
  clear C389
  have E431 := Lib.hid (C390.out.drew.gr hgw406)
  clear C390
  have E432 := Lib.hid (C391.out.drew.gr hgw406)
  clear C391
  have E433 := Lib.hid (C392.out.drew.gr hgw406)
  clear C392
  have E434 := Lib.hid (C393.out.drew.gr hgw406)
  clear C393
  have E435 := Lib.hid (C394.out.drew.gr hgw406)
  clear C394
  have E436 := Lib.hid (C395.out.drew.gr hgw406)
  clear C395
  have E437 := Lib.hid (C396.out.drew.gr hgw406)
  clear C396
  have E438 := Lib.hid (C397.out.drew.gr hgw406)
  clear C397
  have E439 := Lib.hid (C398.out.drew.gr hgw406)
  clear C398
  have E440 := Lib.hid (C399.out.drew.gr hgw406)
  clear C399
  have E441 := Lib.hid (C400.out.drew.gr hgw406)
  clear C400
  have E442 := Lib.hid (C401.out.drew.gr hgw406)
  clear C401
  have E443 := Lib.hid (C402.out.drew.gr hgw406)
  clear C402
  have E444 := Lib.hid (C403.out.drew.gr hgw406)
  clear C403
  have E445 := Lib.hid (C404.out.drew.gr hgw406)
  clear C404
  have E446 := Lib.hid (D387.out.drew.gr hgw406)
  clear D387
  have hbel447 := hbel405.drew.trans (Below.mono hgw406 hbel405.drew.size)
  clear hbel405
  have D448 := Lib.hid hn_
  clear hn_ hz_ hgw406
  refine wpAnyG_store (i := 10) (by kernel_rfl) rfl D448.out (lenEq (show (pv (zeros 4) (zeros 4) false).length = 9 from rfl) (pv_len L_sx.out L_sy.out)) (StoresG.mk (cs := (pv sx sy is_)) (by rfl) 43 _ _ rfl rfl rfl (i43 L_sx.out L_sy.out) (pv_one _ _ _)) (.inr (fun _ hS_ => ⟨hS_.1.row _ (NG408.out), hS_.2.1.row _ (NG409.out), hS_.2.2.1.row _ (NG410.out), hS_.2.2.2.row _ (NG411.out)⟩)) ?_
  intro w449 hgw449 hn_
  try simp only [Act.put, zq1, zq2, zq3, zq4, zq5, zq6]
  have E450 := Lib.hid (E430.out.grown hgw449 (fun e => NE412.out (Option.some.inj e)))
  clear E430
  have E451 := Lib.hid (E431.out.grown hgw449 (fun e => NE413.out (Option.some.inj e)))
  clear E431
  have E452 := Lib.hid (E432.out.grown hgw449 (fun e => NE414.out (Option.some.inj e)))
  clear E432
  have E453 := Lib.hid (E433.out.grown hgw449 (fun e => NE415.out (Option.some.inj e)))
  clear E433
  have E454 := Lib.hid (E434.out.grown hgw449 (fun e => NE416.out (Option.some.inj e)))
  clear E434
  have E455 := Lib.hid (E435.out.grown hgw449 (fun e => NE417.out (Option.some.inj e)))
  clear E435
  have E456 := Lib.hid (E436.out.grown hgw449 (fun e => NE418.out (Option.some.inj e)))
  clear E436
  have E457 := Lib.hid (E437.out.grown hgw449 (fun e => NE419.out (Option.some.inj e)))
  clear E437
  have E458 := Lib.hid (E438.out.grown hgw449 (fun e => NE420.out (Option.some.inj e)))
  clear E438
  have E459 := Lib.hid (E439.out.grown hgw449 (fun e => NE421.out (Option.some.inj e)))
  clear E439
  have E460 := Lib.hid (E440.out.grown hgw449 (fun e => NE422.out (Option.some.inj e)))
  clear E440
  have E461 := Lib.hid (E441.out.grown hgw449 (fun e => NE423.out (Option.some.inj e)))
  clear E441
  have E462 := Lib.hid (E442.out.grown hgw449 (fun e => NE424.out (Option.some.inj e)))
  clear E442
  have E463 := Lib.hid (E443.out.grown hgw449 (fun e => NE425.out (Option.some.inj e)))
  clear E443
  have E464 := Lib.hid (E444.out.grown hgw449 (fun e => NE426.out (Option.some.inj e)))
  clear E444
  have E465 := Lib.hid (E445.out.grown hgw449 (fun e => NE427.out (Option.some.inj e)))
  clear E445
  have E466 := Lib.hid (E446.out.grown hgw449 (fun e => NE428.out (Option.some.inj e)))
  clear E446
  have D467 := Lib.hid hn_
  clear hn_ D448
  have hbel468 := belStore hbel447 hgw449 (GE429.out)
  clear hgw449
  refine wpAnyG_take (fun _ _ hS_ hb_ => ⟨hS_.1.gr hb_, hS_.2.1.gr hb_, hS_.2.2.1.gr hb_, hS_.2.2.2.gr hb_⟩) (i := 11) rfl (by kernel_rfl) (fun _ _ _ h => h) (pureG (by rfl) (by intro w; go_simp; first | done | with_reducible rfl)) ?_
  try simp only [Act.put, zq1, zq2, zq3, zq4, zq5, zq6]
  refine wpAnyG_done (by kernel_rfl) ?_ _
  intro w469 hgw469
  try simp only [Act.put, zq1, zq2, zq3, zq4, zq5, zq6]
  have C470 := Lib.hid (E450.out.gr hgw469)
  clear E450
  have C471 := Lib.hid (E451.out.gr hgw469)
  clear E451
  have C472 := Lib.hid (E452.out.gr hgw469)
  clear E452
  have C473 := Lib.hid (E453.out.gr hgw469)
  clear E453
  have C474 := Lib.hid (E454.out.gr hgw469)
  clear E454
  have C475 := Lib.hid (E455.out.gr hgw469)
  clear E455
  have C476 := Lib.hid (E456.out.gr hgw469)
  clear E456
  have C477 := Lib.hid (E457.out.gr hgw469)
  clear E457
  have C478 := Lib.hid (E458.out.gr hgw469)
  clear E458
  have C479 := Lib.hid (E459.out.gr hgw469)
  clear E459
  have C480 := Lib.hid (E460.out.gr hgw469)
  clear E460
  have C481 := Lib.hid (E461.out.gr hgw469)
  clear E461
  have C482 := Lib.hid (E462.out.gr hgw469)
  clear E462
  have C483 := Lib.hid (E463.out.gr hgw469)
  clear E463
  have C484 := Lib.hid (E464.out.gr hgw469)
  clear E464
  have C485 := Lib.hid (E465.out.gr hgw469)
  clear E465
  have C486 := Lib.hid (E466.out.gr hgw469)
  clear E466
  have C487 := Lib.hid (D467.out.gr hgw469)
  clear D467
  have hbel488 := hbel468.trans (Below.mono hgw469 hbel468.size)
  clear hbel468
  clear hgw469
  as_aux_lemma =>
  go_wp2_with (first | (refine wpList_load_mid rfl 24 (.tmp 146) rfl w.heap.size 0 rfl (natsV .u64 la) _ (tv_x (C470.out)) Try.underlying24 rfl (i24 L_la.out) ?_) | (refine wpList_load_mid rfl 43 (.tmp 4) rfl G8 0 rfl (pv gx gy false) _ (blk_all (C471.out)) Try.underlying43 rfl (i43 L_gx.out L_gy.out) ?_) | (refine wpList_load_mid rfl 24 (.tmp 149) rfl w.heap.size 4 rfl (natsV .u64 lb) _ (tv_y (C470.out) L_la.out) Try.underlying24 rfl (i24 L_lb.out) ?_) | (refine wpList_load_mid rfl 43 (.tmp 4) rfl G8 0 rfl (pv gx gy false) _ (blk_all (C471.out)) Try.underlying43 rfl (i43 L_gx.out L_gy.out) ?_))
  refine (Hc21.out _).mono ?_
  rintro e w489 ⟨rfl, hbw489⟩
  have C490 := Lib.hid (C470.out.gr hbw489)
  clear C470
  have C491 := Lib.hid (C471.out.gr hbw489)
  clear C471
  have C492 := Lib.hid (C472.out.gr hbw489)
  clear C472
  have C493 := Lib.hid (C473.out.gr hbw489)
  clear C473
  have C494 := Lib.hid (C474.out.gr hbw489)
  clear C474
  have C495 := Lib.hid (C475.out.gr hbw489)
  clear C475
  have C496 := Lib.hid (C476.out.gr hbw489)
  clear C476
  have C497 := Lib.hid (C477.out.gr hbw489)
  clear C477
  have C498 := Lib.hid (C478.out.gr hbw489)
  clear C478
  have C499 := Lib.hid (C479.out.gr hbw489)
  clear C479
  have C500 := Lib.hid (C480.out.gr hbw489)
  clear C480
  have C501 := Lib.hid (C481.out.gr hbw489)
  clear C481
  have C502 := Lib.hid (C482.out.gr hbw489)
  clear C482
  have C503 := Lib.hid (C483.out.gr hbw489)
  clear C483
  have C504 := Lib.hid (C484.out.gr hbw489)
  clear C484
  have C505 := Lib.hid (C485.out.gr hbw489)
  clear C485
  have C506 := Lib.hid (C486.out.gr hbw489)
  clear C486
  have C507 := Lib.hid (C487.out.gr hbw489)
  clear C487
  have hbel508 := hbel488.trans (Below.mono hbw489 hbel488.size)
  clear hbel488
  clear hbw489
  as_aux_lemma =>
  go_wp2_with (first | (refine stB rfl 43 (.tmp 34) (.tmp 153) rfl w489.heap.size rfl (pv sx sy is_) rfl 43 (pv (zeros 4) (zeros 4) false) (Blk.new w489 43 (pv (zeros 4) (zeros 4) false)) (i43 L_sx.out L_sy.out) (lenEq (show (pv (zeros 4) (zeros 4) false).length = 9 from rfl) (pv_len L_sx.out L_sy.out)) (pv_one _ _ _) ?_; generalize hW : World.setRow _ _ _ = w509; obtain ⟨hgw509, hnw509⟩ := newfacts hW; clear hW; have NE512 := Lib.hid (Nat.ne_of_lt (C502.out.lt)); have NE513 := Lib.hid (Nat.ne_of_lt (C507.out.lt)); have C514 := Lib.hid (C490.out.gr hgw509); clear C490; have C515 := Lib.hid (C491.out.gr hgw509); clear C491; have C516 := Lib.hid (C492.out.gr hgw509); clear C492; have C517 := Lib.hid (C493.out.gr hgw509); clear C493; have C518 := Lib.hid (C494.out.gr hgw509); clear C494; have C519 := Lib.hid (C495.out.gr hgw509); clear C495; have C520 := Lib.hid (C496.out.gr hgw509); clear C496; have C521 := Lib.hid (C497.out.gr hgw509); clear C497; have C522 := Lib.hid (C498.out.gr hgw509); clear C498; have C523 := Lib.hid (C499.out.gr hgw509); clear C499; have C524 := Lib.hid (C500.out.gr hgw509); clear C500; have C525 := Lib.hid (C501.out.gr hgw509); clear C501; have C526 := Lib.hid (C502.out.gr hgw509); clear C502; have C527 := Lib.hid (C503.out.gr hgw509); clear C503; have C528 := Lib.hid (C504.out.gr hgw509); clear C504; have C529 := Lib.hid (C505.out.gr hgw509); clear C505; have C530 := Lib.hid (C506.out.gr hgw509); clear C506; have C531 := Lib.hid (C507.out.gr hgw509); clear C507; have hbel532 := hbel508.trans (Below.mono hgw509 hbel508.size); clear hbel508; have D511 := Lib.hid hnw509; have szw509 := hgw509.size; clear hnw509 hgw509 szw509; generalize w489.heap.size = G510 at *) | (refine wpList_load_mid rfl 43 (.tmp 5) rfl G17 0 rfl (pv px py ip) _ (blk_all (C516.out)) Try.underlying43 rfl (i43 L_px.out L_py.out) ?_))
  refine (Hc22.out _).mono ?_
  rintro e w533 ⟨rfl, hbw533⟩
  have C534 := Lib.hid (C514.out.gr hbw533)
  clear C514
  have C535 := Lib.hid (C515.out.gr hbw533)
  clear C515
  have C536 := Lib.hid (C516.out.gr hbw533)
  clear C516
  have C537 := Lib.hid (C517.out.gr hbw533)
  clear C517
  have C538 := Lib.hid (C518.out.gr hbw533)
  clear C518
  have C539 := Lib.hid (C519.out.gr hbw533)
  clear C519
  have C540 := Lib.hid (C520.out.gr hbw533)
  clear C520
  have C541 := Lib.hid (C521.out.gr hbw533)
  clear C521
  have C542 := Lib.hid (C522.out.gr hbw533)
  clear C522
  have C543 := Lib.hid (C523.out.gr hbw533)
  clear C523
  have C544 := Lib.hid (C524.out.gr hbw533)
  clear C524
  have C545 := Lib.hid (C525.out.gr hbw533)
  clear C525
  have C546 := Lib.hid (C526.out.gr hbw533)
  clear C526
  have C547 := Lib.hid (C527.out.gr hbw533)
  clear C527
  have C548 := Lib.hid (C528.out.gr hbw533)
  clear C528
  have C549 := Lib.hid (C529.out.gr hbw533)
  clear C529
  have C550 := Lib.hid (C530.out.gr hbw533)
  clear C530
  have C551 := Lib.hid (C531.out.gr hbw533)
  clear C531
  have C552 := Lib.hid (D511.out.gr hbw533)
  clear D511
  have hbel553 := hbel532.trans (Below.mono hbw533 hbel532.size)
  clear hbel532
  clear hbw533
  go_wp2_with (first | (refine ldwM 43 (.tmp 11) rfl G56 0 rfl (pv sx sy is_) _ (blk_all (C539.out)) Try.underlying43 rfl (i43 L_sx.out L_sy.out) 2 true rfl 157 rfl rfl ?_))
  refine (Hc23.out _).mono ?_
  rintro e w554 ⟨rfl, hbw554⟩
  have C555 := Lib.hid (C534.out.gr hbw554)
  clear C534
  have C556 := Lib.hid (C535.out.gr hbw554)
  clear C535
  have C557 := Lib.hid (C536.out.gr hbw554)
  clear C536
  have C558 := Lib.hid (C537.out.gr hbw554)
  clear C537
  have C559 := Lib.hid (C538.out.gr hbw554)
  clear C538
  have C560 := Lib.hid (C539.out.gr hbw554)
  clear C539
  have C561 := Lib.hid (C540.out.gr hbw554)
  clear C540
  have C562 := Lib.hid (C541.out.gr hbw554)
  clear C541
  have C563 := Lib.hid (C542.out.gr hbw554)
  clear C542
  have C564 := Lib.hid (C543.out.gr hbw554)
  clear C543
  have C565 := Lib.hid (C544.out.gr hbw554)
  clear C544
  have C566 := Lib.hid (C545.out.gr hbw554)
  clear C545
  have C567 := Lib.hid (C546.out.gr hbw554)
  clear C546
  have C568 := Lib.hid (C547.out.gr hbw554)
  clear C547
  have C569 := Lib.hid (C548.out.gr hbw554)
  clear C548
  have C570 := Lib.hid (C549.out.gr hbw554)
  clear C549
  have C571 := Lib.hid (C550.out.gr hbw554)
  clear C550
  have C572 := Lib.hid (C551.out.gr hbw554)
  clear C551
  have C573 := Lib.hid (C552.out.gr hbw554)
  clear C552
  have hbel574 := hbel553.trans (Below.mono hbw554 hbel553.size)
  clear hbel553
  clear hbw554
  go_wp2_with (first | (refine ldwM 43 (.tmp 17) rfl G113 0 rfl (pv ux uy iu) _ (blk_all (C563.out)) Try.underlying43 rfl (i43 L_ux.out L_uy.out) 6 true rfl 161 rfl rfl ?_))
  refine (Hc24.out _).mono ?_
  rintro e w575 ⟨rfl, hbw575⟩
  have C576 := Lib.hid (C555.out.gr hbw575)
  clear C555
  have C577 := Lib.hid (C556.out.gr hbw575)
  clear C556
  have C578 := Lib.hid (C557.out.gr hbw575)
  clear C557
  have C579 := Lib.hid (C558.out.gr hbw575)
  clear C558
  have C580 := Lib.hid (C559.out.gr hbw575)
  clear C559
  have C581 := Lib.hid (C560.out.gr hbw575)
  clear C560
  have C582 := Lib.hid (C561.out.gr hbw575)
  clear C561
  have C583 := Lib.hid (C562.out.gr hbw575)
  clear C562
  have C584 := Lib.hid (C563.out.gr hbw575)
  clear C563
  have C585 := Lib.hid (C564.out.gr hbw575)
  clear C564
  have C586 := Lib.hid (C565.out.gr hbw575)
  clear C565
  have C587 := Lib.hid (C566.out.gr hbw575)
  clear C566
  have C588 := Lib.hid (C567.out.gr hbw575)
  clear C567
  have C589 := Lib.hid (C568.out.gr hbw575)
  clear C568
  have C590 := Lib.hid (C569.out.gr hbw575)
  clear C569
  have C591 := Lib.hid (C570.out.gr hbw575)
  clear C570
  have C592 := Lib.hid (C571.out.gr hbw575)
  clear C571
  have C593 := Lib.hid (C572.out.gr hbw575)
  clear C572
  have C594 := Lib.hid (C573.out.gr hbw575)
  clear C573
  have hbel595 := hbel574.trans (Below.mono hbw575 hbel574.size)
  clear hbel574
  clear hbw575
  go_wp2_with fail
  as_aux_lemma =>
  refine wp_region_G (fun w_ => Blk w_ G56 43 (pv sx sy is_) ∧ Blk w_ G73 43 (pv sx sy is_) ∧ Blk w_ G113 43 (pv ux uy iu) ∧ Blk w_ G136 43 (pv ux uy iu) ∧ Blk w_ G188 43 (pv (zeros 4) (zeros 4) true) ∧ Blk w_ G203 43 (pv px py ip) ∧ Blk w_ G17 43 (pv px py ip) ∧ Blk w_ G312 43 (pv (zeros 4) (zeros 4) true) ∧ Blk w_ G407 43 (pv sx sy is_) ∧ Blk w_ G510 43 (pv sx sy is_)) 41 (by kernel_rfl) ⟨C581.out.drew, C582.out.drew, C584.out.drew, C585.out.drew, C587.out.drew, C588.out.drew, C578.out.drew, C590.out.drew, C593.out.drew, C594.out.drew⟩ ?_
  refine wpAnyG_take (fun _ _ hS_ hb_ => ⟨hS_.1.gr hb_, hS_.2.1.gr hb_, hS_.2.2.1.gr hb_, hS_.2.2.2.1.gr hb_, hS_.2.2.2.2.1.gr hb_, hS_.2.2.2.2.2.1.gr hb_, hS_.2.2.2.2.2.2.1.gr hb_, hS_.2.2.2.2.2.2.2.1.gr hb_, hS_.2.2.2.2.2.2.2.2.1.gr hb_, hS_.2.2.2.2.2.2.2.2.2.gr hb_⟩) (i := 0) rfl (by kernel_rfl) (fun _ _ _ h => h) (pureG (by rfl) (by intro w; go_simp; first | done | with_reducible rfl)) ?_
  try simp only [Act.put, zq1, zq2, zq3, zq4, zq5, zq6]
  refine wpAnyG_take (fun _ _ hS_ hb_ => ⟨hS_.1.gr hb_, hS_.2.1.gr hb_, hS_.2.2.1.gr hb_, hS_.2.2.2.1.gr hb_, hS_.2.2.2.2.1.gr hb_, hS_.2.2.2.2.2.1.gr hb_, hS_.2.2.2.2.2.2.1.gr hb_, hS_.2.2.2.2.2.2.2.1.gr hb_, hS_.2.2.2.2.2.2.2.2.1.gr hb_, hS_.2.2.2.2.2.2.2.2.2.gr hb_⟩) (i := 1) rfl (by kernel_rfl) (fun _ _ _ h => h) (pureG (by rfl) (by intro w; go_simp; first | done | with_reducible rfl)) ?_
  try simp only [Act.put, zq1, zq2, zq3, zq4, zq5, zq6]
  refine wpAnyG_take (fun _ _ hS_ hb_ => ⟨hS_.1.gr hb_, hS_.2.1.gr hb_, hS_.2.2.1.gr hb_, hS_.2.2.2.1.gr hb_, hS_.2.2.2.2.1.gr hb_, hS_.2.2.2.2.2.1.gr hb_, hS_.2.2.2.2.2.2.1.gr hb_, hS_.2.2.2.2.2.2.2.1.gr hb_, hS_.2.2.2.2.2.2.2.2.1.gr hb_, hS_.2.2.2.2.2.2.2.2.2.gr hb_⟩) (i := 2) rfl (by kernel_rfl) (fun _ _ _ h => h) (loadG (by rfl) _ _ rfl _ _ rfl (pv sx sy is_) _ (fun _ hS_ => blk_all (hS_.1)) Try.underlying43 rfl (i43 L_sx.out L_sy.out)) ?_
  try simp only [Act.put, zq1, zq2, zq3, zq4, zq5, zq6]
  refine wpAnyG_take (fun _ _ hS_ hb_ => ⟨hS_.1.gr hb_, hS_.2.1.gr hb_, hS_.2.2.1.gr hb_, hS_.2.2.2.1.gr hb_, hS_.2.2.2.2.1.gr hb_, hS_.2.2.2.2.2.1.gr hb_, hS_.2.2.2.2.2.2.1.gr hb_, hS_.2.2.2.2.2.2.2.1.gr hb_, hS_.2.2.2.2.2.2.2.2.1.gr hb_, hS_.2.2.2.2.2.2.2.2.2.gr hb_⟩) (i := 3) rfl (by kernel_rfl) (fun _ _ _ h => h) (loadG (by rfl) _ _ rfl _ _ rfl (pv sx sy is_) _ (fun _ hS_ => blk_all (hS_.2.1)) Try.underlying43 rfl (i43 L_sx.out L_sy.out)) ?_
  try simp only [Act.put, zq1, zq2, zq3, zq4, zq5, zq6]
  refine wpAnyG_take (fun _ _ hS_ hb_ => ⟨hS_.1.gr hb_, hS_.2.1.gr hb_, hS_.2.2.1.gr hb_, hS_.2.2.2.1.gr hb_, hS_.2.2.2.2.1.gr hb_, hS_.2.2.2.2.2.1.gr hb_, hS_.2.2.2.2.2.2.1.gr hb_, hS_.2.2.2.2.2.2.2.1.gr hb_, hS_.2.2.2.2.2.2.2.2.1.gr hb_, hS_.2.2.2.2.2.2.2.2.2.gr hb_⟩) (i := 4) rfl (by kernel_rfl) (fun _ _ _ h => h) (pureG (by rfl) (by intro w; have q := QS.out; go_simp; first | done | with_reducible rfl)) ?_
  try simp only [Act.put, zq1, zq2, zq3, zq4, zq5, zq6]
  refine wpAnyG_take (fun _ _ hS_ hb_ => ⟨hS_.1.gr hb_, hS_.2.1.gr hb_, hS_.2.2.1.gr hb_, hS_.2.2.2.1.gr hb_, hS_.2.2.2.2.1.gr hb_, hS_.2.2.2.2.2.1.gr hb_, hS_.2.2.2.2.2.2.1.gr hb_, hS_.2.2.2.2.2.2.2.1.gr hb_, hS_.2.2.2.2.2.2.2.2.1.gr hb_, hS_.2.2.2.2.2.2.2.2.2.gr hb_⟩) (i := 5) rfl (by kernel_rfl) (fun _ _ _ h => h) (pureG (by rfl) (by intro w; go_simp; first | done | with_reducible rfl)) ?_
  try simp only [Act.put, zq1, zq2, zq3, zq4, zq5, zq6]
  refine wpAnyG_take (fun _ _ hS_ hb_ => ⟨hS_.1.gr hb_, hS_.2.1.gr hb_, hS_.2.2.1.gr hb_, hS_.2.2.2.1.gr hb_, hS_.2.2.2.2.1.gr hb_, hS_.2.2.2.2.2.1.gr hb_, hS_.2.2.2.2.2.2.1.gr hb_, hS_.2.2.2.2.2.2.2.1.gr hb_, hS_.2.2.2.2.2.2.2.2.1.gr hb_, hS_.2.2.2.2.2.2.2.2.2.gr hb_⟩) (i := 6) rfl (by kernel_rfl) (fun _ _ _ h => h) (pureG (by rfl) (by intro w; go_simp; first | done | with_reducible rfl)) ?_
  try simp only [Act.put, zq1, zq2, zq3, zq4, zq5, zq6]
  refine wpAnyG_take (fun _ _ hS_ hb_ => ⟨hS_.1.gr hb_, hS_.2.1.gr hb_, hS_.2.2.1.gr hb_, hS_.2.2.2.1.gr hb_, hS_.2.2.2.2.1.gr hb_, hS_.2.2.2.2.2.1.gr hb_, hS_.2.2.2.2.2.2.1.gr hb_, hS_.2.2.2.2.2.2.2.1.gr hb_, hS_.2.2.2.2.2.2.2.2.1.gr hb_, hS_.2.2.2.2.2.2.2.2.2.gr hb_⟩) (i := 7) rfl (by kernel_rfl) (fun _ _ _ h => h) (loadG (by rfl) _ _ rfl _ _ rfl (pv ux uy iu) _ (fun _ hS_ => blk_all (hS_.2.2.1)) Try.underlying43 rfl (i43 L_ux.out L_uy.out)) ?_
  try simp only [Act.put, zq1, zq2, zq3, zq4, zq5, zq6]
  refine wpAnyG_take (fun _ _ hS_ hb_ => ⟨hS_.1.gr hb_, hS_.2.1.gr hb_, hS_.2.2.1.gr hb_, hS_.2.2.2.1.gr hb_, hS_.2.2.2.2.1.gr hb_, hS_.2.2.2.2.2.1.gr hb_, hS_.2.2.2.2.2.2.1.gr hb_, hS_.2.2.2.2.2.2.2.1.gr hb_, hS_.2.2.2.2.2.2.2.2.1.gr hb_, hS_.2.2.2.2.2.2.2.2.2.gr hb_⟩) (i := 8) rfl (by kernel_rfl) (fun _ _ _ h => h) (loadG (by rfl) _ _ rfl _ _ rfl (pv ux uy iu) _ (fun _ hS_ => blk_all (hS_.2.2.2.1)) Try.underlying43 rfl (i43 L_ux.out L_uy.out)) ?_
  try simp only [Act.put, zq1, zq2, zq3, zq4, zq5, zq6]
  refine wpAnyG_take (fun _ _ hS_ hb_ => ⟨hS_.1.gr hb_, hS_.2.1.gr hb_, hS_.2.2.1.gr hb_, hS_.2.2.2.1.gr hb_, hS_.2.2.2.2.1.gr hb_, hS_.2.2.2.2.2.1.gr hb_, hS_.2.2.2.2.2.2.1.gr hb_, hS_.2.2.2.2.2.2.2.1.gr hb_, hS_.2.2.2.2.2.2.2.2.1.gr hb_, hS_.2.2.2.2.2.2.2.2.2.gr hb_⟩) (i := 9) rfl (by kernel_rfl) (fun _ _ _ h => h) (pureG (by rfl) (by intro w; have q := QU.out; go_simp; first | done | with_reducible rfl)) ?_
  try simp only [Act.put, zq1, zq2, zq3, zq4, zq5, zq6]
  refine wpAnyG_take (fun _ _ hS_ hb_ => ⟨hS_.1.gr hb_, hS_.2.1.gr hb_, hS_.2.2.1.gr hb_, hS_.2.2.2.1.gr hb_, hS_.2.2.2.2.1.gr hb_, hS_.2.2.2.2.2.1.gr hb_, hS_.2.2.2.2.2.2.1.gr hb_, hS_.2.2.2.2.2.2.2.1.gr hb_, hS_.2.2.2.2.2.2.2.2.1.gr hb_, hS_.2.2.2.2.2.2.2.2.2.gr hb_⟩) (i := 10) rfl (by kernel_rfl) (fun _ _ _ h => h) (pureG (by rfl) (by intro w; go_simp; first | done | with_reducible rfl)) ?_
  try simp only [Act.put, zq1, zq2, zq3, zq4, zq5, zq6]
  refine wpAnyG_take (fun _ _ hS_ hb_ => ⟨hS_.1.gr hb_, hS_.2.1.gr hb_, hS_.2.2.1.gr hb_, hS_.2.2.2.1.gr hb_, hS_.2.2.2.2.1.gr hb_, hS_.2.2.2.2.2.1.gr hb_, hS_.2.2.2.2.2.2.1.gr hb_, hS_.2.2.2.2.2.2.2.1.gr hb_, hS_.2.2.2.2.2.2.2.2.1.gr hb_, hS_.2.2.2.2.2.2.2.2.2.gr hb_⟩) (i := 11) rfl (by kernel_rfl) (fun _ _ _ h => h) (pureG (by rfl) (by intro w; go_simp; first | done | with_reducible rfl)) ?_
  try simp only [Act.put, zq1, zq2, zq3, zq4, zq5, zq6]
  refine wpAnyG_take (fun _ _ hS_ hb_ => ⟨hS_.1.gr hb_, hS_.2.1.gr hb_, hS_.2.2.1.gr hb_, hS_.2.2.2.1.gr hb_, hS_.2.2.2.2.1.gr hb_, hS_.2.2.2.2.2.1.gr hb_, hS_.2.2.2.2.2.2.1.gr hb_, hS_.2.2.2.2.2.2.2.1.gr hb_, hS_.2.2.2.2.2.2.2.2.1.gr hb_, hS_.2.2.2.2.2.2.2.2.2.gr hb_⟩) (i := 12) rfl (by kernel_rfl) (fun _ _ _ h => h) (loadG (by rfl) _ _ rfl _ _ rfl (pv (zeros 4) (zeros 4) true) _ (fun _ hS_ => blk_all (hS_.2.2.2.2.1)) Try.underlying43 rfl (i43 rfl rfl)) ?_
  try simp only [Act.put, zq1, zq2, zq3, zq4, zq5, zq6]
  refine wpAnyG_take (fun _ _ hS_ hb_ => ⟨hS_.1.gr hb_, hS_.2.1.gr hb_, hS_.2.2.1.gr hb_, hS_.2.2.2.1.gr hb_, hS_.2.2.2.2.1.gr hb_, hS_.2.2.2.2.2.1.gr hb_, hS_.2.2.2.2.2.2.1.gr hb_, hS_.2.2.2.2.2.2.2.1.gr hb_, hS_.2.2.2.2.2.2.2.2.1.gr hb_, hS_.2.2.2.2.2.2.2.2.2.gr hb_⟩) (i := 13) rfl (by kernel_rfl) (fun _ _ _ h => h) (callG (by rfl) rfl Try.func43 (by kernel_rfl) (by kernel_rfl) (#[]) (by simp [Act.eval]) (fun w _ => Hc13.out w)) ?_
  try simp only [Act.put, zq1, zq2, zq3, zq4, zq5, zq6]
  refine wpAnyG_take (fun _ _ hS_ hb_ => ⟨hS_.1.gr hb_, hS_.2.1.gr hb_, hS_.2.2.1.gr hb_, hS_.2.2.2.1.gr hb_, hS_.2.2.2.2.1.gr hb_, hS_.2.2.2.2.2.1.gr hb_, hS_.2.2.2.2.2.2.1.gr hb_, hS_.2.2.2.2.2.2.2.1.gr hb_, hS_.2.2.2.2.2.2.2.2.1.gr hb_, hS_.2.2.2.2.2.2.2.2.2.gr hb_⟩) (i := 14) rfl (by kernel_rfl) (fun _ _ _ h => h) (pureG (by rfl) (by intro w; have q := QI.out; go_simp; first | done | with_reducible rfl)) ?_
  try simp only [Act.put, zq1, zq2, zq3, zq4, zq5, zq6]
  refine wpAnyG_take (fun _ _ hS_ hb_ => ⟨hS_.1.gr hb_, hS_.2.1.gr hb_, hS_.2.2.1.gr hb_, hS_.2.2.2.1.gr hb_, hS_.2.2.2.2.1.gr hb_, hS_.2.2.2.2.2.1.gr hb_, hS_.2.2.2.2.2.2.1.gr hb_, hS_.2.2.2.2.2.2.2.1.gr hb_, hS_.2.2.2.2.2.2.2.2.1.gr hb_, hS_.2.2.2.2.2.2.2.2.2.gr hb_⟩) (i := 15) rfl (by kernel_rfl) (fun _ _ _ h => h) (pureG (by rfl) (by intro w; go_simp; first | done | with_reducible rfl)) ?_
  try simp only [Act.put, zq1, zq2, zq3, zq4, zq5, zq6]
  refine wpAnyG_take (fun _ _ hS_ hb_ => ⟨hS_.1.gr hb_, hS_.2.1.gr hb_, hS_.2.2.1.gr hb_, hS_.2.2.2.1.gr hb_, hS_.2.2.2.2.1.gr hb_, hS_.2.2.2.2.2.1.gr hb_, hS_.2.2.2.2.2.2.1.gr hb_, hS_.2.2.2.2.2.2.2.1.gr hb_, hS_.2.2.2.2.2.2.2.2.1.gr hb_, hS_.2.2.2.2.2.2.2.2.2.gr hb_⟩) (i := 16) rfl (by kernel_rfl) (fun _ _ _ h => h) (pureG (by rfl) (by intro w; go_simp; first | done | with_reducible rfl)) ?_
  try simp only [Act.put, zq1, zq2, zq3, zq4, zq5, zq6]
  refine wpAnyG_take (fun _ _ hS_ hb_ => ⟨hS_.1.gr hb_, hS_.2.1.gr hb_, hS_.2.2.1.gr hb_, hS_.2.2.2.1.gr hb_, hS_.2.2.2.2.1.gr hb_, hS_.2.2.2.2.2.1.gr hb_, hS_.2.2.2.2.2.2.1.gr hb_, hS_.2.2.2.2.2.2.2.1.gr hb_, hS_.2.2.2.2.2.2.2.2.1.gr hb_, hS_.2.2.2.2.2.2.2.2.2.gr hb_⟩) (i := 17) rfl (by kernel_rfl) (fun _ _ _ h => h) (loadG (by rfl) _ _ rfl _ _ rfl (pv px py ip) _ (fun _ hS_ => blk_all (hS_.2.2.2.2.2.1)) Try.underlying43 rfl (i43 L_px.out L_py.out)) ?_
  try simp only [Act.put, zq1, zq2, zq3, zq4, zq5, zq6]
  refine wpAnyG_take (fun _ _ hS_ hb_ => ⟨hS_.1.gr hb_, hS_.2.1.gr hb_, hS_.2.2.1.gr hb_, hS_.2.2.2.1.gr hb_, hS_.2.2.2.2.1.gr hb_, hS_.2.2.2.2.2.1.gr hb_, hS_.2.2.2.2.2.2.1.gr hb_, hS_.2.2.2.2.2.2.2.1.gr hb_, hS_.2.2.2.2.2.2.2.2.1.gr hb_, hS_.2.2.2.2.2.2.2.2.2.gr hb_⟩) (i := 18) rfl (by kernel_rfl) (fun _ _ _ h => h) (loadG (by rfl) _ _ rfl _ _ rfl (pv px py ip) _ (fun _ hS_ => blk_all (hS_.2.2.2.2.2.2.1)) Try.underlying43 rfl (i43 L_px.out L_py.out)) ?_
  try simp only [Act.put, zq1, zq2, zq3, zq4, zq5, zq6]
  refine wpAnyG_take (fun _ _ hS_ hb_ => ⟨hS_.1.gr hb_, hS_.2.1.gr hb_, hS_.2.2.1.gr hb_, hS_.2.2.2.1.gr hb_, hS_.2.2.2.2.1.gr hb_, hS_.2.2.2.2.2.1.gr hb_, hS_.2.2.2.2.2.2.1.gr hb_, hS_.2.2.2.2.2.2.2.1.gr hb_, hS_.2.2.2.2.2.2.2.2.1.gr hb_, hS_.2.2.2.2.2.2.2.2.2.gr hb_⟩) (i := 19) rfl (by kernel_rfl) (fun _ _ _ h => h) (pureG (by rfl) (by intro w; have q := QP.out; go_simp; first | done | with_reducible rfl)) ?_
  try simp only [Act.put, zq1, zq2, zq3, zq4, zq5, zq6]
  refine wpAnyG_take (fun _ _ hS_ hb_ => ⟨hS_.1.gr hb_, hS_.2.1.gr hb_, hS_.2.2.1.gr hb_, hS_.2.2.2.1.gr hb_, hS_.2.2.2.2.1.gr hb_, hS_.2.2.2.2.2.1.gr hb_, hS_.2.2.2.2.2.2.1.gr hb_, hS_.2.2.2.2.2.2.2.1.gr hb_, hS_.2.2.2.2.2.2.2.2.1.gr hb_, hS_.2.2.2.2.2.2.2.2.2.gr hb_⟩) (i := 20) rfl (by kernel_rfl) (fun _ _ _ h => h) (pureG (by rfl) (by intro w; go_simp; first | done | with_reducible rfl)) ?_
  try simp only [Act.put, zq1, zq2, zq3, zq4, zq5, zq6]
  refine wpAnyG_take (fun _ _ hS_ hb_ => ⟨hS_.1.gr hb_, hS_.2.1.gr hb_, hS_.2.2.1.gr hb_, hS_.2.2.2.1.gr hb_, hS_.2.2.2.2.1.gr hb_, hS_.2.2.2.2.2.1.gr hb_, hS_.2.2.2.2.2.2.1.gr hb_, hS_.2.2.2.2.2.2.2.1.gr hb_, hS_.2.2.2.2.2.2.2.2.1.gr hb_, hS_.2.2.2.2.2.2.2.2.2.gr hb_⟩) (i := 21) rfl (by kernel_rfl) (fun _ _ _ h => h) (pureG (by rfl) (by intro w; go_simp; first | done | with_reducible rfl)) ?_
  try simp only [Act.put, zq1, zq2, zq3, zq4, zq5, zq6]
  refine wpAnyG_take (fun _ _ hS_ hb_ => ⟨hS_.1.gr hb_, hS_.2.1.gr hb_, hS_.2.2.1.gr hb_, hS_.2.2.2.1.gr hb_, hS_.2.2.2.2.1.gr hb_, hS_.2.2.2.2.2.1.gr hb_, hS_.2.2.2.2.2.2.1.gr hb_, hS_.2.2.2.2.2.2.2.1.gr hb_, hS_.2.2.2.2.2.2.2.2.1.gr hb_, hS_.2.2.2.2.2.2.2.2.2.gr hb_⟩) (i := 22) rfl (by kernel_rfl) (fun _ _ _ h => h) (loadG (by rfl) _ _ rfl _ _ rfl (pv (zeros 4) (zeros 4) true) _ (fun _ hS_ => blk_all (hS_.2.2.2.2.2.2.2.1)) Try.underlying43 rfl (i43 rfl rfl)) ?_
  try simp only [Act.put, zq1, zq2, zq3, zq4, zq5, zq6]
  refine wpAnyG_take (fun _ _ hS_ hb_ => ⟨hS_.1.gr hb_, hS_.2.1.gr hb_, hS_.2.2.1.gr hb_, hS_.2.2.2.1.gr hb_, hS_.2.2.2.2.1.gr hb_, hS_.2.2.2.2.2.1.gr hb_, hS_.2.2.2.2.2.2.1.gr hb_, hS_.2.2.2.2.2.2.2.1.gr hb_, hS_.2.2.2.2.2.2.2.2.1.gr hb_, hS_.2.2.2.2.2.2.2.2.2.gr hb_⟩) (i := 23) rfl (by kernel_rfl) (fun _ _ _ h => h) (callG (by rfl) rfl Try.func43 (by kernel_rfl) (by kernel_rfl) (#[]) (by simp [Act.eval]) (fun w _ => Hc13.out w)) ?_
  try simp only [Act.put, zq1, zq2, zq3, zq4, zq5, zq6]
  refine wpAnyG_take (fun _ _ hS_ hb_ => ⟨hS_.1.gr hb_, hS_.2.1.gr hb_, hS_.2.2.1.gr hb_, hS_.2.2.2.1.gr hb_, hS_.2.2.2.2.1.gr hb_, hS_.2.2.2.2.2.1.gr hb_, hS_.2.2.2.2.2.2.1.gr hb_, hS_.2.2.2.2.2.2.2.1.gr hb_, hS_.2.2.2.2.2.2.2.2.1.gr hb_, hS_.2.2.2.2.2.2.2.2.2.gr hb_⟩) (i := 24) rfl (by kernel_rfl) (fun _ _ _ h => h) (pureG (by rfl) (by intro w; have q := QI.out; go_simp; first | done | with_reducible rfl)) ?_
  try simp only [Act.put, zq1, zq2, zq3, zq4, zq5, zq6]
  refine wpAnyG_take (fun _ _ hS_ hb_ => ⟨hS_.1.gr hb_, hS_.2.1.gr hb_, hS_.2.2.1.gr hb_, hS_.2.2.2.1.gr hb_, hS_.2.2.2.2.1.gr hb_, hS_.2.2.2.2.2.1.gr hb_, hS_.2.2.2.2.2.2.1.gr hb_, hS_.2.2.2.2.2.2.2.1.gr hb_, hS_.2.2.2.2.2.2.2.2.1.gr hb_, hS_.2.2.2.2.2.2.2.2.2.gr hb_⟩) (i := 25) rfl (by kernel_rfl) (fun _ _ _ h => h) (pureG (by rfl) (by intro w; go_simp; first | done | with_reducible rfl)) ?_
  try simp only [Act.put, zq1, zq2, zq3, zq4, zq5, zq6]
  refine wpAnyG_take (fun _ _ hS_ hb_ => ⟨hS_.1.gr hb_, hS_.2.1.gr hb_, hS_.2.2.1.gr hb_, hS_.2.2.2.1.gr hb_, hS_.2.2.2.2.1.gr hb_, hS_.2.2.2.2.2.1.gr hb_, hS_.2.2.2.2.2.2.1.gr hb_, hS_.2.2.2.2.2.2.2.1.gr hb_, hS_.2.2.2.2.2.2.2.2.1.gr hb_, hS_.2.2.2.2.2.2.2.2.2.gr hb_⟩) (i := 26) rfl (by kernel_rfl) (fun _ _ _ h => h) (pureG (by rfl) (by intro w; go_simp; first | done | with_reducible rfl)) ?_
  try simp only [Act.put, zq1, zq2, zq3, zq4, zq5, zq6]
  refine wpAnyG_take (fun _ _ hS_ hb_ => ⟨hS_.1.gr hb_, hS_.2.1.gr hb_, hS_.2.2.1.gr hb_, hS_.2.2.2.1.gr hb_, hS_.2.2.2.2.1.gr hb_, hS_.2.2.2.2.2.1.gr hb_, hS_.2.2.2.2.2.2.1.gr hb_, hS_.2.2.2.2.2.2.2.1.gr hb_, hS_.2.2.2.2.2.2.2.2.1.gr hb_, hS_.2.2.2.2.2.2.2.2.2.gr hb_⟩) (i := 27) rfl (by kernel_rfl) (fun _ _ _ h => h) (loadG (by rfl) _ _ rfl _ _ rfl (pv sx sy is_) _ (fun _ hS_ => blk_all (hS_.2.2.2.2.2.2.2.2.1)) Try.underlying43 rfl (i43 L_sx.out L_sy.out)) ?_
  try simp only [Act.put, zq1, zq2, zq3, zq4, zq5, zq6]
  refine wpAnyG_take (fun _ _ hS_ hb_ => ⟨hS_.1.gr hb_, hS_.2.1.gr hb_, hS_.2.2.1.gr hb_, hS_.2.2.2.1.gr hb_, hS_.2.2.2.2.1.gr hb_, hS_.2.2.2.2.2.1.gr hb_, hS_.2.2.2.2.2.2.1.gr hb_, hS_.2.2.2.2.2.2.2.1.gr hb_, hS_.2.2.2.2.2.2.2.2.1.gr hb_, hS_.2.2.2.2.2.2.2.2.2.gr hb_⟩) (i := 28) rfl (by kernel_rfl) (fun _ _ _ h => h) (loadG (by rfl) _ _ rfl _ _ rfl (pv sx sy is_) _ (fun _ hS_ => blk_all (hS_.1)) Try.underlying43 rfl (i43 L_sx.out L_sy.out)) ?_
  try simp only [Act.put, zq1, zq2, zq3, zq4, zq5, zq6]
  refine wpAnyG_take (fun _ _ hS_ hb_ => ⟨hS_.1.gr hb_, hS_.2.1.gr hb_, hS_.2.2.1.gr hb_, hS_.2.2.2.1.gr hb_, hS_.2.2.2.2.1.gr hb_, hS_.2.2.2.2.2.1.gr hb_, hS_.2.2.2.2.2.2.1.gr hb_, hS_.2.2.2.2.2.2.2.1.gr hb_, hS_.2.2.2.2.2.2.2.2.1.gr hb_, hS_.2.2.2.2.2.2.2.2.2.gr hb_⟩) (i := 29) rfl (by kernel_rfl) (fun _ _ _ h => h) (pureG (by rfl) (by intro w; have q := QS.out; go_simp; first | done | with_reducible rfl)) ?_
  try simp only [Act.put, zq1, zq2, zq3, zq4, zq5, zq6]
  refine wpAnyG_take (fun _ _ hS_ hb_ => ⟨hS_.1.gr hb_, hS_.2.1.gr hb_, hS_.2.2.1.gr hb_, hS_.2.2.2.1.gr hb_, hS_.2.2.2.2.1.gr hb_, hS_.2.2.2.2.2.1.gr hb_, hS_.2.2.2.2.2.2.1.gr hb_, hS_.2.2.2.2.2.2.2.1.gr hb_, hS_.2.2.2.2.2.2.2.2.1.gr hb_, hS_.2.2.2.2.2.2.2.2.2.gr hb_⟩) (i := 30) rfl (by kernel_rfl) (fun _ _ _ h => h) (pureG (by rfl) (by intro w; go_simp; first | done | with_reducible rfl)) ?_
  try simp only [Act.put, zq1, zq2, zq3, zq4, zq5, zq6]
  refine wpAnyG_take (fun _ _ hS_ hb_ => ⟨hS_.1.gr hb_, hS_.2.1.gr hb_, hS_.2.2.1.gr hb_, hS_.2.2.2.1.gr hb_, hS_.2.2.2.2.1.gr hb_, hS_.2.2.2.2.2.1.gr hb_, hS_.2.2.2.2.2.2.1.gr hb_, hS_.2.2.2.2.2.2.2.1.gr hb_, hS_.2.2.2.2.2.2.2.2.1.gr hb_, hS_.2.2.2.2.2.2.2.2.2.gr hb_⟩) (i := 31) rfl (by kernel_rfl) (fun _ _ _ h => h) (pureG (by rfl) (by intro w; go_simp; first | done | with_reducible rfl)) ?_
  try simp only [Act.put, zq1, zq2, zq3, zq4, zq5, zq6]
  refine wpAnyG_take (fun _ _ hS_ hb_ => ⟨hS_.1.gr hb_, hS_.2.1.gr hb_, hS_.2.2.1.gr hb_, hS_.2.2.2.1.gr hb_, hS_.2.2.2.2.1.gr hb_, hS_.2.2.2.2.2.1.gr hb_, hS_.2.2.2.2.2.2.1.gr hb_, hS_.2.2.2.2.2.2.2.1.gr hb_, hS_.2.2.2.2.2.2.2.2.1.gr hb_, hS_.2.2.2.2.2.2.2.2.2.gr hb_⟩) (i := 32) rfl (by kernel_rfl) (fun _ _ _ h => h) (loadG (by rfl) _ _ rfl _ _ rfl (pv sx sy is_) _ (fun _ hS_ => blk_all (hS_.2.2.2.2.2.2.2.2.2)) Try.underlying43 rfl (i43 L_sx.out L_sy.out)) ?_
  try simp only [Act.put, zq1, zq2, zq3, zq4, zq5, zq6]
  refine wpAnyG_take (fun _ _ hS_ hb_ => ⟨hS_.1.gr hb_, hS_.2.1.gr hb_, hS_.2.2.1.gr hb_, hS_.2.2.2.1.gr hb_, hS_.2.2.2.2.1.gr hb_, hS_.2.2.2.2.2.1.gr hb_, hS_.2.2.2.2.2.2.1.gr hb_, hS_.2.2.2.2.2.2.2.1.gr hb_, hS_.2.2.2.2.2.2.2.2.1.gr hb_, hS_.2.2.2.2.2.2.2.2.2.gr hb_⟩) (i := 33) rfl (by kernel_rfl) (fun _ _ _ h => h) (loadG (by rfl) _ _ rfl _ _ rfl (pv sx sy is_) _ (fun _ hS_ => blk_all (hS_.1)) Try.underlying43 rfl (i43 L_sx.out L_sy.out)) ?_
  try simp only [Act.put, zq1, zq2, zq3, zq4, zq5, zq6]
  refine wpAnyG_take (fun _ _ hS_ hb_ => ⟨hS_.1.gr hb_, hS_.2.1.gr hb_, hS_.2.2.1.gr hb_, hS_.2.2.2.1.gr hb_, hS_.2.2.2.2.1.gr hb_, hS_.2.2.2.2.2.1.gr hb_, hS_.2.2.2.2.2.2.1.gr hb_, hS_.2.2.2.2.2.2.2.1.gr hb_, hS_.2.2.2.2.2.2.2.2.1.gr hb_, hS_.2.2.2.2.2.2.2.2.2.gr hb_⟩) (i := 34) rfl (by kernel_rfl) (fun _ _ _ h => h) (pureG (by rfl) (by intro w; have q := QS.out; go_simp; first | done | with_reducible rfl)) ?_
  try simp only [Act.put, zq1, zq2, zq3, zq4, zq5, zq6]
  refine wpAnyG_take (fun _ _ hS_ hb_ => ⟨hS_.1.gr hb_, hS_.2.1.gr hb_, hS_.2.2.1.gr hb_, hS_.2.2.2.1.gr hb_, hS_.2.2.2.2.1.gr hb_, hS_.2.2.2.2.2.1.gr hb_, hS_.2.2.2.2.2.2.1.gr hb_, hS_.2.2.2.2.2.2.2.1.gr hb_, hS_.2.2.2.2.2.2.2.2.1.gr hb_, hS_.2.2.2.2.2.2.2.2.2.gr hb_⟩) (i := 35) rfl (by kernel_rfl) (fun _ _ _ h => h) (pureG (by rfl) (by intro w; go_simp; first | done | with_reducible rfl)) ?_
  try simp only [Act.put, zq1, zq2, zq3, zq4, zq5, zq6]
  refine wpAnyG_take (fun _ _ hS_ hb_ => ⟨hS_.1.gr hb_, hS_.2.1.gr hb_, hS_.2.2.1.gr hb_, hS_.2.2.2.1.gr hb_, hS_.2.2.2.2.1.gr hb_, hS_.2.2.2.2.2.1.gr hb_, hS_.2.2.2.2.2.2.1.gr hb_, hS_.2.2.2.2.2.2.2.1.gr hb_, hS_.2.2.2.2.2.2.2.2.1.gr hb_, hS_.2.2.2.2.2.2.2.2.2.gr hb_⟩) (i := 36) rfl (by kernel_rfl) (fun _ _ _ h => h) (pureG (by rfl) (by intro w; go_simp; first | done | with_reducible rfl)) ?_
  try simp only [Act.put, zq1, zq2, zq3, zq4, zq5, zq6]
  refine wpAnyG_take (fun _ _ hS_ hb_ => ⟨hS_.1.gr hb_, hS_.2.1.gr hb_, hS_.2.2.1.gr hb_, hS_.2.2.2.1.gr hb_, hS_.2.2.2.2.1.gr hb_, hS_.2.2.2.2.2.1.gr hb_, hS_.2.2.2.2.2.2.1.gr hb_, hS_.2.2.2.2.2.2.2.1.gr hb_, hS_.2.2.2.2.2.2.2.2.1.gr hb_, hS_.2.2.2.2.2.2.2.2.2.gr hb_⟩) (i := 37) rfl (by kernel_rfl) (fun _ _ _ h => h) (pureG (by rfl) (by intro w; go_simp; first | done | with_reducible rfl)) ?_
  try simp only [Act.put, zq1, zq2, zq3, zq4, zq5, zq6]
  refine wpAnyG_take (fun _ _ hS_ hb_ => ⟨hS_.1.gr hb_, hS_.2.1.gr hb_, hS_.2.2.1.gr hb_, hS_.2.2.2.1.gr hb_, hS_.2.2.2.2.1.gr hb_, hS_.2.2.2.2.2.1.gr hb_, hS_.2.2.2.2.2.2.1.gr hb_, hS_.2.2.2.2.2.2.2.1.gr hb_, hS_.2.2.2.2.2.2.2.2.1.gr hb_, hS_.2.2.2.2.2.2.2.2.2.gr hb_⟩) (i := 38) rfl (by kernel_rfl) (fun _ _ _ h => h) (pureG (by rfl) (by intro w; go_simp; first | done | with_reducible rfl)) ?_
  try simp only [Act.put, zq1, zq2, zq3, zq4, zq5, zq6]
  refine wpAnyG_take (fun _ _ hS_ hb_ => ⟨hS_.1.gr hb_, hS_.2.1.gr hb_, hS_.2.2.1.gr hb_, hS_.2.2.2.1.gr hb_, hS_.2.2.2.2.1.gr hb_, hS_.2.2.2.2.2.1.gr hb_, hS_.2.2.2.2.2.2.1.gr hb_, hS_.2.2.2.2.2.2.2.1.gr hb_, hS_.2.2.2.2.2.2.2.2.1.gr hb_, hS_.2.2.2.2.2.2.2.2.2.gr hb_⟩) (i := 39) rfl (by kernel_rfl) (fun _ _ _ h => h) (pureG (by rfl) (by intro w; go_simp; first | done | with_reducible rfl)) ?_
  try simp only [Act.put, zq1, zq2, zq3, zq4, zq5, zq6]
  refine wpAnyG_take (fun _ _ hS_ hb_ => ⟨hS_.1.gr hb_, hS_.2.1.gr hb_, hS_.2.2.1.gr hb_, hS_.2.2.2.1.gr hb_, hS_.2.2.2.2.1.gr hb_, hS_.2.2.2.2.2.1.gr hb_, hS_.2.2.2.2.2.2.1.gr hb_, hS_.2.2.2.2.2.2.2.1.gr hb_, hS_.2.2.2.2.2.2.2.2.1.gr hb_, hS_.2.2.2.2.2.2.2.2.2.gr hb_⟩) (i := 40) rfl (by kernel_rfl) (fun _ _ _ h => h) (pureG (by rfl) (by intro w; go_simp; first | done | with_reducible rfl)) ?_
  try simp only [Act.put, zq1, zq2, zq3, zq4, zq5, zq6]
  refine wpAnyG_done (by kernel_rfl) ?_ _
  intro w596 hgw596
  try simp only [Act.put, zq1, zq2, zq3, zq4, zq5, zq6]
  have E597 := Lib.hid (C576.out.drew.gr hgw596)
  clear C576
  have E598 := Lib.hid (C577.out.drew.gr hgw596)
  clear C577
  have E599 := Lib.hid (C578.out.drew.gr hgw596)
  clear C578
  have E600 := Lib.hid (C579.out.drew.gr hgw596)
  clear C579
  have E601 := Lib.hid (C580.out.drew.gr hgw596)
  clear C580
  have E602 := Lib.hid (C581.out.drew.gr hgw596)
  clear C581
  have E603 := Lib.hid (C582.out.drew.gr hgw596)
  clear C582
  have E604 := Lib.hid (C583.out.drew.gr hgw596)
  clear C583
  have E605 := Lib.hid (C584.out.drew.gr hgw596)
  clear C584
  have E606 := Lib.hid (C585.out.drew.gr hgw596)
  clear C585
  have E607 := Lib.hid (C586.out.drew.gr hgw596)
  clear C586
  have E608 := Lib.hid (C587.out.drew.gr hgw596)
  clear C587
  have E609 := Lib.hid (C588.out.drew.gr hgw596)
  clear C588
  have E610 := Lib.hid (C589.out.drew.gr hgw596)
  clear C589
  have E611 := Lib.hid (C590.out.drew.gr hgw596)
  clear C590
  have E612 := Lib.hid (C591.out.drew.gr hgw596)
  clear C591
  have E613 := Lib.hid (C592.out.drew.gr hgw596)
  clear C592
  have E614 := Lib.hid (C593.out.drew.gr hgw596)
  clear C593
  have E615 := Lib.hid (C594.out.drew.gr hgw596)
  clear C594
  have hbel616 := hbel595.drew.trans (Below.mono hgw596 hbel595.drew.size)
  clear hbel595
  clear hgw596
  as_aux_lemma =>
  go_wp2_with fail
  go_ret
  exact ⟨rfl, hbel616⟩
end Go.Proofs.Ytfffmoolkgheaaa
