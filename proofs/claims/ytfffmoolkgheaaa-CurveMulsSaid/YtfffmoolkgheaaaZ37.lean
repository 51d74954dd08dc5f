/- Parts of proofs of statements, each text behind those that it stands on. No condition of its own. -/
import Derived.Test.YtfffmoolkgheaaaZ16
import Derived.Test.YtfffmoolkgheaaaZ26
namespace Go.Proofs.Ytfffmoolkgheaaa
open Go.RowKit
set_option linter.unusedVariables false
set_option linter.unusedSimpArgs false
set_option maxRecDepth 100000 in
set_option maxHeartbeats 6400000 in
theorem dsum_e {lx ly lz mx my mz ya yb xa xb zz up dn dd u2 u3 sx e1 x f1 f2 f3 g1 g2 uy ux uz : List Nat} (hlx : lx.length = 4) (hly : ly.length = 4) (hlz : lz.length = 4) (hmx : mx.length = 4) (hmy : my.length = 4) (hmz : mz.length = 4) (hya : ya.length = 4) (hyb : yb.length = 4) (hxa : xa.length = 4) (hxb : xb.length = 4) (hzz : zz.length = 4) (hup : up.length = 4) (hdn : dn.length = 4) (hdd : dd.length = 4) (hu2 : u2.length = 4) (hu3 : u3.length = 4) (hsx : sx.length = 4) (he1 : e1.length = 4) (hx : x.length = 4) (hf1 : f1.length = 4) (hf2 : f2.length = 4) (hf3 : f3.length = 4) (hg1 : g1.length = 4) (hg2 : g2.length = 4) (huy : uy.length = 4) (hux : ux.length = 4) (huz : uz.length = 4)
    (c1 : ∀ w, Calls Try.prog 87 #[.agg (natsV .u64 ly).toArray, .agg (natsV .u64 mz).toArray] w fun e w' => e = .returned (.agg (natsV .u64 ya).toArray) ∧ Below w.heap.size w w')
    (c2 : ∀ w, Calls Try.prog 87 #[.agg (natsV .u64 my).toArray, .agg (natsV .u64 lz).toArray] w fun e w' => e = .returned (.agg (natsV .u64 yb).toArray) ∧ Below w.heap.size w w')
    (c3 : ∀ w, Calls Try.prog 87 #[.agg (natsV .u64 lx).toArray, .agg (natsV .u64 mz).toArray] w fun e w' => e = .returned (.agg (natsV .u64 xa).toArray) ∧ Below w.heap.size w w')
    (c4 : ∀ w, Calls Try.prog 87 #[.agg (natsV .u64 mx).toArray, .agg (natsV .u64 lz).toArray] w fun e w' => e = .returned (.agg (natsV .u64 xb).toArray) ∧ Below w.heap.size w w')
    (c5 : ∀ w, Calls Try.prog 87 #[.agg (natsV .u64 lz).toArray, .agg (natsV .u64 mz).toArray] w fun e w' => e = .returned (.agg (natsV .u64 zz).toArray) ∧ Below w.heap.size w w')
    (c6 : ∀ w, Calls Try.prog 119 #[.agg (natsV .u64 yb).toArray, .agg (natsV .u64 ya).toArray] w fun e w' => e = .returned (.agg (natsV .u64 up).toArray) ∧ Below w.heap.size w w')
    (c7 : ∀ w, Calls Try.prog 119 #[.agg (natsV .u64 xb).toArray, .agg (natsV .u64 xa).toArray] w fun e w' => e = .returned (.agg (natsV .u64 dn).toArray) ∧ Below w.heap.size w w')
    (c8 : ∀ w, Calls Try.prog 87 #[.agg (natsV .u64 dn).toArray, .agg (natsV .u64 dn).toArray] w fun e w' => e = .returned (.agg (natsV .u64 dd).toArray) ∧ Below w.heap.size w w')
    (c9 : ∀ w, Calls Try.prog 87 #[.agg (natsV .u64 up).toArray, .agg (natsV .u64 up).toArray] w fun e w' => e = .returned (.agg (natsV .u64 u2).toArray) ∧ Below w.heap.size w w')
    (c10 : ∀ w, Calls Try.prog 87 #[.agg (natsV .u64 u2).toArray, .agg (natsV .u64 zz).toArray] w fun e w' => e = .returned (.agg (natsV .u64 u3).toArray) ∧ Below w.heap.size w w')
    (c11 : ∀ w, Calls Try.prog 120 #[.agg (natsV .u64 xa).toArray, .agg (natsV .u64 xb).toArray] w fun e w' => e = .returned (.agg (natsV .u64 sx).toArray) ∧ Below w.heap.size w w')
    (c12 : ∀ w, Calls Try.prog 87 #[.agg (natsV .u64 dd).toArray, .agg (natsV .u64 sx).toArray] w fun e w' => e = .returned (.agg (natsV .u64 e1).toArray) ∧ Below w.heap.size w w')
    (c13 : ∀ w, Calls Try.prog 119 #[.agg (natsV .u64 u3).toArray, .agg (natsV .u64 e1).toArray] w fun e w' => e = .returned (.agg (natsV .u64 x).toArray) ∧ Below w.heap.size w w')
    (c14 : ∀ w, Calls Try.prog 87 #[.agg (natsV .u64 xa).toArray, .agg (natsV .u64 dd).toArray] w fun e w' => e = .returned (.agg (natsV .u64 f1).toArray) ∧ Below w.heap.size w w')
    (c15 : ∀ w, Calls Try.prog 119 #[.agg (natsV .u64 f1).toArray, .agg (natsV .u64 x).toArray] w fun e w' => e = .returned (.agg (natsV .u64 f2).toArray) ∧ Below w.heap.size w w')
    (c16 : ∀ w, Calls Try.prog 87 #[.agg (natsV .u64 up).toArray, .agg (natsV .u64 f2).toArray] w fun e w' => e = .returned (.agg (natsV .u64 f3).toArray) ∧ Below w.heap.size w w')
    (c17 : ∀ w, Calls Try.prog 87 #[.agg (natsV .u64 dd).toArray, .agg (natsV .u64 dn).toArray] w fun e w' => e = .returned (.agg (natsV .u64 g1).toArray) ∧ Below w.heap.size w w')
    (c18 : ∀ w, Calls Try.prog 87 #[.agg (natsV .u64 ya).toArray, .agg (natsV .u64 g1).toArray] w fun e w' => e = .returned (.agg (natsV .u64 g2).toArray) ∧ Below w.heap.size w w')
    (c19 : ∀ w, Calls Try.prog 119 #[.agg (natsV .u64 f3).toArray, .agg (natsV .u64 g2).toArray] w fun e w' => e = .returned (.agg (natsV .u64 uy).toArray) ∧ Below w.heap.size w w')
    (c20 : ∀ w, Calls Try.prog 87 #[.agg (natsV .u64 x).toArray, .agg (natsV .u64 dn).toArray] w fun e w' => e = .returned (.agg (natsV .u64 ux).toArray) ∧ Below w.heap.size w w')
    (c21 : ∀ w, Calls Try.prog 87 #[.agg (natsV .u64 dd).toArray, .agg (natsV .u64 dn).toArray] w fun e w' => e = .returned (.agg (natsV .u64 g1).toArray) ∧ Below w.heap.size w w')
    (c22 : ∀ w, Calls Try.prog 87 #[.agg (natsV .u64 g1).toArray, .agg (natsV .u64 zz).toArray] w fun e w' => e = .returned (.agg (natsV .u64 uz).toArray) ∧ Below w.heap.size w w') (h1 : ¬ lz = zeros 4) (h2 : ¬ mz = zeros 4) (h3 : ¬ xa = xb) (w : World) :
    Calls Try.prog 86 #[.agg (tv lx ly lz).toArray, .agg (tv mx my mz).toArray] w fun e w' => e = .returned (.agg (tv ux uy uz).toArray) ∧ Below w.heap.size w w' := by
  have L_lx := Lib.hid hlx
  clear hlx
  have L_ly := Lib.hid hly
  clear hly
  have L_lz := Lib.hid hlz
  clear hlz
  have L_mx := Lib.hid hmx
  clear hmx
  have L_my := Lib.hid hmy
  clear hmy
  have L_mz := Lib.hid hmz
  clear hmz
  have L_ya := Lib.hid hya
  clear hya
  have L_yb := Lib.hid hyb
  clear hyb
  have L_xa := Lib.hid hxa
  clear hxa
  have L_xb := Lib.hid hxb
  clear hxb
  have L_zz := Lib.hid hzz
  clear hzz
  have L_up := Lib.hid hup
  clear hup
  have L_dn := Lib.hid hdn
  clear hdn
  have L_dd := Lib.hid hdd
  clear hdd
  have L_u2 := Lib.hid hu2
  clear hu2
  have L_u3 := Lib.hid hu3
  clear hu3
  have L_sx := Lib.hid hsx
  clear hsx
  have L_e1 := Lib.hid he1
  clear he1
  have L_x := Lib.hid hx
  clear hx
  have L_f1 := Lib.hid hf1
  clear hf1
  have L_f2 := Lib.hid hf2
  clear hf2
  have L_f3 := Lib.hid hf3
  clear hf3
  have L_g1 := Lib.hid hg1
  clear hg1
  have L_g2 := Lib.hid hg2
  clear hg2
  have L_uy := Lib.hid huy
  clear huy
  have L_ux := Lib.hid hux
  clear hux
  have L_uz := Lib.hid huz
  clear huz
  have Hc1 := Lib.hid c1
  clear c1
  have Hc2 := Lib.hid c2
  clear c2
  have Hc3 := Lib.hid c3
  clear c3
  have Hc4 := Lib.hid c4
  clear c4
  have Hc5 := Lib.hid c5
  clear c5
  have Hc6 := Lib.hid c6
  clear c6
  have Hc7 := Lib.hid c7
  clear c7
  have Hc8 := Lib.hid c8
  clear c8
  have Hc9 := Lib.hid c9
  clear c9
  have Hc10 := Lib.hid c10
  clear c10
  have Hc11 := Lib.hid c11
  clear c11
  have Hc12 := Lib.hid c12
  clear c12
  have Hc13 := Lib.hid c13
  clear c13
  have Hc14 := Lib.hid c14
  clear c14
  have Hc15 := Lib.hid c15
  clear c15
  have Hc16 := Lib.hid c16
  clear c16
  have Hc17 := Lib.hid c17
  clear c17
  have Hc18 := Lib.hid c18
  clear c18
  have Hc19 := Lib.hid c19
  clear c19
  have Hc20 := Lib.hid c20
  clear c20
  have Hc21 := Lib.hid c21
  clear c21
  have Hc22 := Lib.hid c22
  clear c22
  have Q1 := Lib.hid (fun w => (eql24 lz (zeros 4) L_lz.out (show (zeros 4).length = 4 from rfl) w).trans (by rw [decide_eq_false h1]))
  clear h1
  have Q2 := Lib.hid (fun w => (eql24 mz (zeros 4) L_mz.out (show (zeros 4).length = 4 from rfl) w).trans (by rw [decide_eq_false h2]))
  clear h2
  have Q3 := Lib.hid (fun w => (eql24 xa xb L_xa.out L_xb.out w).trans (by rw [decide_eq_false h3]))
  clear h3
  have B0_ := Lib.hid ((((Blk.new w  108 (tv lx ly lz)).alloc (.cells (tv mx my mz).toArray 108)).alloc (.cells (natsV .u64 (zeros 12)).toArray 108)).alloc (.cells (natsV .u64 (zeros 4)).toArray 24))
  have B1_ := Lib.hid (((Blk.new2 w (.cells (tv lx ly lz).toArray 108) 108 (tv mx my mz)).alloc (.cells (natsV .u64 (zeros 12)).toArray 108)).alloc (.cells (natsV .u64 (zeros 4)).toArray 24))
  have B2_ := Lib.hid ((Blk.new3 w (.cells (tv lx ly lz).toArray 108) (.cells (tv mx my mz).toArray 108) 108 (natsV .u64 (zeros 12))).alloc (.cells (natsV .u64 (zeros 4)).toArray 24))
  have B3_ := Lib.hid (Blk.new4 w (.cells (tv lx ly lz).toArray 108) (.cells (tv mx my mz).toArray 108) (.cells (natsV .u64 (zeros 12)).toArray 108) 24 (natsV .u64 (zeros 4)))
  have bel_ := (((((Below.refl w.heap.size w).alloc (Nat.le_refl _) (.cells (tv lx ly lz).toArray 108)).alloc (by simp) (.cells (tv mx my mz).toArray 108)).alloc (by simp; omega) (.cells (natsV .u64 (zeros 12)).toArray 108)).alloc (by simp; omega) (.cells (natsV .u64 (zeros 4)).toArray 24))
  go_enter Try.func86, Try.ntmps86
  have qf1 := Q1.out
  have qf2 := Q2.out
  go_wp2_with (first | (refine wpList_load_mid rfl 24 (.tmp 18) rfl w.heap.size 8 rfl (natsV .u64 lz) _ (tv_z (B0_.out) L_lx.out L_ly.out) Try.underlying24 rfl (i24 L_lz.out) ?_) | (refine wpList_load_mid rfl 24 (.tmp 5) rfl (w.heap.size + 1 + 1 + 1) 0 rfl (natsV .u64 (zeros 4)) _ (blk_all (B3_.out)) Try.underlying24 rfl (i24 (show (zeros 4).length = 4 from rfl)) ?_) | (refine wpList_load_mid rfl 24 (.tmp 23) rfl (w.heap.size + 1) 8 rfl (natsV .u64 mz) _ (tv_z (B1_.out) L_mx.out L_my.out) Try.underlying24 rfl (i24 L_mz.out) ?_) | (refine wpList_load_mid rfl 24 (.tmp 5) rfl (w.heap.size + 1 + 1 + 1) 0 rfl (natsV .u64 (zeros 4)) _ (blk_all (B3_.out)) Try.underlying24 rfl (i24 (show (zeros 4).length = 4 from rfl)) ?_) | (refine wpList_load_mid rfl 24 (.tmp 28) rfl w.heap.size 4 rfl (natsV .u64 ly) _ (tv_y (B0_.out) L_lx.out) Try.underlying24 rfl (i24 L_ly.out) ?_) | (refine wpList_load_mid rfl 24 (.tmp 30) rfl (w.heap.size + 1) 8 rfl (natsV .u64 mz) _ (tv_z (B1_.out) L_mx.out L_my.out) Try.underlying24 rfl (i24 L_mz.out) ?_))
  refine (Hc1.out _).mono ?_
  rintro e w1 ⟨rfl, hbw1⟩
  have C2 := Lib.hid (B0_.out.gr hbw1)
  clear B0_
  have C3 := Lib.hid (B1_.out.gr hbw1)
  clear B1_
  have C4 := Lib.hid (B2_.out.gr hbw1)
  clear B2_
  have C5 := Lib.hid (B3_.out.gr hbw1)
  clear B3_
  have hbel6 := bel_.trans (Below.mono hbw1 bel_.size)
  clear bel_
  clear hbw1
  go_wp2_with (first | (refine stB rfl 24 (.tmp 6) (.tmp 32) rfl w1.heap.size rfl (natsV .u64 ya) rfl 24 (natsV .u64 (zeros 4)) (Blk.new w1 24 (natsV .u64 (zeros 4))) (i24 L_ya.out) (lenEq (show (natsV .u64 (zeros 4)).length = 4 from rfl) (by rw [natsV_length, L_ya.out])) (natsV_one _ _) ?_; generalize hW : World.setRow _ _ _ = w7; obtain ⟨hgw7, hnw7⟩ := newfacts hW; clear hW; have C10 := Lib.hid (C2.out.gr hgw7); clear C2; have C11 := Lib.hid (C3.out.gr hgw7); clear C3; have C12 := Lib.hid (C4.out.gr hgw7); clear C4; have C13 := Lib.hid (C5.out.gr hgw7); clear C5; have hbel14 := hbel6.trans (Below.mono hgw7 hbel6.size); clear hbel6; have D9 := Lib.hid hnw7; have szw7 := hgw7.size; clear hnw7 hgw7 szw7; generalize w1.heap.size = G8 at *) | (refine wpList_load_mid rfl 24 (.tmp 33) rfl (w.heap.size + 1) 4 rfl (natsV .u64 my) _ (tv_y (C11.out) L_mx.out) Try.underlying24 rfl (i24 L_my.out) ?_) | (refine wpList_load_mid rfl 24 (.tmp 35) rfl w.heap.size 8 rfl (natsV .u64 lz) _ (tv_z (C10.out) L_lx.out L_ly.out) Try.underlying24 rfl (i24 L_lz.out) ?_))
  refine (Hc2.out _).mono ?_
  rintro e w15 ⟨rfl, hbw15⟩
  have C16 := Lib.hid (C10.out.gr hbw15)
  clear C10
  have C17 := Lib.hid (C11.out.gr hbw15)
  clear C11
  have C18 := Lib.hid (C12.out.gr hbw15)
  clear C12
  have C19 := Lib.hid (C13.out.gr hbw15)
  clear C13
  have C20 := Lib.hid (D9.out.gr hbw15)
  clear D9
  have hbel21 := hbel14.trans (Below.mono hbw15 hbel14.size)
  clear hbel14
  clear hbw15
  go_wp2_with (first | (refine stB rfl 24 (.tmp 7) (.tmp 37) rfl w15.heap.size rfl (natsV .u64 yb) rfl 24 (natsV .u64 (zeros 4)) (Blk.new w15 24 (natsV .u64 (zeros 4))) (i24 L_yb.out) (lenEq (show (natsV .u64 (zeros 4)).length = 4 from rfl) (by rw [natsV_length, L_yb.out])) (natsV_one _ _) ?_; generalize hW : World.setRow _ _ _ = w22; obtain ⟨hgw22, hnw22⟩ := newfacts hW; clear hW; have C25 := Lib.hid (C16.out.gr hgw22); clear C16; have C26 := Lib.hid (C17.out.gr hgw22); clear C17; have C27 := Lib.hid (C18.out.gr hgw22); clear C18; have C28 := Lib.hid (C19.out.gr hgw22); clear C19; have C29 := Lib.hid (C20.out.gr hgw22); clear C20; have hbel30 := hbel21.trans (Below.mono hgw22 hbel21.size); clear hbel21; have D24 := Lib.hid hnw22; have szw22 := hgw22.size; clear hnw22 hgw22 szw22; generalize w15.heap.size = G23 at *) | (refine wpList_load_mid rfl 24 (.tmp 38) rfl w.heap.size 0 rfl (natsV .u64 lx) _ (tv_x (C25.out)) Try.underlying24 rfl (i24 L_lx.out) ?_) | (refine wpList_load_mid rfl 24 (.tmp 40) rfl (w.heap.size + 1) 8 rfl (natsV .u64 mz) _ (tv_z (C26.out) L_mx.out L_my.out) Try.underlying24 rfl (i24 L_mz.out) ?_))
  refine (Hc3.out _).mono ?_
  rintro e w31 ⟨rfl, hbw31⟩
  have C32 := Lib.hid (C25.out.gr hbw31)
  clear C25
  have C33 := Lib.hid (C26.out.gr hbw31)
  clear C26
  have C34 := Lib.hid (C27.out.gr hbw31)
  clear C27
  have C35 := Lib.hid (C28.out.gr hbw31)
  clear C28
  have C36 := Lib.hid (C29.out.gr hbw31)
  clear C29
  have C37 := Lib.hid (D24.out.gr hbw31)
  clear D24
  have hbel38 := hbel30.trans (Below.mono hbw31 hbel30.size)
  clear hbel30
  clear hbw31
  go_wp2_with (first | (refine stB rfl 24 (.tmp 8) (.tmp 42) rfl w31.heap.size rfl (natsV .u64 xa) rfl 24 (natsV .u64 (zeros 4)) (Blk.new w31 24 (natsV .u64 (zeros 4))) (i24 L_xa.out) (lenEq (show (natsV .u64 (zeros 4)).length = 4 from rfl) (by rw [natsV_length, L_xa.out])) (natsV_one _ _) ?_; generalize hW : World.setRow _ _ _ = w39; obtain ⟨hgw39, hnw39⟩ := newfacts hW; clear hW; have C42 := Lib.hid (C32.out.gr hgw39); clear C32; have C43 := Lib.hid (C33.out.gr hgw39); clear C33; have C44 := Lib.hid (C34.out.gr hgw39); clear C34; have C45 := Lib.hid (C35.out.gr hgw39); clear C35; have C46 := Lib.hid (C36.out.gr hgw39); clear C36; have C47 := Lib.hid (C37.out.gr hgw39); clear C37; have hbel48 := hbel38.trans (Below.mono hgw39 hbel38.size); clear hbel38; have D41 := Lib.hid hnw39; have szw39 := hgw39.size; clear hnw39 hgw39 szw39; generalize w31.heap.size = G40 at *) | (refine wpList_load_mid rfl 24 (.tmp 43) rfl (w.heap.size + 1) 0 rfl (natsV .u64 mx) _ (tv_x (C43.out)) Try.underlying24 rfl (i24 L_mx.out) ?_) | (refine wpList_load_mid rfl 24 (.tmp 45) rfl w.heap.size 8 rfl (natsV .u64 lz) _ (tv_z (C42.out) L_lx.out L_ly.out) Try.underlying24 rfl (i24 L_lz.out) ?_))
  refine (Hc4.out _).mono ?_
  rintro e w49 ⟨rfl, hbw49⟩
  have C50 := Lib.hid (C42.out.gr hbw49)
  clear C42
  have C51 := Lib.hid (C43.out.gr hbw49)
  clear C43
  have C52 := Lib.hid (C44.out.gr hbw49)
  clear C44
  have C53 := Lib.hid (C45.out.gr hbw49)
  clear C45
  have C54 := Lib.hid (C46.out.gr hbw49)
  clear C46
  have C55 := Lib.hid (C47.out.gr hbw49)
  clear C47
  have C56 := Lib.hid (D41.out.gr hbw49)
  clear D41
  have hbel57 := hbel48.trans (Below.mono hbw49 hbel48.size)
  clear hbel48
  clear hbw49
  go_wp2_with (first | (refine stB rfl 24 (.tmp 9) (.tmp 47) rfl w49.heap.size rfl (natsV .u64 xb) rfl 24 (natsV .u64 (zeros 4)) (Blk.new w49 24 (natsV .u64 (zeros 4))) (i24 L_xb.out) (lenEq (show (natsV .u64 (zeros 4)).length = 4 from rfl) (by rw [natsV_length, L_xb.out])) (natsV_one _ _) ?_; generalize hW : World.setRow _ _ _ = w58; obtain ⟨hgw58, hnw58⟩ := newfacts hW; clear hW; have C61 := Lib.hid (C50.out.gr hgw58); clear C50; have C62 := Lib.hid (C51.out.gr hgw58); clear C51; have C63 := Lib.hid (C52.out.gr hgw58); clear C52; have C64 := Lib.hid (C53.out.gr hgw58); clear C53; have C65 := Lib.hid (C54.out.gr hgw58); clear C54; have C66 := Lib.hid (C55.out.gr hgw58); clear C55; have C67 := Lib.hid (C56.out.gr hgw58); clear C56; have hbel68 := hbel57.trans (Below.mono hgw58 hbel57.size); clear hbel57; have D60 := Lib.hid hnw58; have szw58 := hgw58.size; clear hnw58 hgw58 szw58; generalize w49.heap.size = G59 at *) | (refine wpList_load_mid rfl 24 (.tmp 48) rfl w.heap.size 8 rfl (natsV .u64 lz) _ (tv_z (C61.out) L_lx.out L_ly.out) Try.underlying24 rfl (i24 L_lz.out) ?_) | (refine wpList_load_mid rfl 24 (.tmp 50) rfl (w.heap.size + 1) 8 rfl (natsV .u64 mz) _ (tv_z (C62.out) L_mx.out L_my.out) Try.underlying24 rfl (i24 L_mz.out) ?_))
  refine (Hc5.out _).mono ?_
  rintro e w69 ⟨rfl, hbw69⟩
  have C70 := Lib.hid (C61.out.gr hbw69)
  clear C61
  have C71 := Lib.hid (C62.out.gr hbw69)
  clear C62
  have C72 := Lib.hid (C63.out.gr hbw69)
  clear C63
  have C73 := Lib.hid (C64.out.gr hbw69)
  clear C64
  have C74 := Lib.hid (C65.out.gr hbw69)
  clear C65
  have C75 := Lib.hid (C66.out.gr hbw69)
  clear C66
  have C76 := Lib.hid (C67.out.gr hbw69)
  clear C67
  have C77 := Lib.hid (D60.out.gr hbw69)
  clear D60
  have hbel78 := hbel68.trans (Below.mono hbw69 hbel68.size)
  clear hbel68
  clear hbw69
  go_wp2_with (first | (refine stB rfl 24 (.tmp 10) (.tmp 52) rfl w69.heap.size rfl (natsV .u64 zz) rfl 24 (natsV .u64 (zeros 4)) (Blk.new w69 24 (natsV .u64 (zeros 4))) (i24 L_zz.out) (lenEq (show (natsV .u64 (zeros 4)).length = 4 from rfl) (by rw [natsV_length, L_zz.out])) (natsV_one _ _) ?_; generalize hW : World.setRow _ _ _ = w79; obtain ⟨hgw79, hnw79⟩ := newfacts hW; clear hW; have C82 := Lib.hid (C70.out.gr hgw79); clear C70; have C83 := Lib.hid (C71.out.gr hgw79); clear C71; have C84 := Lib.hid (C72.out.gr hgw79); clear C72; have C85 := Lib.hid (C73.out.gr hgw79); clear C73; have C86 := Lib.hid (C74.out.gr hgw79); clear C74; have C87 := Lib.hid (C75.out.gr hgw79); clear C75; have C88 := Lib.hid (C76.out.gr hgw79); clear C76; have C89 := Lib.hid (C77.out.gr hgw79); clear C77; have hbel90 := hbel78.trans (Below.mono hgw79 hbel78.size); clear hbel78; have D81 := Lib.hid hnw79; have szw79 := hgw79.size; clear hnw79 hgw79 szw79; generalize w69.heap.size = G80 at *) | (refine wpList_load_mid rfl 24 (.tmp 7) rfl G23 0 rfl (natsV .u64 yb) _ (blk_all (C87.out)) Try.underlying24 rfl (i24 L_yb.out) ?_) | (refine wpList_load_mid rfl 24 (.tmp 6) rfl G8 0 rfl (natsV .u64 ya) _ (blk_all (C86.out)) Try.underlying24 rfl (i24 L_ya.out) ?_))
  refine (Hc6.out _).mono ?_
  rintro e w91 ⟨rfl, hbw91⟩
  have C92 := Lib.hid (C82.out.gr hbw91)
  clear C82
  have C93 := Lib.hid (C83.out.gr hbw91)
  clear C83
  have C94 := Lib.hid (C84.out.gr hbw91)
  clear C84
  have C95 := Lib.hid (C85.out.gr hbw91)
  clear C85
  have C96 := Lib.hid (C86.out.gr hbw91)
  clear C86
  have C97 := Lib.hid (C87.out.gr hbw91)
  clear C87
  have C98 := Lib.hid (C88.out.gr hbw91)
  clear C88
  have C99 := Lib.hid (C89.out.gr hbw91)
  clear C89
  have C100 := Lib.hid (D81.out.gr hbw91)
  clear D81
  have hbel101 := hbel90.trans (Below.mono hbw91 hbel90.size)
  clear hbel90
  clear hbw91
  go_wp2_with (first | (refine stB rfl 24 (.tmp 11) (.tmp 55) rfl w91.heap.size rfl (natsV .u64 up) rfl 24 (natsV .u64 (zeros 4)) (Blk.new w91 24 (natsV .u64 (zeros 4))) (i24 L_up.out) (lenEq (show (natsV .u64 (zeros 4)).length = 4 from rfl) (by rw [natsV_length, L_up.out])) (natsV_one _ _) ?_; generalize hW : World.setRow _ _ _ = w102; obtain ⟨hgw102, hnw102⟩ := newfacts hW; clear hW; have NE105 := Lib.hid (Nat.ne_of_lt (C92.out.lt)); have NE106 := Lib.hid (Nat.ne_of_lt (C93.out.lt)); have NE107 := Lib.hid (Nat.ne_of_lt (C94.out.lt)); have NE108 := Lib.hid (Nat.ne_of_lt (C95.out.lt)); have NE109 := Lib.hid (Nat.ne_of_lt (C96.out.lt)); have NE110 := Lib.hid (Nat.ne_of_lt (C97.out.lt)); have NE111 := Lib.hid (Nat.ne_of_lt (C98.out.lt)); have NE112 := Lib.hid (Nat.ne_of_lt (C99.out.lt)); have NE113 := Lib.hid (Nat.ne_of_lt (C100.out.lt)); have GE114 := Lib.hid hbel101.size; have C115 := Lib.hid (C92.out.gr hgw102); clear C92; have C116 := Lib.hid (C93.out.gr hgw102); clear C93; have C117 := Lib.hid (C94.out.gr hgw102); clear C94; have C118 := Lib.hid (C95.out.gr hgw102); clear C95; have C119 := Lib.hid (C96.out.gr hgw102); clear C96; have C120 := Lib.hid (C97.out.gr hgw102); clear C97; have C121 := Lib.hid (C98.out.gr hgw102); clear C98; have C122 := Lib.hid (C99.out.gr hgw102); clear C99; have C123 := Lib.hid (C100.out.gr hgw102); clear C100; have hbel124 := hbel101.trans (Below.mono hgw102 hbel101.size); clear hbel101; have D104 := Lib.hid hnw102; have szw102 := hgw102.size; clear hnw102 hgw102 szw102; generalize w91.heap.size = G103 at *) | (refine wpList_load_mid rfl 24 (.tmp 9) rfl G59 0 rfl (natsV .u64 xb) _ (blk_all (C122.out)) Try.underlying24 rfl (i24 L_xb.out) ?_) | (refine wpList_load_mid rfl 24 (.tmp 8) rfl G40 0 rfl (natsV .u64 xa) _ (blk_all (C121.out)) Try.underlying24 rfl (i24 L_xa.out) ?_))
  refine (Hc7.out _).mono ?_
  rintro e w125 ⟨rfl, hbw125⟩
  have C126 := Lib.hid (C115.out.gr hbw125)
  clear C115
  have C127 := Lib.hid (C116.out.gr hbw125)
  clear C116
  have C128 := Lib.hid (C117.out.gr hbw125)
  clear C117
  have C129 := Lib.hid (C118.out.gr hbw125)
  clear C118
  have C130 := Lib.hid (C119.out.gr hbw125)
  clear C119
  have C131 := Lib.hid (C120.out.gr hbw125)
  clear C120
  have C132 := Lib.hid (C121.out.gr hbw125)
  clear C121
  have C133 := Lib.hid (C122.out.gr hbw125)
  clear C122
  have C134 := Lib.hid (C123.out.gr hbw125)
  clear C123
  have C135 := Lib.hid (D104.out.gr hbw125)
  clear D104
  have hbel136 := hbel124.trans (Below.mono hbw125 hbel124.size)
  clear hbel124
  clear hbw125
  have qf3 := Q3.out
  go_wp2_with (first | (refine stB rfl 24 (.tmp 12) (.tmp 58) rfl w125.heap.size rfl (natsV .u64 dn) rfl 24 (natsV .u64 (zeros 4)) (Blk.new w125 24 (natsV .u64 (zeros 4))) (i24 L_dn.out) (lenEq (show (natsV .u64 (zeros 4)).length = 4 from rfl) (by rw [natsV_length, L_dn.out])) (natsV_one _ _) ?_; generalize hW : World.setRow _ _ _ = w137; obtain ⟨hgw137, hnw137⟩ := newfacts hW; clear hW; have NE140 := Lib.hid (Nat.ne_of_lt (C126.out.lt)); have NE141 := Lib.hid (Nat.ne_of_lt (C127.out.lt)); have NE142 := Lib.hid (Nat.ne_of_lt (C128.out.lt)); have NE143 := Lib.hid (Nat.ne_of_lt (C129.out.lt)); have NE144 := Lib.hid (Nat.ne_of_lt (C130.out.lt)); have NE145 := Lib.hid (Nat.ne_of_lt (C131.out.lt)); have NE146 := Lib.hid (Nat.ne_of_lt (C132.out.lt)); have NE147 := Lib.hid (Nat.ne_of_lt (C133.out.lt)); have NE148 := Lib.hid (Nat.ne_of_lt (C134.out.lt)); have NE149 := Lib.hid (Nat.ne_of_lt (C135.out.lt)); have GE150 := Lib.hid hbel136.size; have C151 := Lib.hid (C126.out.gr hgw137); clear C126; have C152 := Lib.hid (C127.out.gr hgw137); clear C127; have C153 := Lib.hid (C128.out.gr hgw137); clear C128; have C154 := Lib.hid (C129.out.gr hgw137); clear C129; have C155 := Lib.hid (C130.out.gr hgw137); clear C130; have C156 := Lib.hid (C131.out.gr hgw137); clear C131; have C157 := Lib.hid (C132.out.gr hgw137); clear C132; have C158 := Lib.hid (C133.out.gr hgw137); clear C133; have C159 := Lib.hid (C134.out.gr hgw137); clear C134; have C160 := Lib.hid (C135.out.gr hgw137); clear C135; have hbel161 := hbel136.trans (Below.mono hgw137 hbel136.size); clear hbel136; have D139 := Lib.hid hnw137; have szw137 := hgw137.size; clear hnw137 hgw137 szw137; generalize w125.heap.size = G138 at *) | (refine wpList_load_mid rfl 24 (.tmp 8) rfl G40 0 rfl (natsV .u64 xa) _ (blk_all (C157.out)) Try.underlying24 rfl (i24 L_xa.out) ?_) | (refine wpList_load_mid rfl 24 (.tmp 9) rfl G59 0 rfl (natsV .u64 xb) _ (blk_all (C158.out)) Try.underlying24 rfl (i24 L_xb.out) ?_) | (refine wpList_load_mid rfl 24 (.tmp 12) rfl G138 0 rfl (natsV .u64 dn) _ (blk_all (D139.out)) Try.underlying24 rfl (i24 L_dn.out) ?_) | (refine wpList_load_mid rfl 24 (.tmp 12) rfl G138 0 rfl (natsV .u64 dn) _ (blk_all (D139.out)) Try.underlying24 rfl (i24 L_dn.out) ?_))
  refine (Hc8.out _).mono ?_
  rintro e w162 ⟨rfl, hbw162⟩
  have C163 := Lib.hid (C151.out.gr hbw162)
  clear C151
  have C164 := Lib.hid (C152.out.gr hbw162)
  clear C152
  have C165 := Lib.hid (C153.out.gr hbw162)
  clear C153
  have C166 := Lib.hid (C154.out.gr hbw162)
  clear C154
  have C167 := Lib.hid (C155.out.gr hbw162)
  clear C155
  have C168 := Lib.hid (C156.out.gr hbw162)
  clear C156
  have C169 := Lib.hid (C157.out.gr hbw162)
  clear C157
  have C170 := Lib.hid (C158.out.gr hbw162)
  clear C158
  have C171 := Lib.hid (C159.out.gr hbw162)
  clear C159
  have C172 := Lib.hid (C160.out.gr hbw162)
  clear C160
  have C173 := Lib.hid (D139.out.gr hbw162)
  clear D139
  have hbel174 := hbel161.trans (Below.mono hbw162 hbel161.size)
  clear hbel161
  clear hbw162
  go_wp2_with (first | (refine stB rfl 24 (.tmp 14) (.tmp 87) rfl w162.heap.size rfl (natsV .u64 dd) rfl 24 (natsV .u64 (zeros 4)) (Blk.new w162 24 (natsV .u64 (zeros 4))) (i24 L_dd.out) (lenEq (show (natsV .u64 (zeros 4)).length = 4 from rfl) (by rw [natsV_length, L_dd.out])) (natsV_one _ _) ?_; generalize hW : World.setRow _ _ _ = w175; obtain ⟨hgw175, hnw175⟩ := newfacts hW; clear hW; have NE178 := Lib.hid (Nat.ne_of_lt (C172.out.lt)); have NE179 := Lib.hid (Nat.ne_of_lt (C173.out.lt)); have C180 := Lib.hid (C163.out.gr hgw175); clear C163; have C181 := Lib.hid (C164.out.gr hgw175); clear C164; have C182 := Lib.hid (C165.out.gr hgw175); clear C165; have C183 := Lib.hid (C166.out.gr hgw175); clear C166; have C184 := Lib.hid (C167.out.gr hgw175); clear C167; have C185 := Lib.hid (C168.out.gr hgw175); clear C168; have C186 := Lib.hid (C169.out.gr hgw175); clear C169; have C187 := Lib.hid (C170.out.gr hgw175); clear C170; have C188 := Lib.hid (C171.out.gr hgw175); clear C171; have C189 := Lib.hid (C172.out.gr hgw175); clear C172; have C190 := Lib.hid (C173.out.gr hgw175); clear C173; have hbel191 := hbel174.trans (Below.mono hgw175 hbel174.size); clear hbel174; have D177 := Lib.hid hnw175; have szw175 := hgw175.size; clear hnw175 hgw175 szw175; generalize w162.heap.size = G176 at *))
  as_aux_lemma =>
  refine wp_region_G (fun w_ => Blk w_ G103 24 (natsV .u64 up) ∧ Blk w_ G80 24 (natsV .u64 zz) ∧ Blk w_ G176 24 (natsV .u64 dd) ∧ Blk w_ G40 24 (natsV .u64 xa) ∧ Blk w_ G59 24 (natsV .u64 xb)) 12 (by kernel_rfl) ⟨C189.out.drew, C188.out.drew, D177.out.drew, C186.out.drew, C187.out.drew⟩ ?_
  refine wpAnyG_take (fun _ _ hS_ hb_ => ⟨hS_.1.gr hb_, hS_.2.1.gr hb_, hS_.2.2.1.gr hb_, hS_.2.2.2.1.gr hb_, hS_.2.2.2.2.gr hb_⟩) (i := 0) rfl (by kernel_rfl) (fun _ _ _ h => h) (loadG (by rfl) _ _ rfl _ _ rfl (natsV .u64 up) _ (fun _ hS_ => blk_all (hS_.1)) Try.underlying24 rfl (i24 L_up.out)) ?_
  try simp only [Act.put, zq1, zq2, zq3, zq4, zq5, zq6]
  refine wpAnyG_take (fun _ _ hS_ hb_ => ⟨hS_.1.gr hb_, hS_.2.1.gr hb_, hS_.2.2.1.gr hb_, hS_.2.2.2.1.gr hb_, hS_.2.2.2.2.gr hb_⟩) (i := 1) rfl (by kernel_rfl) (fun _ _ _ h => h) (loadG (by rfl) _ _ rfl _ _ rfl (natsV .u64 up) _ (fun _ hS_ => blk_all (hS_.1)) Try.underlying24 rfl (i24 L_up.out)) ?_
  try simp only [Act.put, zq1, zq2, zq3, zq4, zq5, zq6]
  refine wpAnyG_take (fun _ _ hS_ hb_ => ⟨hS_.1.gr hb_, hS_.2.1.gr hb_, hS_.2.2.1.gr hb_, hS_.2.2.2.1.gr hb_, hS_.2.2.2.2.gr hb_⟩) (i := 2) rfl (by kernel_rfl) (fun _ _ _ h => h) (callG (by rfl) rfl Try.func87 (by kernel_rfl) (by kernel_rfl) (#[.agg (natsV .u64 up).toArray, .agg (natsV .u64 up).toArray]) (by simp [Act.eval]) (fun w _ => Hc9.out w)) ?_
  try simp only [Act.put, zq1, zq2, zq3, zq4, zq5, zq6]
  refine wpAnyG_take (fun _ _ hS_ hb_ => ⟨hS_.1.gr hb_, hS_.2.1.gr hb_, hS_.2.2.1.gr hb_, hS_.2.2.2.1.gr hb_, hS_.2.2.2.2.gr hb_⟩) (i := 3) rfl (by kernel_rfl) (fun _ _ _ h => h) (loadG (by rfl) _ _ rfl _ _ rfl (natsV .u64 zz) _ (fun _ hS_ => blk_all (hS_.2.1)) Try.underlying24 rfl (i24 L_zz.out)) ?_
  try simp only [Act.put, zq1, zq2, zq3, zq4, zq5, zq6]
  refine wpAnyG_take (fun _ _ hS_ hb_ => ⟨hS_.1.gr hb_, hS_.2.1.gr hb_, hS_.2.2.1.gr hb_, hS_.2.2.2.1.gr hb_, hS_.2.2.2.2.gr hb_⟩) (i := 4) rfl (by kernel_rfl) (fun _ _ _ h => h) (callG (by rfl) rfl Try.func87 (by kernel_rfl) (by kernel_rfl) (#[.agg (natsV .u64 u2).toArray, .agg (natsV .u64 zz).toArray]) (by simp [Act.eval]) (fun w _ => Hc10.out w)) ?_
  try simp only [Act.put, zq1, zq2, zq3, zq4, zq5, zq6]
  refine wpAnyG_take (fun _ _ hS_ hb_ => ⟨hS_.1.gr hb_, hS_.2.1.gr hb_, hS_.2.2.1.gr hb_, hS_.2.2.2.1.gr hb_, hS_.2.2.2.2.gr hb_⟩) (i := 5) rfl (by kernel_rfl) (fun _ _ _ h => h) (loadG (by rfl) _ _ rfl _ _ rfl (natsV .u64 dd) _ (fun _ hS_ => blk_all (hS_.2.2.1)) Try.underlying24 rfl (i24 L_dd.out)) ?_
  try simp only [Act.put, zq1, zq2, zq3, zq4, zq5, zq6]
  refine wpAnyG_take (fun _ _ hS_ hb_ => ⟨hS_.1.gr hb_, hS_.2.1.gr hb_, hS_.2.2.1.gr hb_, hS_.2.2.2.1.gr hb_, hS_.2.2.2.2.gr hb_⟩) (i := 6) rfl (by kernel_rfl) (fun _ _ _ h => h) (loadG (by rfl) _ _ rfl _ _ rfl (natsV .u64 xa) _ (fun _ hS_ => blk_all (hS_.2.2.2.1)) Try.underlying24 rfl (i24 L_xa.out)) ?_
  try simp only [Act.put, zq1, zq2, zq3, zq4, zq5, zq6]
  refine wpAnyG_take (fun _ _ hS_ hb_ => ⟨hS_.1.gr hb_, hS_.2.1.gr hb_, hS_.2.2.1.gr hb_, hS_.2.2.2.1.gr hb_, hS_.2.2.2.2.gr hb_⟩) (i := 7) rfl (by kernel_rfl) (fun _ _ _ h => h) (loadG (by rfl) _ _ rfl _ _ rfl (natsV .u64 xb) _ (fun _ hS_ => blk_all (hS_.2.2.2.2)) Try.underlying24 rfl (i24 L_xb.out)) ?_
  try simp only [Act.put, zq1, zq2, zq3, zq4, zq5, zq6]
  refine wpAnyG_take (fun _ _ hS_ hb_ => ⟨hS_.1.gr hb_, hS_.2.1.gr hb_, hS_.2.2.1.gr hb_, hS_.2.2.2.1.gr hb_, hS_.2.2.2.2.gr hb_⟩) (i := 8) rfl (by kernel_rfl) (fun _ _ _ h => h) (callG (by rfl) rfl Try.func120 (by kernel_rfl) (by kernel_rfl) (#[.agg (natsV .u64 xa).toArray, .agg (natsV .u64 xb).toArray]) (by simp [Act.eval]) (fun w _ => Hc11.out w)) ?_
  try simp only [Act.put, zq1, zq2, zq3, zq4, zq5, zq6]
  refine wpAnyG_take (fun _ _ hS_ hb_ => ⟨hS_.1.gr hb_, hS_.2.1.gr hb_, hS_.2.2.1.gr hb_, hS_.2.2.2.1.gr hb_, hS_.2.2.2.2.gr hb_⟩) (i := 9) rfl (by kernel_rfl) (fun _ _ _ h => h) (callG (by rfl) rfl Try.func87 (by kernel_rfl) (by kernel_rfl) (#[.agg (natsV .u64 dd).toArray, .agg (natsV .u64 sx).toArray]) (by simp [Act.eval]) (fun w _ => Hc12.out w)) ?_
  try simp only [Act.put, zq1, zq2, zq3, zq4, zq5, zq6]
  refine wpAnyG_take (fun _ _ hS_ hb_ => ⟨hS_.1.gr hb_, hS_.2.1.gr hb_, hS_.2.2.1.gr hb_, hS_.2.2.2.1.gr hb_, hS_.2.2.2.2.gr hb_⟩) (i := 10) rfl (by kernel_rfl) (fun _ _ _ h => h) (callG (by rfl) rfl Try.func119 (by kernel_rfl) (by kernel_rfl) (#[.agg (natsV .u64 u3).toArray, .agg (natsV .u64 e1).toArray]) (by simp [Act.eval]) (fun w _ => Hc13.out w)) ?_
  try simp only [Act.put, zq1, zq2, zq3, zq4, zq5, zq6]
  refine wpAnyG_def (i := 11) (j := 12) (fun _ _ hS_ hb_ => ⟨hS_.1.gr hb_, hS_.2.1.gr hb_, hS_.2.2.1.gr hb_, hS_.2.2.2.1.gr hb_, hS_.2.2.2.2.gr hb_⟩) (by kernel_rfl) (by kernel_rfl) (by kernel_rfl) rfl rfl rfl (allocG (by rfl) rfl _ alloc24) (lenEq (show (natsV .u64 (zeros 4)).length = 4 from rfl) (by rw [natsV_length, L_x.out])) (fun _ => StoresG.mk (cs := (natsV .u64 x)) (by rfl) 24 _ _ rfl rfl rfl (i24 L_x.out) (natsV_one _ _)) ?_
  intro w192 G193 hgw192 hz_ hn_
  try simp only [Act.put, zq1, zq2, zq3, zq4, zq5, zq6]
  have NE194 := Lib.hid (Nat.ne_of_lt (Nat.lt_of_lt_of_le C189.out.drew.lt hz_))
  have NE195 := Lib.hid (Nat.ne_of_lt (Nat.lt_of_lt_of_le C190.out.drew.lt hz_))
  have E196 := Lib.hid (C180.out.drew.gr hgw192)
  clear C180
  have E197 := Lib.hid (C181.out.drew.gr hgw192)
  clear C181
  have E198 := Lib.hid (C182.out.drew.gr hgw192)
  clear C182
  have E199 := Lib.hid (C183.out.drew.gr hgw192)
  clear C183
  have E200 := Lib.hid (C184.out.drew.gr hgw192)
  clear C184
  have E201 := Lib.hid (C185.out.drew.gr hgw192)
  clear C185
  have E202 := Lib.hid (C186.out.drew.gr hgw192)
  clear C186
  have E203 := Lib.hid (C187.out.drew.gr hgw192)
  clear C187
  have E204 := Lib.hid (C188.out.drew.gr hgw192)
  clear C188
  have E205 := Lib.hid (C189.out.drew.gr hgw192)
  clear C189
  have E206 := Lib.hid (C190.out.drew.gr hgw192)
  clear C190
  have E207 := Lib.hid (D177.out.drew.gr hgw192)
  clear D177
  have hbel208 := hbel191.drew.trans (Below.mono hgw192 hbel191.drew.size)
  clear hbel191
  have D209 := Lib.hid hn_
  clear hn_ hz_ hgw192
  as_aux_lemma =>
  go_wp2_with fail
  as_aux_lemma =>
  refine wp_region_G (fun w_ => Blk w_ G103 24 (natsV .u64 up) ∧ Blk w_ G40 24 (natsV .u64 xa) ∧ Blk w_ G176 24 (natsV .u64 dd) ∧ Blk w_ G193 24 (natsV .u64 x) ∧ Blk w_ G8 24 (natsV .u64 ya) ∧ Blk w_ G138 24 (natsV .u64 dn)) 14 (by kernel_rfl) ⟨E205.out.drew, E202.out.drew, E207.out.drew, D209.out.drew, E200.out.drew, E206.out.drew⟩ ?_
  refine wpAnyG_take (fun _ _ hS_ hb_ => ⟨hS_.1.gr hb_, hS_.2.1.gr hb_, hS_.2.2.1.gr hb_, hS_.2.2.2.1.gr hb_, hS_.2.2.2.2.1.gr hb_, hS_.2.2.2.2.2.gr hb_⟩) (i := 0) rfl (by kernel_rfl) (fun _ _ _ h => h) (loadG (by rfl) _ _ rfl _ _ rfl (natsV .u64 up) _ (fun _ hS_ => blk_all (hS_.1)) Try.underlying24 rfl (i24 L_up.out)) ?_
  try simp only [Act.put, zq1, zq2, zq3, zq4, zq5, zq6]
  refine wpAnyG_take (fun _ _ hS_ hb_ => ⟨hS_.1.gr hb_, hS_.2.1.gr hb_, hS_.2.2.1.gr hb_, hS_.2.2.2.1.gr hb_, hS_.2.2.2.2.1.gr hb_, hS_.2.2.2.2.2.gr hb_⟩) (i := 1) rfl (by kernel_rfl) (fun _ _ _ h => h) (loadG (by rfl) _ _ rfl _ _ rfl (natsV .u64 xa) _ (fun _ hS_ => blk_all (hS_.2.1)) Try.underlying24 rfl (i24 L_xa.out)) ?_
  try simp only [Act.put, zq1, zq2, zq3, zq4, zq5, zq6]
  refine wpAnyG_take (fun _ _ hS_ hb_ => ⟨hS_.1.gr hb_, hS_.2.1.gr hb_, hS_.2.2.1.gr hb_, hS_.2.2.2.1.gr hb_, hS_.2.2.2.2.1.gr hb_, hS_.2.2.2.2.2.gr hb_⟩) (i := 2) rfl (by kernel_rfl) (fun _ _ _ h => h) (loadG (by rfl) _ _ rfl _ _ rfl (natsV .u64 dd) _ (fun _ hS_ => blk_all (hS_.2.2.1)) Try.underlying24 rfl (i24 L_dd.out)) ?_
  try simp only [Act.put, zq1, zq2, zq3, zq4, zq5, zq6]
  refine wpAnyG_take (fun _ _ hS_ hb_ => ⟨hS_.1.gr hb_, hS_.2.1.gr hb_, hS_.2.2.1.gr hb_, hS_.2.2.2.1.gr hb_, hS_.2.2.2.2.1.gr hb_, hS_.2.2.2.2.2.gr hb_⟩) (i := 3) rfl (by kernel_rfl) (fun _ _ _ h => h) (callG (by rfl) rfl Try.func87 (by kernel_rfl) (by kernel_rfl) (#[.agg (natsV .u64 xa).toArray, .agg (natsV .u64 dd).toArray]) (by simp [Act.eval]) (fun w _ => Hc14.out w)) ?_
  try simp only [Act.put, zq1, zq2, zq3, zq4, zq5, zq6]
  refine wpAnyG_take (fun _ _ hS_ hb_ => ⟨hS_.1.gr hb_, hS_.2.1.gr hb_, hS_.2.2.1.gr hb_, hS_.2.2.2.1.gr hb_, hS_.2.2.2.2.1.gr hb_, hS_.2.2.2.2.2.gr hb_⟩) (i := 4) rfl (by kernel_rfl) (fun _ _ _ h => h) (loadG (by rfl) _ _ rfl _ _ rfl (natsV .u64 x) _ (fun _ hS_ => blk_all (hS_.2.2.2.1)) Try.underlying24 rfl (i24 L_x.out)) ?_
  try simp only [Act.put, zq1, zq2, zq3, zq4, zq5, zq6]
  refine wpAnyG_take (fun _ _ hS_ hb_ => ⟨hS_.1.gr hb_, hS_.2.1.gr hb_, hS_.2.2.1.gr hb_, hS_.2.2.2.1.gr hb_, hS_.2.2.2.2.1.gr hb_, hS_.2.2.2.2.2.gr hb_⟩) (i := 5) rfl (by kernel_rfl) (fun _ _ _ h => h) (callG (by rfl) rfl Try.func119 (by kernel_rfl) (by kernel_rfl) (#[.agg (natsV .u64 f1).toArray, .agg (natsV .u64 x).toArray]) (by simp [Act.eval]) (fun w _ => Hc15.out w)) ?_
  try simp only [Act.put, zq1, zq2, zq3, zq4, zq5, zq6]
  refine wpAnyG_take (fun _ _ hS_ hb_ => ⟨hS_.1.gr hb_, hS_.2.1.gr hb_, hS_.2.2.1.gr hb_, hS_.2.2.2.1.gr hb_, hS_.2.2.2.2.1.gr hb_, hS_.2.2.2.2.2.gr hb_⟩) (i := 6) rfl (by kernel_rfl) (fun _ _ _ h => h) (callG (by rfl) rfl Try.func87 (by kernel_rfl) (by kernel_rfl) (#[.agg (natsV .u64 up).toArray, .agg (natsV .u64 f2).toArray]) (by simp [Act.eval]) (fun w _ => Hc16.out w)) ?_
  try simp only [Act.put, zq1, zq2, zq3, zq4, zq5, zq6]
  refine wpAnyG_take (fun _ _ hS_ hb_ => ⟨hS_.1.gr hb_, hS_.2.1.gr hb_, hS_.2.2.1.gr hb_, hS_.2.2.2.1.gr hb_, hS_.2.2.2.2.1.gr hb_, hS_.2.2.2.2.2.gr hb_⟩) (i := 7) rfl (by kernel_rfl) (fun _ _ _ h => h) (loadG (by rfl) _ _ rfl _ _ rfl (natsV .u64 ya) _ (fun _ hS_ => blk_all (hS_.2.2.2.2.1)) Try.underlying24 rfl (i24 L_ya.out)) ?_
  try simp only [Act.put, zq1, zq2, zq3, zq4, zq5, zq6]
  refine wpAnyG_take (fun _ _ hS_ hb_ => ⟨hS_.1.gr hb_, hS_.2.1.gr hb_, hS_.2.2.1.gr hb_, hS_.2.2.2.1.gr hb_, hS_.2.2.2.2.1.gr hb_, hS_.2.2.2.2.2.gr hb_⟩) (i := 8) rfl (by kernel_rfl) (fun _ _ _ h => h) (loadG (by rfl) _ _ rfl _ _ rfl (natsV .u64 dd) _ (fun _ hS_ => blk_all (hS_.2.2.1)) Try.underlying24 rfl (i24 L_dd.out)) ?_
  try simp only [Act.put, zq1, zq2, zq3, zq4, zq5, zq6]
  refine wpAnyG_take (fun _ _ hS_ hb_ => ⟨hS_.1.gr hb_, hS_.2.1.gr hb_, hS_.2.2.1.gr hb_, hS_.2.2.2.1.gr hb_, hS_.2.2.2.2.1.gr hb_, hS_.2.2.2.2.2.gr hb_⟩) (i := 9) rfl (by kernel_rfl) (fun _ _ _ h => h) (loadG (by rfl) _ _ rfl _ _ rfl (natsV .u64 dn) _ (fun _ hS_ => blk_all (hS_.2.2.2.2.2)) Try.underlying24 rfl (i24 L_dn.out)) ?_
  try simp only [Act.put, zq1, zq2, zq3, zq4, zq5, zq6]
  refine wpAnyG_take (fun _ _ hS_ hb_ => ⟨hS_.1.gr hb_, hS_.2.1.gr hb_, hS_.2.2.1.gr hb_, hS_.2.2.2.1.gr hb_, hS_.2.2.2.2.1.gr hb_, hS_.2.2.2.2.2.gr hb_⟩) (i := 10) rfl (by kernel_rfl) (fun _ _ _ h => h) (callG (by rfl) rfl Try.func87 (by kernel_rfl) (by kernel_rfl) (#[.agg (natsV .u64 dd).toArray, .agg (natsV .u64 dn).toArray]) (by simp [Act.eval]) (fun w _ => Hc17.out w)) ?_
  try simp only [Act.put, zq1, zq2, zq3, zq4, zq5, zq6]
  refine wpAnyG_take (fun _ _ hS_ hb_ => ⟨hS_.1.gr hb_, hS_.2.1.gr hb_, hS_.2.2.1.gr hb_, hS_.2.2.2.1.gr hb_, hS_.2.2.2.2.1.gr hb_, hS_.2.2.2.2.2.gr hb_⟩) (i := 11) rfl (by kernel_rfl) (fun _ _ _ h => h) (callG (by rfl) rfl Try.func87 (by kernel_rfl) (by kernel_rfl) (#[.agg (natsV .u64 ya).toArray, .agg (natsV .u64 g1).toArray]) (by simp [Act.eval]) (fun w _ => Hc18.out w)) ?_
  try simp only [Act.put, zq1, zq2, zq3, zq4, zq5, zq6]
  refine wpAnyG_take (fun _ _ hS_ hb_ => ⟨hS_.1.gr hb_, hS_.2.1.gr hb_, hS_.2.2.1.gr hb_, hS_.2.2.2.1.gr hb_, hS_.2.2.2.2.1.gr hb_, hS_.2.2.2.2.2.gr hb_⟩) (i := 12) rfl (by kernel_rfl) (fun _ _ _ h => h) (callG (by rfl) rfl Try.func119 (by kernel_rfl) (by kernel_rfl) (#[.agg (natsV .u64 f3).toArray, .agg (natsV .u64 g2).toArray]) (by simp [Act.eval]) (fun w _ => Hc19.out w)) ?_
  try simp only [Act.put, zq1, zq2, zq3, zq4, zq5, zq6]
  refine wpAnyG_def (i := 13) (j := 14) (fun _ _ hS_ hb_ => ⟨hS_.1.gr hb_, hS_.2.1.gr hb_, hS_.2.2.1.gr hb_, hS_.2.2.2.1.gr hb_, hS_.2.2.2.2.1.gr hb_, hS_.2.2.2.2.2.gr hb_⟩) (by kernel_rfl) (by kernel_rfl) (by kernel_rfl) rfl rfl rfl (allocG (by rfl) rfl _ alloc24) (lenEq (show (natsV .u64 (zeros 4)).length = 4 from rfl) (by rw [natsV_length, L_uy.out])) (fun _ => StoresG.mk (cs := (natsV .u64 uy)) (by rfl) 24 _ _ rfl rfl rfl (i24 L_uy.out) (natsV_one _ _)) ?_
  intro w210 G211 hgw210 hz_ hn_
  try simp only [Act.put, zq1, zq2, zq3, zq4, zq5, zq6]
  have NE212 := Lib.hid (Nat.ne_of_lt (Nat.lt_of_lt_of_le E205.out.drew.lt hz_))
  have NE213 := Lib.hid (Nat.ne_of_lt (Nat.lt_of_lt_of_le E206.out.drew.lt hz_))
  have E214 := Lib.hid (E196.out.drew.gr hgw210)
  clear E196
  have E215 := Lib.hid (E197.out.drew.gr hgw210)
  clear E197
  have E216 := Lib.hid (E198.out.drew.gr hgw210)
  clear E198
  have E217 := Lib.hid (E199.out.drew.gr hgw210)
  clear E199
  have E218 := Lib.hid (E200.out.drew.gr hgw210)
  clear E200
  have E219 := Lib.hid (E201.out.drew.gr hgw210)
  clear E201
  have E220 := Lib.hid (E202.out.drew.gr hgw210)
  clear E202
  have E221 := Lib.hid (E203.out.drew.gr hgw210)
  clear E203
  have E222 := Lib.hid (E204.out.drew.gr hgw210)
  clear E204
  have E223 := Lib.hid (E205.out.drew.gr hgw210)
  clear E205
  have E224 := Lib.hid (E206.out.drew.gr hgw210)
  clear E206
  have E225 := Lib.hid (E207.out.drew.gr hgw210)
  clear E207
  have E226 := Lib.hid (D209.out.drew.gr hgw210)
  clear D209
  have hbel227 := hbel208.drew.trans (Below.mono hgw210 hbel208.drew.size)
  clear hbel208
  have D228 := Lib.hid hn_
  clear hn_ hz_ hgw210
  as_aux_lemma =>
  go_wp2_with fail
  as_aux_lemma =>
  refine wp_region_G (fun w_ => Blk w_ G193 24 (natsV .u64 x) ∧ Blk w_ G138 24 (natsV .u64 dn) ∧ Blk w_ G211 24 (natsV .u64 uy) ∧ Blk w_ G176 24 (natsV .u64 dd) ∧ Blk w_ G80 24 (natsV .u64 zz)) 10 (by kernel_rfl) ⟨E226.out.drew, E224.out.drew, D228.out.drew, E225.out.drew, E222.out.drew⟩ ?_
  refine wpAnyG_take (fun _ _ hS_ hb_ => ⟨hS_.1.gr hb_, hS_.2.1.gr hb_, hS_.2.2.1.gr hb_, hS_.2.2.2.1.gr hb_, hS_.2.2.2.2.gr hb_⟩) (i := 0) rfl (by kernel_rfl) (fun _ _ _ h => h) (loadG (by rfl) _ _ rfl _ _ rfl (natsV .u64 x) _ (fun _ hS_ => blk_all (hS_.1)) Try.underlying24 rfl (i24 L_x.out)) ?_
  try simp only [Act.put, zq1, zq2, zq3, zq4, zq5, zq6]
  refine wpAnyG_take (fun _ _ hS_ hb_ => ⟨hS_.1.gr hb_, hS_.2.1.gr hb_, hS_.2.2.1.gr hb_, hS_.2.2.2.1.gr hb_, hS_.2.2.2.2.gr hb_⟩) (i := 1) rfl (by kernel_rfl) (fun _ _ _ h => h) (loadG (by rfl) _ _ rfl _ _ rfl (natsV .u64 dn) _ (fun _ hS_ => blk_all (hS_.2.1)) Try.underlying24 rfl (i24 L_dn.out)) ?_
  try simp only [Act.put, zq1, zq2, zq3, zq4, zq5, zq6]
  refine wpAnyG_take (fun _ _ hS_ hb_ => ⟨hS_.1.gr hb_, hS_.2.1.gr hb_, hS_.2.2.1.gr hb_, hS_.2.2.2.1.gr hb_, hS_.2.2.2.2.gr hb_⟩) (i := 2) rfl (by kernel_rfl) (fun _ _ _ h => h) (callG (by rfl) rfl Try.func87 (by kernel_rfl) (by kernel_rfl) (#[.agg (natsV .u64 x).toArray, .agg (natsV .u64 dn).toArray]) (by simp [Act.eval]) (fun w _ => Hc20.out w)) ?_
  try simp only [Act.put, zq1, zq2, zq3, zq4, zq5, zq6]
  refine wpAnyG_take (fun _ _ hS_ hb_ => ⟨hS_.1.gr hb_, hS_.2.1.gr hb_, hS_.2.2.1.gr hb_, hS_.2.2.2.1.gr hb_, hS_.2.2.2.2.gr hb_⟩) (i := 3) rfl (by kernel_rfl) (fun _ _ _ h => h) (loadG (by rfl) _ _ rfl _ _ rfl (natsV .u64 uy) _ (fun _ hS_ => blk_all (hS_.2.2.1)) Try.underlying24 rfl (i24 L_uy.out)) ?_
  try simp only [Act.put, zq1, zq2, zq3, zq4, zq5, zq6]
  refine wpAnyG_take (fun _ _ hS_ hb_ => ⟨hS_.1.gr hb_, hS_.2.1.gr hb_, hS_.2.2.1.gr hb_, hS_.2.2.2.1.gr hb_, hS_.2.2.2.2.gr hb_⟩) (i := 4) rfl (by kernel_rfl) (fun _ _ _ h => h) (loadG (by rfl) _ _ rfl _ _ rfl (natsV .u64 dd) _ (fun _ hS_ => blk_all (hS_.2.2.2.1)) Try.underlying24 rfl (i24 L_dd.out)) ?_
  try simp only [Act.put, zq1, zq2, zq3, zq4, zq5, zq6]
  refine wpAnyG_take (fun _ _ hS_ hb_ => ⟨hS_.1.gr hb_, hS_.2.1.gr hb_, hS_.2.2.1.gr hb_, hS_.2.2.2.1.gr hb_, hS_.2.2.2.2.gr hb_⟩) (i := 5) rfl (by kernel_rfl) (fun _ _ _ h => h) (loadG (by rfl) _ _ rfl _ _ rfl (natsV .u64 dn) _ (fun _ hS_ => blk_all (hS_.2.1)) Try.underlying24 rfl (i24 L_dn.out)) ?_
  try simp only [Act.put, zq1, zq2, zq3, zq4, zq5, zq6]
  refine wpAnyG_take (fun _ _ hS_ hb_ => ⟨hS_.1.gr hb_, hS_.2.1.gr hb_, hS_.2.2.1.gr hb_, hS_.2.2.2.1.gr hb_, hS_.2.2.2.2.gr hb_⟩) (i := 6) rfl (by kernel_rfl) (fun _ _ _ h => h) (callG (by rfl) rfl Try.func87 (by kernel_rfl) (by kernel_rfl) (#[.agg (natsV .u64 dd).toArray, .agg (natsV .u64 dn).toArray]) (by simp [Act.eval]) (fun w _ => Hc21.out w)) ?_
  try simp only [Act.put, zq1, zq2, zq3, zq4, zq5, zq6]
  refine wpAnyG_take (fun _ _ hS_ hb_ => ⟨hS_.1.gr hb_, hS_.2.1.gr hb_, hS_.2.2.1.gr hb_, hS_.2.2.2.1.gr hb_, hS_.2.2.2.2.gr hb_⟩) (i := 7) rfl (by kernel_rfl) (fun _ _ _ h => h) (loadG (by rfl) _ _ rfl _ _ rfl (natsV .u64 zz) _ (fun _ hS_ => blk_all (hS_.2.2.2.2)) Try.underlying24 rfl (i24 L_zz.out)) ?_
  try simp only [Act.put, zq1, zq2, zq3, zq4, zq5, zq6]
  refine wpAnyG_take (fun _ _ hS_ hb_ => ⟨hS_.1.gr hb_, hS_.2.1.gr hb_, hS_.2.2.1.gr hb_, hS_.2.2.2.1.gr hb_, hS_.2.2.2.2.gr hb_⟩) (i := 8) rfl (by kernel_rfl) (fun _ _ _ h => h) (callG (by rfl) rfl Try.func87 (by kernel_rfl) (by kernel_rfl) (#[.agg (natsV .u64 g1).toArray, .agg (natsV .u64 zz).toArray]) (by simp [Act.eval]) (fun w _ => Hc22.out w)) ?_
  try simp only [Act.put, zq1, zq2, zq3, zq4, zq5, zq6]
  refine wpAnyG_take (fun _ _ hS_ hb_ => ⟨hS_.1.gr hb_, hS_.2.1.gr hb_, hS_.2.2.1.gr hb_, hS_.2.2.2.1.gr hb_, hS_.2.2.2.2.gr hb_⟩) (i := 9) rfl (by kernel_rfl) (fun _ _ _ h => h) (buildG (by rfl) _ _ rfl _ (built108 L_ux.out L_uy.out L_uz.out) (by simp [Act.eval])) ?_
  try simp only [Act.put, zq1, zq2, zq3, zq4, zq5, zq6]
  refine wpAnyG_set (i := 10) (by kernel_rfl) (by kernel_rfl) rfl rfl E216.out.drew (lenEq (show (natsV .u64 (zeros 12)).length = 12 from rfl) (tv_len L_ux.out L_uy.out L_uz.out)) (StoresG.mk (cs := (tv ux uy uz)) (by rfl) 108 _ _ rfl rfl rfl (i108 L_ux.out L_uy.out L_uz.out) (tv_one _ _ _)) ?_
  intro w229 hgw229 hn_
  try simp only [Act.put, zq1, zq2, zq3, zq4, zq5, zq6]
  have hbel230 := belStore hbel227.drew hgw229 (show w.heap.size ≤ (w.heap.size + 1 + 1) by omega)
  have D231 := Lib.hid hn_
  go_wp2_with fail
  refine bodyPost_ret (v := .agg (tv ux uy uz).toArray) ?_ rfl ⟨rfl, hbel230⟩
  exact results_cell_row Try.results86 _ _ (w.heap.size + 1 + 1) 108 _ (0, 0) _ rfl D231.out Try.underlying108 rfl (by simpa using (i108 L_ux.out L_uy.out L_uz.out))
end Go.Proofs.Ytfffmoolkgheaaa
