/- PackBack's walk, some of its ways. Condition: the coefficients are 32-bit numbers. -/
import Derived.Test.YtkpbephjjhfigaaRBk0
namespace Go.Proofs.YtkpbephjjhfigaaR
open Go.RowKit
set_option linter.unusedVariables false
set_option linter.unusedSimpArgs false
set_option maxRecDepth 100000 in
set_option maxHeartbeats 8000000 in
theorem back_yyy (A : Option Addr) (cp : Nat) (L : List Nat) (p : List Int) (hp : IsP p) (bits : Int) (w : World) (hb : BIn w A L.length cp L) (h1 : fuE L bits = 0) (h2 : fdE L 524288 bits = 0) (h3 : dnE (rdL p) 524288 20 = 0) : Calls Try.prog 4 #[.slice A L.length cp, .agg (iv p).toArray, .int .i64 bits] w fun e w' => e = .returned (.bool true) ∧ Below w.heap.size w w' := by
  have HLT := Lib.hid hb.1.2.2.1
  have HLL := Lib.hid hb.2.2.2.1
  have HA := Lib.hid (fun w => awake_any w)
  have HQ := Lib.hid (fun w => dReduce_any p hp w)
  have HFU := Lib.hid FromUp_any
  have HFD := Lib.hid FromDown_any
  obtain ⟨u1, u2, u3, u4⟩ := up_back (rdL_len p) (pln_rd p)
  have HUQ := Lib.hid (fun w => Up_any (rdL p) (IsP_rd p) 23 w)
  rw [u1] at HUQ
  have LU := Lib.hid u2
  have HUT := Lib.hid (upL_lt (rdL p) 23)
  have EU1 := Lib.hid u3
  have EU2 := Lib.hid u4
  have HDQ := Lib.hid (fun w => Down_any (rdL p) (IsP_rd p) 524288 20 w)
  obtain ⟨d1, d2, d3⟩ := dn_back (rdL_len p) (pln_rd p) h3
  rw [h3] at HDQ
  have LD := Lib.hid d1
  have HDT := Lib.hid (dnL_lt (rdL p) 524288 20)
  have ED1 := Lib.hid d2
  have ED2 := Lib.hid d3
  generalize dnL (rdL p) 524288 20 = D at *
  clear d1 d2 d3
  generalize upL (rdL p) 23 = U at *
  clear u1 u2 u3 u4 h3
  obtain ⟨f1, f2⟩ := fu_back hb.1.2.2.1 h1
  have HU1 := Lib.hid (fun w => Up_any (fuP L bits) (fuP_IsP L bits) bits w)
  rw [f1, f2] at HU1
  clear f1 f2
  obtain ⟨f1, f2⟩ := fd_back hb.1.2.2.1 h2
  have HD2 := Lib.hid (fun w => Down_any (fdP L 524288 bits) (fdP_IsP L 524288 bits) 524288 bits w)
  rw [f1, f2] at HD2
  clear f1 f2
  have HF1 := Lib.hid (fun w hb => FromUp_any A L.length cp L bits w hb)
  have HF2 := Lib.hid (fun w hb => FromDown_any A L.length cp L 524288 bits w hb)
  rw [h1] at HF1
  rw [h2] at HF2
  clear h1 h2
  have LX1 := Lib.hid (fuP_IsP L bits).1
  have LX2 := Lib.hid (fdP_IsP L 524288 bits).1
  generalize fuP L bits = X1 at *
  generalize fdP L 524288 bits = X2 at *
  have LQ := Lib.hid (rdL_len p)
  have LP := Lib.hid hp.1
  generalize rdL p = q at *
  have heq := fun w => eqQ q LQ.out w
  have hne := fun w => neQ q LQ.out w
  have B0 := Lib.hid (Blk.new w 23 (iv p))
  have BEL := Lib.hid ((Below.refl w.heap.size w).alloc (Nat.le_refl _) (.cells (iv p).toArray 23))
  have HB := Lib.hid (hb.below BEL.out)
  clear hb hp
  have z23 := zero23
  go_enter Try.func4, Try.ntmps4
  go_wp2_with fail
  refine (HA.out _).mono ?_
  rintro e w1 ⟨rfl, hb⟩
  have bel1 := BEL.out.trans (hb.mono BEL.out.size)
  have B2 := Lib.hid (B0.out.below' hb)
  have Y3 := Lib.hid (HB.out.below hb)
  clear B0 HB hb
  go_wp2_with (first | (refine wpList_load_row rfl 23 (.tmp 4) rfl w.heap.size rfl 23 (iv p).toArray (0, 0) _ B2.out Try.underlying23 rfl (j23 LP.out) ?_))
  refine (HQ.out _).mono ?_
  rintro e w2 ⟨rfl, hb⟩
  have bel4 := bel1.trans (hb.mono bel1.size)
  have B5 := Lib.hid (B2.out.below' hb)
  have Y6 := Lib.hid (Y3.out.below hb)
  clear bel1 B2 Y3 hb
  go_wp2_with (first | (refine wpList_store_row rfl 23 (.tmp 8) (.tmp 27) rfl w2.heap.size (iv q).toArray rfl rfl 23 (iv zerI).toArray (Blk.new w2 23 (iv zerI)) (j23 LQ.out) (zz LQ.out) (iv_all _) ?_; generalize hW : World.setRow _ _ _ = v8; obtain ⟨hg9, hD10⟩ := newfacts hW; clear hW; have bel11 := bel4.trans (Below.mono hg9 bel4.size); have B12 := Lib.hid (B5.out.gr hg9); have Y13 := Lib.hid (Y6.out.below hg9); have B14 := Lib.hid hD10; clear bel4 B5 Y6 hg9 hD10; generalize w2.heap.size = G7 at *))
  refine (HF1.out _ Y13.out).mono ?_
  rintro e w3 ⟨rfl, hb⟩
  have bel15 := bel11.trans (hb.mono bel11.size)
  have B16 := Lib.hid (B14.out.below' hb)
  have Y17 := Lib.hid (Y13.out.below hb)
  clear bel11 B14 Y13 hb
  go_wp2_with (first | (refine wpList_store_row rfl 23 (.tmp 9) (.tmp 32) rfl w3.heap.size (iv X1).toArray rfl rfl 23 (iv zerI).toArray (Blk.new w3 23 (iv zerI)) (j23 LX1.out) (zz LX1.out) (iv_all _) ?_; generalize hW : World.setRow _ _ _ = v19; obtain ⟨hg20, hD21⟩ := newfacts hW; clear hW; have bel22 := bel15.trans (Below.mono hg20 bel15.size); have B23 := Lib.hid (B16.out.gr hg20); have Y24 := Lib.hid (Y17.out.below hg20); have B25 := Lib.hid hD21; clear bel15 B16 Y17 hg20 hD21; generalize w3.heap.size = G18 at *))
  refine (HF2.out _ Y24.out).mono ?_
  rintro e w4 ⟨rfl, hb⟩
  have bel26 := bel22.trans (hb.mono bel22.size)
  have B27 := Lib.hid (B23.out.below' hb)
  have B28 := Lib.hid (B25.out.below' hb)
  have Y29 := Lib.hid (Y24.out.below hb)
  clear bel22 B23 B25 Y24 hb
  go_wp2_with (first | (refine wpList_store_row rfl 23 (.tmp 11) (.tmp 38) rfl w4.heap.size (iv X2).toArray rfl rfl 23 (iv zerI).toArray (Blk.new w4 23 (iv zerI)) (j23 LX2.out) (zz LX2.out) (iv_all _) ?_; generalize hW : World.setRow _ _ _ = v31; obtain ⟨hg32, hD33⟩ := newfacts hW; clear hW; have bel34 := bel26.trans (Below.mono hg32 bel26.size); have B35 := Lib.hid (B27.out.gr hg32); have B36 := Lib.hid (B28.out.gr hg32); have Y37 := Lib.hid (Y29.out.below hg32); have B38 := Lib.hid hD33; clear bel26 B27 B28 Y29 hg32 hD33; generalize w4.heap.size = G30 at *) | (refine wpList_load_row rfl 23 (.tmp 9) rfl G18 rfl 23 (iv X1).toArray (0, 0) _ B36.out Try.underlying23 rfl (j23 LX1.out) ?_))
  refine (HU1.out _).mono ?_
  rintro e w_39 ⟨v, rfl, ho, hb⟩
  obtain ⟨Aa, ca, rfl, hya, _⟩ := own_in ho HLT.out HLL.out
  clear ho
  have bel40 := bel34.trans (hb.mono bel34.size)
  have B41 := Lib.hid (B35.out.below' hb)
  have B42 := Lib.hid (B36.out.below' hb)
  have B43 := Lib.hid (B38.out.below' hb)
  have Y44 := Lib.hid (Y37.out.below hb)
  clear bel34 B35 B36 B38 Y37 hb
  have Y45 := Lib.hid hya
  clear hya
  have HS := Lib.hid (fun c d => same_eq Aa A L.length c d L w_39 Y45.out.1 Y44.out.1)
  clear Y45
  go_wp2_with fail
  refine (HS.out _ _).mono ?_
  rintro e w_46 ⟨rfl, hb⟩
  clear HS
  have bel47 := bel40.trans (hb.mono bel40.size)
  have B48 := Lib.hid (B41.out.below' hb)
  have B49 := Lib.hid (B42.out.below' hb)
  have B50 := Lib.hid (B43.out.below' hb)
  have Y51 := Lib.hid (Y44.out.below hb)
  clear bel40 B41 B42 B43 Y44 hb
  go_wp2_with (first | (refine wpList_load_row rfl 23 (.tmp 11) rfl G30 rfl 23 (iv X2).toArray (0, 0) _ B50.out Try.underlying23 rfl (j23 LX2.out) ?_))
  refine (HD2.out _).mono ?_
  rintro e w_52 ⟨v, rfl, ho, hb⟩
  obtain ⟨Ab, cb, rfl, hyb, _⟩ := own_in ho HLT.out HLL.out
  clear ho
  have bel53 := bel47.trans (hb.mono bel47.size)
  have B54 := Lib.hid (B48.out.below' hb)
  have B55 := Lib.hid (B49.out.below' hb)
  have B56 := Lib.hid (B50.out.below' hb)
  have Y57 := Lib.hid (Y51.out.below hb)
  clear bel47 B48 B49 B50 Y51 hb
  have Y58 := Lib.hid hyb
  clear hyb
  have HS := Lib.hid (fun c d => same_eq Ab A L.length c d L w_52 Y58.out.1 Y57.out.1)
  clear Y58
  go_wp2_with fail
  refine (HS.out _ _).mono ?_
  rintro e w_59 ⟨rfl, hb⟩
  clear HS
  have bel60 := bel53.trans (hb.mono bel53.size)
  have B61 := Lib.hid (B54.out.below' hb)
  have B62 := Lib.hid (B55.out.below' hb)
  have B63 := Lib.hid (B56.out.below' hb)
  have Y64 := Lib.hid (Y57.out.below hb)
  clear bel53 B54 B55 B56 Y57 hb
  go_wp2_with (first | (refine wpList_load_row rfl 23 (.tmp 8) rfl G7 rfl 23 (iv q).toArray (0, 0) _ B61.out Try.underlying23 rfl (j23 LQ.out) ?_))
  refine (HUQ.out _).mono ?_
  rintro e w_65 ⟨v, rfl, ho, hb⟩
  rw [LU.out] at ho
  obtain ⟨Au, cu, rfl, hyu, _⟩ := own_in ho HUT.out (by decide)
  clear ho
  have bel66 := bel60.trans (hb.mono bel60.size)
  have B67 := Lib.hid (B61.out.below' hb)
  have B68 := Lib.hid (B62.out.below' hb)
  have B69 := Lib.hid (B63.out.below' hb)
  have Y70 := Lib.hid (Y64.out.below hb)
  clear bel60 B61 B62 B63 Y64 hb
  have Yu_ := Lib.hid hyu
  clear hyu
  go_wp2_with fail
  refine (HFU.out Au 736 cu U 23 _ Yu_.out).mono ?_
  rw [EU1.out, EU2.out]
  rintro e w_71 ⟨rfl, hb⟩
  have bel72 := bel66.trans (hb.mono bel66.size)
  have B73 := Lib.hid (B67.out.below' hb)
  have B74 := Lib.hid (B68.out.below' hb)
  have B75 := Lib.hid (B69.out.below' hb)
  have Y76 := Lib.hid (Y70.out.below hb)
  have Y77 := Lib.hid (Yu_.out.below hb)
  clear bel66 B67 B68 B69 Y70 Yu_ hb
  go_wp2_with (first | (refine wpList_store_row rfl 23 (.tmp 19) (.tmp 80) rfl w_71.heap.size (iv q).toArray rfl rfl 23 (iv zerI).toArray (Blk.new w_71 23 (iv zerI)) (j23 LQ.out) (zz LQ.out) (iv_all _) ?_; generalize hW : World.setRow _ _ _ = v79; obtain ⟨hg80, hD81⟩ := newfacts hW; clear hW; have bel82 := bel72.trans (Below.mono hg80 bel72.size); have B83 := Lib.hid (B73.out.gr hg80); have B84 := Lib.hid (B74.out.gr hg80); have B85 := Lib.hid (B75.out.gr hg80); have Y86 := Lib.hid (Y76.out.below hg80); have Y87 := Lib.hid (Y77.out.below hg80); have B88 := Lib.hid hD81; clear bel72 B73 B74 B75 Y76 Y77 hg80 hD81; generalize w_71.heap.size = G78 at *) | (refine wpList_load_row rfl 23 (.tmp 8) rfl G7 rfl 23 (iv q).toArray (0, 0) _ B83.out Try.underlying23 rfl (j23 LQ.out) ?_))
  refine (HDQ.out _).mono ?_
  rintro e w_89 ⟨v, rfl, ho, hb⟩
  rw [LD.out] at ho
  obtain ⟨Ad, cd, rfl, hyd, _⟩ := own_in ho HDT.out (by decide)
  clear ho
  have bel90 := bel82.trans (hb.mono bel82.size)
  have B91 := Lib.hid (B83.out.below' hb)
  have B92 := Lib.hid (B84.out.below' hb)
  have B93 := Lib.hid (B85.out.below' hb)
  have B94 := Lib.hid (B88.out.below' hb)
  have Y95 := Lib.hid (Y86.out.below hb)
  clear bel82 B83 B84 B85 B88 Y86 hb
  have Yd_ := Lib.hid hyd
  clear hyd
  go_wp2_with fail
  refine (HFD.out Ad 640 cd D 524288 20 _ Yd_.out).mono ?_
  rw [ED1.out, ED2.out]
  rintro e w_96 ⟨rfl, hb⟩
  have bel97 := bel90.trans (hb.mono bel90.size)
  have B98 := Lib.hid (B91.out.below' hb)
  have B99 := Lib.hid (B92.out.below' hb)
  have B100 := Lib.hid (B93.out.below' hb)
  have B101 := Lib.hid (B94.out.below' hb)
  have Y102 := Lib.hid (Y95.out.below hb)
  have Y103 := Lib.hid (Yd_.out.below hb)
  clear bel90 B91 B92 B93 B94 Y95 Yd_ hb
  go_wp2_with (first | (refine wpList_store_row rfl 23 (.tmp 23) (.tmp 92) rfl w_96.heap.size (iv q).toArray rfl rfl 23 (iv zerI).toArray (Blk.new w_96 23 (iv zerI)) (j23 LQ.out) (zz LQ.out) (iv_all _) ?_; generalize hW : World.setRow _ _ _ = v105; obtain ⟨hg106, hD107⟩ := newfacts hW; clear hW; have bel108 := bel97.trans (Below.mono hg106 bel97.size); have B109 := Lib.hid (B98.out.gr hg106); have B110 := Lib.hid (B99.out.gr hg106); have B111 := Lib.hid (B100.out.gr hg106); have B112 := Lib.hid (B101.out.gr hg106); have Y113 := Lib.hid (Y102.out.below hg106); have Y114 := Lib.hid (Y103.out.below hg106); have B115 := Lib.hid hD107; clear bel97 B98 B99 B100 B101 Y102 Y103 hg106 hD107; generalize w_96.heap.size = G104 at *) | (refine ldwM 23 (.tmp 23) rfl G104 0 rfl (iv q) _ (blk_all B115.out) Try.underlying23 rfl (i23 LQ.out) 2 false rfl 96 rfl rfl ?_) | (refine ldwM 23 (.tmp 8) rfl G7 0 rfl (iv q) _ (blk_all B109.out) Try.underlying23 rfl (i23 LQ.out) 2 false rfl 96 rfl rfl ?_) | (refine ldwM 23 (.tmp 19) rfl G78 0 rfl (iv q) _ (blk_all B112.out) Try.underlying23 rfl (i23 LQ.out) 9 true rfl 115 rfl rfl ?_) | (refine ldwM 23 (.tmp 8) rfl G7 0 rfl (iv q) _ (blk_all B109.out) Try.underlying23 rfl (i23 LQ.out) 9 true rfl 115 rfl rfl ?_))
  go_ret
  exact ⟨rfl, bel108⟩
set_option maxRecDepth 100000 in
set_option maxHeartbeats 8000000 in
theorem back_yyn (A : Option Addr) (cp : Nat) (L : List Nat) (p : List Int) (hp : IsP p) (bits : Int) (w : World) (hb : BIn w A L.length cp L) (h1 : fuE L bits = 0) (h2 : fdE L 524288 bits = 0) (h3 : dnE (rdL p) 524288 20 ≠ 0) : Calls Try.prog 4 #[.slice A L.length cp, .agg (iv p).toArray, .int .i64 bits] w fun e w' => e = .returned (.bool true) ∧ Below w.heap.size w w' := by
  have HLT := Lib.hid hb.1.2.2.1
  have HLL := Lib.hid hb.2.2.2.1
  have HA := Lib.hid (fun w => awake_any w)
  have HQ := Lib.hid (fun w => dReduce_any p hp w)
  have HFU := Lib.hid FromUp_any
  have HFD := Lib.hid FromDown_any
  obtain ⟨u1, u2, u3, u4⟩ := up_back (rdL_len p) (pln_rd p)
  have HUQ := Lib.hid (fun w => Up_any (rdL p) (IsP_rd p) 23 w)
  rw [u1] at HUQ
  have LU := Lib.hid u2
  have HUT := Lib.hid (upL_lt (rdL p) 23)
  have EU1 := Lib.hid u3
  have EU2 := Lib.hid u4
  have HDQ := Lib.hid (fun w => Down_any (rdL p) (IsP_rd p) 524288 20 w)
  obtain ⟨k3, hk3⟩ : ∃ k : Nat, dnE (rdL p) 524288 20 = k := ⟨_, rfl⟩
  rw [hk3] at HDQ h3
  have i3 : (((k3 : Nat) : Int) == 0) = false := beq_eq_false_iff_ne.2 (by omega)
  clear hk3
  generalize upL (rdL p) 23 = U at *
  clear u1 u2 u3 u4 h3
  obtain ⟨f1, f2⟩ := fu_back hb.1.2.2.1 h1
  have HU1 := Lib.hid (fun w => Up_any (fuP L bits) (fuP_IsP L bits) bits w)
  rw [f1, f2] at HU1
  clear f1 f2
  obtain ⟨f1, f2⟩ := fd_back hb.1.2.2.1 h2
  have HD2 := Lib.hid (fun w => Down_any (fdP L 524288 bits) (fdP_IsP L 524288 bits) 524288 bits w)
  rw [f1, f2] at HD2
  clear f1 f2
  have HF1 := Lib.hid (fun w hb => FromUp_any A L.length cp L bits w hb)
  have HF2 := Lib.hid (fun w hb => FromDown_any A L.length cp L 524288 bits w hb)
  rw [h1] at HF1
  rw [h2] at HF2
  clear h1 h2
  have LX1 := Lib.hid (fuP_IsP L bits).1
  have LX2 := Lib.hid (fdP_IsP L 524288 bits).1
  generalize fuP L bits = X1 at *
  generalize fdP L 524288 bits = X2 at *
  have LQ := Lib.hid (rdL_len p)
  have LP := Lib.hid hp.1
  generalize rdL p = q at *
  have heq := fun w => eqQ q LQ.out w
  have hne := fun w => neQ q LQ.out w
  have B0 := Lib.hid (Blk.new w 23 (iv p))
  have BEL := Lib.hid ((Below.refl w.heap.size w).alloc (Nat.le_refl _) (.cells (iv p).toArray 23))
  have HB := Lib.hid (hb.below BEL.out)
  clear hb hp
  have z23 := zero23
  go_enter Try.func4, Try.ntmps4
  go_wp2_with fail
  refine (HA.out _).mono ?_
  rintro e w1 ⟨rfl, hb⟩
  have bel1 := BEL.out.trans (hb.mono BEL.out.size)
  have B2 := Lib.hid (B0.out.below' hb)
  have Y3 := Lib.hid (HB.out.below hb)
  clear B0 HB hb
  go_wp2_with (first | (refine wpList_load_row rfl 23 (.tmp 4) rfl w.heap.size rfl 23 (iv p).toArray (0, 0) _ B2.out Try.underlying23 rfl (j23 LP.out) ?_))
  refine (HQ.out _).mono ?_
  rintro e w2 ⟨rfl, hb⟩
  have bel4 := bel1.trans (hb.mono bel1.size)
  have B5 := Lib.hid (B2.out.below' hb)
  have Y6 := Lib.hid (Y3.out.below hb)
  clear bel1 B2 Y3 hb
  go_wp2_with (first | (refine wpList_store_row rfl 23 (.tmp 8) (.tmp 27) rfl w2.heap.size (iv q).toArray rfl rfl 23 (iv zerI).toArray (Blk.new w2 23 (iv zerI)) (j23 LQ.out) (zz LQ.out) (iv_all _) ?_; generalize hW : World.setRow _ _ _ = v8; obtain ⟨hg9, hD10⟩ := newfacts hW; clear hW; have bel11 := bel4.trans (Below.mono hg9 bel4.size); have B12 := Lib.hid (B5.out.gr hg9); have Y13 := Lib.hid (Y6.out.below hg9); have B14 := Lib.hid hD10; clear bel4 B5 Y6 hg9 hD10; generalize w2.heap.size = G7 at *))
  refine (HF1.out _ Y13.out).mono ?_
  rintro e w3 ⟨rfl, hb⟩
  have bel15 := bel11.trans (hb.mono bel11.size)
  have B16 := Lib.hid (B14.out.below' hb)
  have Y17 := Lib.hid (Y13.out.below hb)
  clear bel11 B14 Y13 hb
  go_wp2_with (first | (refine wpList_store_row rfl 23 (.tmp 9) (.tmp 32) rfl w3.heap.size (iv X1).toArray rfl rfl 23 (iv zerI).toArray (Blk.new w3 23 (iv zerI)) (j23 LX1.out) (zz LX1.out) (iv_all _) ?_; generalize hW : World.setRow _ _ _ = v19; obtain ⟨hg20, hD21⟩ := newfacts hW; clear hW; have bel22 := bel15.trans (Below.mono hg20 bel15.size); have B23 := Lib.hid (B16.out.gr hg20); have Y24 := Lib.hid (Y17.out.below hg20); have B25 := Lib.hid hD21; clear bel15 B16 Y17 hg20 hD21; generalize w3.heap.size = G18 at *))
  refine (HF2.out _ Y24.out).mono ?_
  rintro e w4 ⟨rfl, hb⟩
  have bel26 := bel22.trans (hb.mono bel22.size)
  have B27 := Lib.hid (B23.out.below' hb)
  have B28 := Lib.hid (B25.out.below' hb)
  have Y29 := Lib.hid (Y24.out.below hb)
  clear bel22 B23 B25 Y24 hb
  go_wp2_with (first | (refine wpList_store_row rfl 23 (.tmp 11) (.tmp 38) rfl w4.heap.size (iv X2).toArray rfl rfl 23 (iv zerI).toArray (Blk.new w4 23 (iv zerI)) (j23 LX2.out) (zz LX2.out) (iv_all _) ?_; generalize hW : World.setRow _ _ _ = v31; obtain ⟨hg32, hD33⟩ := newfacts hW; clear hW; have bel34 := bel26.trans (Below.mono hg32 bel26.size); have B35 := Lib.hid (B27.out.gr hg32); have B36 := Lib.hid (B28.out.gr hg32); have Y37 := Lib.hid (Y29.out.below hg32); have B38 := Lib.hid hD33; clear bel26 B27 B28 Y29 hg32 hD33; generalize w4.heap.size = G30 at *) | (refine wpList_load_row rfl 23 (.tmp 9) rfl G18 rfl 23 (iv X1).toArray (0, 0) _ B36.out Try.underlying23 rfl (j23 LX1.out) ?_))
  refine (HU1.out _).mono ?_
  rintro e w_39 ⟨v, rfl, ho, hb⟩
  obtain ⟨Aa, ca, rfl, hya, _⟩ := own_in ho HLT.out HLL.out
  clear ho
  have bel40 := bel34.trans (hb.mono bel34.size)
  have B41 := Lib.hid (B35.out.below' hb)
  have B42 := Lib.hid (B36.out.below' hb)
  have B43 := Lib.hid (B38.out.below' hb)
  have Y44 := Lib.hid (Y37.out.below hb)
  clear bel34 B35 B36 B38 Y37 hb
  have Y45 := Lib.hid hya
  clear hya
  have HS := Lib.hid (fun c d => same_eq Aa A L.length c d L w_39 Y45.out.1 Y44.out.1)
  clear Y45
  go_wp2_with fail
  refine (HS.out _ _).mono ?_
  rintro e w_46 ⟨rfl, hb⟩
  clear HS
  have bel47 := bel40.trans (hb.mono bel40.size)
  have B48 := Lib.hid (B41.out.below' hb)
  have B49 := Lib.hid (B42.out.below' hb)
  have B50 := Lib.hid (B43.out.below' hb)
  have Y51 := Lib.hid (Y44.out.below hb)
  clear bel40 B41 B42 B43 Y44 hb
  go_wp2_with (first | (refine wpList_load_row rfl 23 (.tmp 11) rfl G30 rfl 23 (iv X2).toArray (0, 0) _ B50.out Try.underlying23 rfl (j23 LX2.out) ?_))
  refine (HD2.out _).mono ?_
  rintro e w_52 ⟨v, rfl, ho, hb⟩
  obtain ⟨Ab, cb, rfl, hyb, _⟩ := own_in ho HLT.out HLL.out
  clear ho
  have bel53 := bel47.trans (hb.mono bel47.size)
  have B54 := Lib.hid (B48.out.below' hb)
  have B55 := Lib.hid (B49.out.below' hb)
  have B56 := Lib.hid (B50.out.below' hb)
  have Y57 := Lib.hid (Y51.out.below hb)
  clear bel47 B48 B49 B50 Y51 hb
  have Y58 := Lib.hid hyb
  clear hyb
  have HS := Lib.hid (fun c d => same_eq Ab A L.length c d L w_52 Y58.out.1 Y57.out.1)
  clear Y58
  go_wp2_with fail
  refine (HS.out _ _).mono ?_
  rintro e w_59 ⟨rfl, hb⟩
  clear HS
  have bel60 := bel53.trans (hb.mono bel53.size)
  have B61 := Lib.hid (B54.out.below' hb)
  have B62 := Lib.hid (B55.out.below' hb)
  have B63 := Lib.hid (B56.out.below' hb)
  have Y64 := Lib.hid (Y57.out.below hb)
  clear bel53 B54 B55 B56 Y57 hb
  go_wp2_with (first | (refine wpList_load_row rfl 23 (.tmp 8) rfl G7 rfl 23 (iv q).toArray (0, 0) _ B61.out Try.underlying23 rfl (j23 LQ.out) ?_))
  refine (HUQ.out _).mono ?_
  rintro e w_65 ⟨v, rfl, ho, hb⟩
  rw [LU.out] at ho
  obtain ⟨Au, cu, rfl, hyu, _⟩ := own_in ho HUT.out (by decide)
  clear ho
  have bel66 := bel60.trans (hb.mono bel60.size)
  have B67 := Lib.hid (B61.out.below' hb)
  have B68 := Lib.hid (B62.out.below' hb)
  have B69 := Lib.hid (B63.out.below' hb)
  have Y70 := Lib.hid (Y64.out.below hb)
  clear bel60 B61 B62 B63 Y64 hb
  have Yu_ := Lib.hid hyu
  clear hyu
  go_wp2_with fail
  refine (HFU.out Au 736 cu U 23 _ Yu_.out).mono ?_
  rw [EU1.out, EU2.out]
  rintro e w_71 ⟨rfl, hb⟩
  have bel72 := bel66.trans (hb.mono bel66.size)
  have B73 := Lib.hid (B67.out.below' hb)
  have B74 := Lib.hid (B68.out.below' hb)
  have B75 := Lib.hid (B69.out.below' hb)
  have Y76 := Lib.hid (Y70.out.below hb)
  have Y77 := Lib.hid (Yu_.out.below hb)
  clear bel66 B67 B68 B69 Y70 Yu_ hb
  go_wp2_with (first | (refine wpList_store_row rfl 23 (.tmp 19) (.tmp 80) rfl w_71.heap.size (iv q).toArray rfl rfl 23 (iv zerI).toArray (Blk.new w_71 23 (iv zerI)) (j23 LQ.out) (zz LQ.out) (iv_all _) ?_; generalize hW : World.setRow _ _ _ = v79; obtain ⟨hg80, hD81⟩ := newfacts hW; clear hW; have bel82 := bel72.trans (Below.mono hg80 bel72.size); have B83 := Lib.hid (B73.out.gr hg80); have B84 := Lib.hid (B74.out.gr hg80); have B85 := Lib.hid (B75.out.gr hg80); have Y86 := Lib.hid (Y76.out.below hg80); have Y87 := Lib.hid (Y77.out.below hg80); have B88 := Lib.hid hD81; clear bel72 B73 B74 B75 Y76 Y77 hg80 hD81; generalize w_71.heap.size = G78 at *) | (refine wpList_load_row rfl 23 (.tmp 8) rfl G7 rfl 23 (iv q).toArray (0, 0) _ B83.out Try.underlying23 rfl (j23 LQ.out) ?_))
  refine (HDQ.out _).mono ?_
  rintro e w_89 ⟨v, rfl, ho, hb⟩
  obtain ⟨Ad, cd, rfl⟩ := own_slice ho
  clear ho
  have bel90 := bel82.trans (hb.mono bel82.size)
  have B91 := Lib.hid (B83.out.below' hb)
  have B92 := Lib.hid (B84.out.below' hb)
  have B93 := Lib.hid (B85.out.below' hb)
  have B94 := Lib.hid (B88.out.below' hb)
  have Y95 := Lib.hid (Y86.out.below hb)
  clear bel82 B83 B84 B85 B88 Y86 hb
  go_wp2_with (first | (refine ldwM 23 (.tmp 19) rfl G78 0 rfl (iv q) _ (blk_all B94.out) Try.underlying23 rfl (i23 LQ.out) 9 true rfl 115 rfl rfl ?_) | (refine ldwM 23 (.tmp 8) rfl G7 0 rfl (iv q) _ (blk_all B91.out) Try.underlying23 rfl (i23 LQ.out) 9 true rfl 115 rfl rfl ?_))
  go_ret
  exact ⟨rfl, bel90⟩
end Go.Proofs.YtkpbephjjhfigaaR
