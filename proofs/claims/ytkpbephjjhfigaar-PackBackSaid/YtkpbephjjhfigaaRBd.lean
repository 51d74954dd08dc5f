/- PackBack's walk, some of its ways. Condition: the coefficients are 32-bit numbers. -/
import Derived.Test.YtkpbephjjhfigaaRBk0
namespace Go.Proofs.YtkpbephjjhfigaaR
open Go.RowKit
set_option linter.unusedVariables false
set_option linter.unusedSimpArgs false
set_option maxRecDepth 100000 in
set_option maxHeartbeats 8000000 in
theorem back_nyy (A : Option Addr) (cp : Nat) (L : List Nat) (p : List Int) (hp : IsP p) (bits : Int) (w : World) (hb : BIn w A L.length cp L) (h1 : fuE L bits ≠ 0) (h2 : fdE L 524288 bits = 0) (h3 : dnE (rdL p) 524288 20 = 0) : Calls Try.prog 4 #[.slice A L.length cp, .agg (iv p).toArray, .int .i64 bits] w fun e w' => e = .returned (.bool true) ∧ Below w.heap.size w w' := by
  have HLT := Lib.hid hb.1.2.2.1
  have HLL := Lib.hid hb.2.2.2.1
  have HA := Lib.hid (fun w => awake_any w)
  have HQ := Lib.hid (fun w => dReduce_any p hp w)
  have HFU := Lib.hid FromUp_any
  have HFD := Lib.hid FromDown_any
  obtain ⟨u1, u2, u3, u4⟩ := up_back (rdL_len p) (pln_rd p)
  have HUQ := Lib.hid (fun w => Up_any (rdL p) (IsP_rd p) 23 w)
  rw [u1] at HUQ
  have LU := Lib.hid u2
  have HUT := Lib.hid (upL_lt (rdL p) 23)
  have EU1 := Lib.hid u3
  have EU2 := Lib.hid u4
  have HDQ := Lib.hid (fun w => Down_any (rdL p) (IsP_rd p) 524288 20 w)
  obtain ⟨d1, d2, d3⟩ := dn_back (rdL_len p) (pln_rd p) h3
  rw [h3] at HDQ
  have LD := Lib.hid d1
  have HDT := Lib.hid (dnL_lt (rdL p) 524288 20)
  have ED1 := Lib.hid d2
  have ED2 := Lib.hid d3
  generalize dnL (rdL p) 524288 20 = D at *
  clear d1 d2 d3
  generalize upL (rdL p) 23 = U at *
  clear u1 u2 u3 u4 h3
  obtain ⟨f1, f2⟩ := fd_back hb.1.2.2.1 h2
  have HD2 := Lib.hid (fun w => Down_any (fdP L 524288 bits) (fdP_IsP L 524288 bits) 524288 bits w)
  rw [f1, f2] at HD2
  clear f1 f2
  have HF1 := Lib.hid (fun w hb => FromUp_any A L.length cp L bits w hb)
  have HF2 := Lib.hid (fun w hb => FromDown_any A L.length cp L 524288 bits w hb)
  obtain ⟨k1, hk1⟩ : ∃ k : Nat, fuE L bits = k := ⟨_, rfl⟩
  rw [hk1] at HF1 h1
  have i1 : (((k1 : Nat) : Int) == 0) = false := beq_eq_false_iff_ne.2 (by omega)
  clear hk1
  rw [h2] at HF2
  clear h1 h2
  have LX1 := Lib.hid (fuP_IsP L bits).1
  have LX2 := Lib.hid (fdP_IsP L 524288 bits).1
  generalize fuP L bits = X1 at *
  generalize fdP L 524288 bits = X2 at *
  have LQ := Lib.hid (rdL_len p)
  have LP := Lib.hid hp.1
  generalize rdL p = q at *
  have heq := fun w => eqQ q LQ.out w
  have hne := fun w => neQ q LQ.out w
  have B0 := Lib.hid (Blk.new w 23 (iv p))
  have BEL := Lib.hid ((Below.refl w.heap.size w).alloc (Nat.le_refl _) (.cells (iv p).toArray 23))
  have HB := Lib.hid (hb.below BEL.out)
  clear hb hp
  have z23 := zero23
  go_enter Try.func4, Try.ntmps4
  go_wp2_with fail
  refine (HA.out _).mono ?_
  rintro e w1 ⟨rfl, hb⟩
  have bel1 := BEL.out.trans (hb.mono BEL.out.size)
  have B2 := Lib.hid (B0.out.below' hb)
  have Y3 := Lib.hid (HB.out.below hb)
  clear B0 HB hb
  go_wp2_with (first | (refine wpList_load_row rfl 23 (.tmp 4) rfl w.heap.size rfl 23 (iv p).toArray (0, 0) _ B2.out Try.underlying23 rfl (j23 LP.out) ?_))
  refine (HQ.out _).mono ?_
  rintro e w2 ⟨rfl, hb⟩
  have bel4 := bel1.trans (hb.mono bel1.size)
  have B5 := Lib.hid (B2.out.below' hb)
  have Y6 := Lib.hid (Y3.out.below hb)
  clear bel1 B2 Y3 hb
  go_wp2_with (first | (refine wpList_store_row rfl 23 (.tmp 8) (.tmp 27) rfl w2.heap.size (iv q).toArray rfl rfl 23 (iv zerI).toArray (Blk.new w2 23 (iv zerI)) (j23 LQ.out) (zz LQ.out) (iv_all _) ?_; generalize hW : World.setRow _ _ _ = v8; obtain ⟨hg9, hD10⟩ := newfacts hW; clear hW; have bel11 := bel4.trans (Below.mono hg9 bel4.size); have B12 := Lib.hid (B5.out.gr hg9); have Y13 := Lib.hid (Y6.out.below hg9); have B14 := Lib.hid hD10; clear bel4 B5 Y6 hg9 hD10; generalize w2.heap.size = G7 at *))
  refine (HF1.out _ Y13.out).mono ?_
  rintro e w3 ⟨rfl, hb⟩
  have bel15 := bel11.trans (hb.mono bel11.size)
  have B16 := Lib.hid (B14.out.below' hb)
  have Y17 := Lib.hid (Y13.out.below hb)
  clear bel11 B14 Y13 hb
  go_wp2_with (first | (refine wpList_store_row rfl 23 (.tmp 9) (.tmp 32) rfl w3.heap.size (iv X1).toArray rfl rfl 23 (iv zerI).toArray (Blk.new w3 23 (iv zerI)) (j23 LX1.out) (zz LX1.out) (iv_all _) ?_; generalize hW : World.setRow _ _ _ = v19; obtain ⟨hg20, hD21⟩ := newfacts hW; clear hW; have bel22 := bel15.trans (Below.mono hg20 bel15.size); have B23 := Lib.hid (B16.out.gr hg20); have Y24 := Lib.hid (Y17.out.below hg20); have B25 := Lib.hid hD21; clear bel15 B16 Y17 hg20 hD21; generalize w3.heap.size = G18 at *))
  refine (HF2.out _ Y24.out).mono ?_
  rintro e w4 ⟨rfl, hb⟩
  have bel26 := bel22.trans (hb.mono bel22.size)
  have B27 := Lib.hid (B23.out.below' hb)
  have B28 := Lib.hid (B25.out.below' hb)
  have Y29 := Lib.hid (Y24.out.below hb)
  clear bel22 B23 B25 Y24 hb
  go_wp2_with (first | (refine wpList_store_row rfl 23 (.tmp 11) (.tmp 38) rfl w4.heap.size (iv X2).toArray rfl rfl 23 (iv zerI).toArray (Blk.new w4 23 (iv zerI)) (j23 LX2.out) (zz LX2.out) (iv_all _) ?_; generalize hW : World.setRow _ _ _ = v31; obtain ⟨hg32, hD33⟩ := newfacts hW; clear hW; have bel34 := bel26.trans (Below.mono hg32 bel26.size); have B35 := Lib.hid (B27.out.gr hg32); have B36 := Lib.hid (B28.out.gr hg32); have Y37 := Lib.hid (Y29.out.below hg32); have B38 := Lib.hid hD33; clear bel26 B27 B28 Y29 hg32 hD33; generalize w4.heap.size = G30 at *) | (refine wpList_load_row rfl 23 (.tmp 11) rfl G30 rfl 23 (iv X2).toArray (0, 0) _ B38.out Try.underlying23 rfl (j23 LX2.out) ?_))
  refine (HD2.out _).mono ?_
  rintro e w_39 ⟨v, rfl, ho, hb⟩
  obtain ⟨Ab, cb, rfl, hyb, _⟩ := own_in ho HLT.out HLL.out
  clear ho
  have bel40 := bel34.trans (hb.mono bel34.size)
  have B41 := Lib.hid (B35.out.below' hb)
  have B42 := Lib.hid (B36.out.below' hb)
  have B43 := Lib.hid (B38.out.below' hb)
  have Y44 := Lib.hid (Y37.out.below hb)
  clear bel34 B35 B36 B38 Y37 hb
  have Y45 := Lib.hid hyb
  clear hyb
  have HS := Lib.hid (fun c d => same_eq Ab A L.length c d L w_39 Y45.out.1 Y44.out.1)
  clear Y45
  go_wp2_with fail
  refine (HS.out _ _).mono ?_
  rintro e w_46 ⟨rfl, hb⟩
  clear HS
  have bel47 := bel40.trans (hb.mono bel40.size)
  have B48 := Lib.hid (B41.out.below' hb)
  have B49 := Lib.hid (B42.out.below' hb)
  have B50 := Lib.hid (B43.out.below' hb)
  have Y51 := Lib.hid (Y44.out.below hb)
  clear bel40 B41 B42 B43 Y44 hb
  go_wp2_with (first | (refine wpList_load_row rfl 23 (.tmp 8) rfl G7 rfl 23 (iv q).toArray (0, 0) _ B48.out Try.underlying23 rfl (j23 LQ.out) ?_))
  refine (HUQ.out _).mono ?_
  rintro e w_52 ⟨v, rfl, ho, hb⟩
  rw [LU.out] at ho
  obtain ⟨Au, cu, rfl, hyu, _⟩ := own_in ho HUT.out (by decide)
  clear ho
  have bel53 := bel47.trans (hb.mono bel47.size)
  have B54 := Lib.hid (B48.out.below' hb)
  have B55 := Lib.hid (B49.out.below' hb)
  have B56 := Lib.hid (B50.out.below' hb)
  have Y57 := Lib.hid (Y51.out.below hb)
  clear bel47 B48 B49 B50 Y51 hb
  have Yu_ := Lib.hid hyu
  clear hyu
  go_wp2_with fail
  refine (HFU.out Au 736 cu U 23 _ Yu_.out).mono ?_
  rw [EU1.out, EU2.out]
  rintro e w_58 ⟨rfl, hb⟩
  have bel59 := bel53.trans (hb.mono bel53.size)
  have B60 := Lib.hid (B54.out.below' hb)
  have B61 := Lib.hid (B55.out.below' hb)
  have B62 := Lib.hid (B56.out.below' hb)
  have Y63 := Lib.hid (Y57.out.below hb)
  have Y64 := Lib.hid (Yu_.out.below hb)
  clear bel53 B54 B55 B56 Y57 Yu_ hb
  go_wp2_with (first | (refine wpList_store_row rfl 23 (.tmp 19) (.tmp 80) rfl w_58.heap.size (iv q).toArray rfl rfl 23 (iv zerI).toArray (Blk.new w_58 23 (iv zerI)) (j23 LQ.out) (zz LQ.out) (iv_all _) ?_; generalize hW : World.setRow _ _ _ = v66; obtain ⟨hg67, hD68⟩ := newfacts hW; clear hW; have bel69 := bel59.trans (Below.mono hg67 bel59.size); have B70 := Lib.hid (B60.out.gr hg67); have B71 := Lib.hid (B61.out.gr hg67); have B72 := Lib.hid (B62.out.gr hg67); have Y73 := Lib.hid (Y63.out.below hg67); have Y74 := Lib.hid (Y64.out.below hg67); have B75 := Lib.hid hD68; clear bel59 B60 B61 B62 Y63 Y64 hg67 hD68; generalize w_58.heap.size = G65 at *) | (refine wpList_load_row rfl 23 (.tmp 8) rfl G7 rfl 23 (iv q).toArray (0, 0) _ B70.out Try.underlying23 rfl (j23 LQ.out) ?_))
  refine (HDQ.out _).mono ?_
  rintro e w_76 ⟨v, rfl, ho, hb⟩
  rw [LD.out] at ho
  obtain ⟨Ad, cd, rfl, hyd, _⟩ := own_in ho HDT.out (by decide)
  clear ho
  have bel77 := bel69.trans (hb.mono bel69.size)
  have B78 := Lib.hid (B70.out.below' hb)
  have B79 := Lib.hid (B71.out.below' hb)
  have B80 := Lib.hid (B72.out.below' hb)
  have B81 := Lib.hid (B75.out.below' hb)
  have Y82 := Lib.hid (Y73.out.below hb)
  clear bel69 B70 B71 B72 B75 Y73 hb
  have Yd_ := Lib.hid hyd
  clear hyd
  go_wp2_with fail
  refine (HFD.out Ad 640 cd D 524288 20 _ Yd_.out).mono ?_
  rw [ED1.out, ED2.out]
  rintro e w_83 ⟨rfl, hb⟩
  have bel84 := bel77.trans (hb.mono bel77.size)
  have B85 := Lib.hid (B78.out.below' hb)
  have B86 := Lib.hid (B79.out.below' hb)
  have B87 := Lib.hid (B80.out.below' hb)
  have B88 := Lib.hid (B81.out.below' hb)
  have Y89 := Lib.hid (Y82.out.below hb)
  have Y90 := Lib.hid (Yd_.out.below hb)
  clear bel77 B78 B79 B80 B81 Y82 Yd_ hb
  go_wp2_with (first | (refine wpList_store_row rfl 23 (.tmp 23) (.tmp 92) rfl w_83.heap.size (iv q).toArray rfl rfl 23 (iv zerI).toArray (Blk.new w_83 23 (iv zerI)) (j23 LQ.out) (zz LQ.out) (iv_all _) ?_; generalize hW : World.setRow _ _ _ = v92; obtain ⟨hg93, hD94⟩ := newfacts hW; clear hW; have bel95 := bel84.trans (Below.mono hg93 bel84.size); have B96 := Lib.hid (B85.out.gr hg93); have B97 := Lib.hid (B86.out.gr hg93); have B98 := Lib.hid (B87.out.gr hg93); have B99 := Lib.hid (B88.out.gr hg93); have Y100 := Lib.hid (Y89.out.below hg93); have Y101 := Lib.hid (Y90.out.below hg93); have B102 := Lib.hid hD94; clear bel84 B85 B86 B87 B88 Y89 Y90 hg93 hD94; generalize w_83.heap.size = G91 at *) | (refine ldwM 23 (.tmp 23) rfl G91 0 rfl (iv q) _ (blk_all B102.out) Try.underlying23 rfl (i23 LQ.out) 2 false rfl 96 rfl rfl ?_) | (refine ldwM 23 (.tmp 8) rfl G7 0 rfl (iv q) _ (blk_all B96.out) Try.underlying23 rfl (i23 LQ.out) 2 false rfl 96 rfl rfl ?_) | (refine ldwM 23 (.tmp 19) rfl G65 0 rfl (iv q) _ (blk_all B99.out) Try.underlying23 rfl (i23 LQ.out) 9 true rfl 115 rfl rfl ?_) | (refine ldwM 23 (.tmp 8) rfl G7 0 rfl (iv q) _ (blk_all B96.out) Try.underlying23 rfl (i23 LQ.out) 9 true rfl 115 rfl rfl ?_))
  go_ret
  exact ⟨rfl, bel95⟩
set_option maxRecDepth 100000 in
set_option maxHeartbeats 8000000 in
theorem back_nyn (A : Option Addr) (cp : Nat) (L : List Nat) (p : List Int) (hp : IsP p) (bits : Int) (w : World) (hb : BIn w A L.length cp L) (h1 : fuE L bits ≠ 0) (h2 : fdE L 524288 bits = 0) (h3 : dnE (rdL p) 524288 20 ≠ 0) : Calls Try.prog 4 #[.slice A L.length cp, .agg (iv p).toArray, .int .i64 bits] w fun e w' => e = .returned (.bool true) ∧ Below w.heap.size w w' := by
  have HLT := Lib.hid hb.1.2.2.1
  have HLL := Lib.hid hb.2.2.2.1
  have HA := Lib.hid (fun w => awake_any w)
  have HQ := Lib.hid (fun w => dReduce_any p hp w)
  have HFU := Lib.hid FromUp_any
  have HFD := Lib.hid FromDown_any
  obtain ⟨u1, u2, u3, u4⟩ := up_back (rdL_len p) (pln_rd p)
  have HUQ := Lib.hid (fun w => Up_any (rdL p) (IsP_rd p) 23 w)
  rw [u1] at HUQ
  have LU := Lib.hid u2
  have HUT := Lib.hid (upL_lt (rdL p) 23)
  have EU1 := Lib.hid u3
  have EU2 := Lib.hid u4
  have HDQ := Lib.hid (fun w => Down_any (rdL p) (IsP_rd p) 524288 20 w)
  obtain ⟨k3, hk3⟩ : ∃ k : Nat, dnE (rdL p) 524288 20 = k := ⟨_, rfl⟩
  rw [hk3] at HDQ h3
  have i3 : (((k3 : Nat) : Int) == 0) = false := beq_eq_false_iff_ne.2 (by omega)
  clear hk3
  generalize upL (rdL p) 23 = U at *
  clear u1 u2 u3 u4 h3
  obtain ⟨f1, f2⟩ := fd_back hb.1.2.2.1 h2
  have HD2 := Lib.hid (fun w => Down_any (fdP L 524288 bits) (fdP_IsP L 524288 bits) 524288 bits w)
  rw [f1, f2] at HD2
  clear f1 f2
  have HF1 := Lib.hid (fun w hb => FromUp_any A L.length cp L bits w hb)
  have HF2 := Lib.hid (fun w hb => FromDown_any A L.length cp L 524288 bits w hb)
  obtain ⟨k1, hk1⟩ : ∃ k : Nat, fuE L bits = k := ⟨_, rfl⟩
  rw [hk1] at HF1 h1
  have i1 : (((k1 : Nat) : Int) == 0) = false := beq_eq_false_iff_ne.2 (by omega)
  clear hk1
  rw [h2] at HF2
  clear h1 h2
  have LX1 := Lib.hid (fuP_IsP L bits).1
  have LX2 := Lib.hid (fdP_IsP L 524288 bits).1
  generalize fuP L bits = X1 at *
  generalize fdP L 524288 bits = X2 at *
  have LQ := Lib.hid (rdL_len p)
  have LP := Lib.hid hp.1
  generalize rdL p = q at *
  have heq := fun w => eqQ q LQ.out w
  have hne := fun w => neQ q LQ.out w
  have B0 := Lib.hid (Blk.new w 23 (iv p))
  have BEL := Lib.hid ((Below.refl w.heap.size w).alloc (Nat.le_refl _) (.cells (iv p).toArray 23))
  have HB := Lib.hid (hb.below BEL.out)
  clear hb hp
  have z23 := zero23
  go_enter Try.func4, Try.ntmps4
  go_wp2_with fail
  refine (HA.out _).mono ?_
  rintro e w1 ⟨rfl, hb⟩
  have bel1 := BEL.out.trans (hb.mono BEL.out.size)
  have B2 := Lib.hid (B0.out.below' hb)
  have Y3 := Lib.hid (HB.out.below hb)
  clear B0 HB hb
  go_wp2_with (first | (refine wpList_load_row rfl 23 (.tmp 4) rfl w.heap.size rfl 23 (iv p).toArray (0, 0) _ B2.out Try.underlying23 rfl (j23 LP.out) ?_))
  refine (HQ.out _).mono ?_
  rintro e w2 ⟨rfl, hb⟩
  have bel4 := bel1.trans (hb.mono bel1.size)
  have B5 := Lib.hid (B2.out.below' hb)
  have Y6 := Lib.hid (Y3.out.below hb)
  clear bel1 B2 Y3 hb
  go_wp2_with (first | (refine wpList_store_row rfl 23 (.tmp 8) (.tmp 27) rfl w2.heap.size (iv q).toArray rfl rfl 23 (iv zerI).toArray (Blk.new w2 23 (iv zerI)) (j23 LQ.out) (zz LQ.out) (iv_all _) ?_; generalize hW : World.setRow _ _ _ = v8; obtain ⟨hg9, hD10⟩ := newfacts hW; clear hW; have bel11 := bel4.trans (Below.mono hg9 bel4.size); have B12 := Lib.hid (B5.out.gr hg9); have Y13 := Lib.hid (Y6.out.below hg9); have B14 := Lib.hid hD10; clear bel4 B5 Y6 hg9 hD10; generalize w2.heap.size = G7 at *))
  refine (HF1.out _ Y13.out).mono ?_
  rintro e w3 ⟨rfl, hb⟩
  have bel15 := bel11.trans (hb.mono bel11.size)
  have B16 := Lib.hid (B14.out.below' hb)
  have Y17 := Lib.hid (Y13.out.below hb)
  clear bel11 B14 Y13 hb
  go_wp2_with (first | (refine wpList_store_row rfl 23 (.tmp 9) (.tmp 32) rfl w3.heap.size (iv X1).toArray rfl rfl 23 (iv zerI).toArray (Blk.new w3 23 (iv zerI)) (j23 LX1.out) (zz LX1.out) (iv_all _) ?_; generalize hW : World.setRow _ _ _ = v19; obtain ⟨hg20, hD21⟩ := newfacts hW; clear hW; have bel22 := bel15.trans (Below.mono hg20 bel15.size); have B23 := Lib.hid (B16.out.gr hg20); have Y24 := Lib.hid (Y17.out.below hg20); have B25 := Lib.hid hD21; clear bel15 B16 Y17 hg20 hD21; generalize w3.heap.size = G18 at *))
  refine (HF2.out _ Y24.out).mono ?_
  rintro e w4 ⟨rfl, hb⟩
  have bel26 := bel22.trans (hb.mono bel22.size)
  have B27 := Lib.hid (B23.out.below' hb)
  have B28 := Lib.hid (B25.out.below' hb)
  have Y29 := Lib.hid (Y24.out.below hb)
  clear bel22 B23 B25 Y24 hb
  go_wp2_with (first | (refine wpList_store_row rfl 23 (.tmp 11) (.tmp 38) rfl w4.heap.size (iv X2).toArray rfl rfl 23 (iv zerI).toArray (Blk.new w4 23 (iv zerI)) (j23 LX2.out) (zz LX2.out) (iv_all _) ?_; generalize hW : World.setRow _ _ _ = v31; obtain ⟨hg32, hD33⟩ := newfacts hW; clear hW; have bel34 := bel26.trans (Below.mono hg32 bel26.size); have B35 := Lib.hid (B27.out.gr hg32); have B36 := Lib.hid (B28.out.gr hg32); have Y37 := Lib.hid (Y29.out.below hg32); have B38 := Lib.hid hD33; clear bel26 B27 B28 Y29 hg32 hD33; generalize w4.heap.size = G30 at *) | (refine wpList_load_row rfl 23 (.tmp 11) rfl G30 rfl 23 (iv X2).toArray (0, 0) _ B38.out Try.underlying23 rfl (j23 LX2.out) ?_))
  refine (HD2.out _).mono ?_
  rintro e w_39 ⟨v, rfl, ho, hb⟩
  obtain ⟨Ab, cb, rfl, hyb, _⟩ := own_in ho HLT.out HLL.out
  clear ho
  have bel40 := bel34.trans (hb.mono bel34.size)
  have B41 := Lib.hid (B35.out.below' hb)
  have B42 := Lib.hid (B36.out.below' hb)
  have B43 := Lib.hid (B38.out.below' hb)
  have Y44 := Lib.hid (Y37.out.below hb)
  clear bel34 B35 B36 B38 Y37 hb
  have Y45 := Lib.hid hyb
  clear hyb
  have HS := Lib.hid (fun c d => same_eq Ab A L.length c d L w_39 Y45.out.1 Y44.out.1)
  clear Y45
  go_wp2_with fail
  refine (HS.out _ _).mono ?_
  rintro e w_46 ⟨rfl, hb⟩
  clear HS
  have bel47 := bel40.trans (hb.mono bel40.size)
  have B48 := Lib.hid (B41.out.below' hb)
  have B49 := Lib.hid (B42.out.below' hb)
  have B50 := Lib.hid (B43.out.below' hb)
  have Y51 := Lib.hid (Y44.out.below hb)
  clear bel40 B41 B42 B43 Y44 hb
  go_wp2_with (first | (refine wpList_load_row rfl 23 (.tmp 8) rfl G7 rfl 23 (iv q).toArray (0, 0) _ B48.out Try.underlying23 rfl (j23 LQ.out) ?_))
  refine (HUQ.out _).mono ?_
  rintro e w_52 ⟨v, rfl, ho, hb⟩
  rw [LU.out] at ho
  obtain ⟨Au, cu, rfl, hyu, _⟩ := own_in ho HUT.out (by decide)
  clear ho
  have bel53 := bel47.trans (hb.mono bel47.size)
  have B54 := Lib.hid (B48.out.below' hb)
  have B55 := Lib.hid (B49.out.below' hb)
  have B56 := Lib.hid (B50.out.below' hb)
  have Y57 := Lib.hid (Y51.out.below hb)
  clear bel47 B48 B49 B50 Y51 hb
  have Yu_ := Lib.hid hyu
  clear hyu
  go_wp2_with fail
  refine (HFU.out Au 736 cu U 23 _ Yu_.out).mono ?_
  rw [EU1.out, EU2.out]
  rintro e w_58 ⟨rfl, hb⟩
  have bel59 := bel53.trans (hb.mono bel53.size)
  have B60 := Lib.hid (B54.out.below' hb)
  have B61 := Lib.hid (B55.out.below' hb)
  have B62 := Lib.hid (B56.out.below' hb)
  have Y63 := Lib.hid (Y57.out.below hb)
  have Y64 := Lib.hid (Yu_.out.below hb)
  clear bel53 B54 B55 B56 Y57 Yu_ hb
  go_wp2_with (first | (refine wpList_store_row rfl 23 (.tmp 19) (.tmp 80) rfl w_58.heap.size (iv q).toArray rfl rfl 23 (iv zerI).toArray (Blk.new w_58 23 (iv zerI)) (j23 LQ.out) (zz LQ.out) (iv_all _) ?_; generalize hW : World.setRow _ _ _ = v66; obtain ⟨hg67, hD68⟩ := newfacts hW; clear hW; have bel69 := bel59.trans (Below.mono hg67 bel59.size); have B70 := Lib.hid (B60.out.gr hg67); have B71 := Lib.hid (B61.out.gr hg67); have B72 := Lib.hid (B62.out.gr hg67); have Y73 := Lib.hid (Y63.out.below hg67); have Y74 := Lib.hid (Y64.out.below hg67); have B75 := Lib.hid hD68; clear bel59 B60 B61 B62 Y63 Y64 hg67 hD68; generalize w_58.heap.size = G65 at *) | (refine wpList_load_row rfl 23 (.tmp 8) rfl G7 rfl 23 (iv q).toArray (0, 0) _ B70.out Try.underlying23 rfl (j23 LQ.out) ?_))
  refine (HDQ.out _).mono ?_
  rintro e w_76 ⟨v, rfl, ho, hb⟩
  obtain ⟨Ad, cd, rfl⟩ := own_slice ho
  clear ho
  have bel77 := bel69.trans (hb.mono bel69.size)
  have B78 := Lib.hid (B70.out.below' hb)
  have B79 := Lib.hid (B71.out.below' hb)
  have B80 := Lib.hid (B72.out.below' hb)
  have B81 := Lib.hid (B75.out.below' hb)
  have Y82 := Lib.hid (Y73.out.below hb)
  clear bel69 B70 B71 B72 B75 Y73 hb
  go_wp2_with (first | (refine ldwM 23 (.tmp 19) rfl G65 0 rfl (iv q) _ (blk_all B81.out) Try.underlying23 rfl (i23 LQ.out) 9 true rfl 115 rfl rfl ?_) | (refine ldwM 23 (.tmp 8) rfl G7 0 rfl (iv q) _ (blk_all B78.out) Try.underlying23 rfl (i23 LQ.out) 9 true rfl 115 rfl rfl ?_))
  go_ret
  exact ⟨rfl, bel77⟩
end Go.Proofs.YtkpbephjjhfigaaR
