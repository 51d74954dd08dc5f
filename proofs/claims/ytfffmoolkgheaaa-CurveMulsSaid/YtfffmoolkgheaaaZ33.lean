/- Parts of proofs of statements, each text behind those that it stands on. No condition of its own. -/
import Derived.Test.YtfffmoolkgheaaaZ22
import Derived.Test.YtfffmoolkgheaaaZ26
namespace Go.Proofs.Ytfffmoolkgheaaa
open Go.RowKit
set_option linter.unusedVariables false
set_option linter.unusedSimpArgs false
set_option maxRecDepth 100000 in
set_option maxHeartbeats 6400000 in
theorem dadd_d {lx ly my lp sy up dn q1 sq p1 p2 d2 iv l l2 x1 nx e1 e2 ny : List Nat} (hlx : lx.length = 4) (hly : ly.length = 4) (hmy : my.length = 4) (hlp : lp.length = 4) (hsy : sy.length = 4) (hup : up.length = 4) (hdn : dn.length = 4) (hq1 : q1.length = 4) (hsq : sq.length = 4) (hp1 : p1.length = 4) (hp2 : p2.length = 4) (hd2 : d2.length = 4) (hiv : iv.length = 4) (hl : l.length = 4) (hl2 : l2.length = 4) (hx1 : x1.length = 4) (hnx : nx.length = 4) (he1 : e1.length = 4) (he2 : e2.length = 4) (hny : ny.length = 4)
    (c1 : ∀ w, Calls Try.prog 56 #[] w fun e w' => e = .returned (.agg (natsV .u64 lp).toArray) ∧ Below w.heap.size w w')
    (c2 : ∀ w, Calls Try.prog 46 #[.agg (natsV .u64 ly).toArray, .agg (natsV .u64 my).toArray, .agg (natsV .u64 lp).toArray] w fun e w' => e = .returned (.agg (natsV .u64 sy).toArray) ∧ Below w.heap.size w w')
    (c3 : ∀ w, Calls Try.prog 74 #[.agg (natsV .u64 my).toArray, .agg (natsV .u64 ly).toArray, .agg (natsV .u64 lp).toArray] w fun e w' => e = .returned (.agg (natsV .u64 up).toArray) ∧ Below w.heap.size w w')
    (c4 : ∀ w, Calls Try.prog 74 #[.agg (natsV .u64 lx).toArray, .agg (natsV .u64 lx).toArray, .agg (natsV .u64 lp).toArray] w fun e w' => e = .returned (.agg (natsV .u64 dn).toArray) ∧ Below w.heap.size w w')
    (c5 : ∀ w, Calls Try.prog 65 #[.agg (natsV .u64 lx).toArray, .agg (natsV .u64 lx).toArray, .agg (natsV .u64 lp).toArray] w fun e w' => e = .returned (.agg (natsV .u64 q1).toArray) ∧ Below w.heap.size w w')
    (c6 : ∀ w, Calls Try.prog 74 #[.agg (natsV .u64 q1).toArray, .agg #[.int .u64 1, .int .u64 0, .int .u64 0, .int .u64 0], .agg (natsV .u64 lp).toArray] w fun e w' => e = .returned (.agg (natsV .u64 sq).toArray) ∧ Below w.heap.size w w')
    (c7 : ∀ w, Calls Try.prog 46 #[.agg (natsV .u64 sq).toArray, .agg (natsV .u64 sq).toArray, .agg (natsV .u64 lp).toArray] w fun e w' => e = .returned (.agg (natsV .u64 p1).toArray) ∧ Below w.heap.size w w')
    (c8 : ∀ w, Calls Try.prog 46 #[.agg (natsV .u64 p1).toArray, .agg (natsV .u64 sq).toArray, .agg (natsV .u64 lp).toArray] w fun e w' => e = .returned (.agg (natsV .u64 p2).toArray) ∧ Below w.heap.size w w')
    (c9 : ∀ w, Calls Try.prog 46 #[.agg (natsV .u64 ly).toArray, .agg (natsV .u64 ly).toArray, .agg (natsV .u64 lp).toArray] w fun e w' => e = .returned (.agg (natsV .u64 d2).toArray) ∧ Below w.heap.size w w')
    (c10 : ∀ w, Calls Try.prog 84 #[.agg (natsV .u64 d2).toArray, .agg (natsV .u64 lp).toArray] w fun e w' => e = .returned (.agg (natsV .u64 iv).toArray) ∧ Below w.heap.size w w')
    (c11 : ∀ w, Calls Try.prog 65 #[.agg (natsV .u64 p2).toArray, .agg (natsV .u64 iv).toArray, .agg (natsV .u64 lp).toArray] w fun e w' => e = .returned (.agg (natsV .u64 l).toArray) ∧ Below w.heap.size w w')
    (c12 : ∀ w, Calls Try.prog 65 #[.agg (natsV .u64 l).toArray, .agg (natsV .u64 l).toArray, .agg (natsV .u64 lp).toArray] w fun e w' => e = .returned (.agg (natsV .u64 l2).toArray) ∧ Below w.heap.size w w')
    (c13 : ∀ w, Calls Try.prog 74 #[.agg (natsV .u64 l2).toArray, .agg (natsV .u64 lx).toArray, .agg (natsV .u64 lp).toArray] w fun e w' => e = .returned (.agg (natsV .u64 x1).toArray) ∧ Below w.heap.size w w')
    (c14 : ∀ w, Calls Try.prog 74 #[.agg (natsV .u64 x1).toArray, .agg (natsV .u64 lx).toArray, .agg (natsV .u64 lp).toArray] w fun e w' => e = .returned (.agg (natsV .u64 nx).toArray) ∧ Below w.heap.size w w')
    (c15 : ∀ w, Calls Try.prog 74 #[.agg (natsV .u64 lx).toArray, .agg (natsV .u64 nx).toArray, .agg (natsV .u64 lp).toArray] w fun e w' => e = .returned (.agg (natsV .u64 e1).toArray) ∧ Below w.heap.size w w')
    (c16 : ∀ w, Calls Try.prog 65 #[.agg (natsV .u64 l).toArray, .agg (natsV .u64 e1).toArray, .agg (natsV .u64 lp).toArray] w fun e w' => e = .returned (.agg (natsV .u64 e2).toArray) ∧ Below w.heap.size w w')
    (c17 : ∀ w, Calls Try.prog 74 #[.agg (natsV .u64 e2).toArray, .agg (natsV .u64 ly).toArray, .agg (natsV .u64 lp).toArray] w fun e w' => e = .returned (.agg (natsV .u64 ny).toArray) ∧ Below w.heap.size w w') (h4 : ¬ sy = zeros 4) (w : World) :
    Calls Try.prog 39 #[.agg (pv lx ly false).toArray, .agg (pv lx my false).toArray] w fun e w' => e = .returned (.agg (pv nx ny false).toArray) ∧ Below w.heap.size w w' := by
  have L_lx := Lib.hid hlx
  clear hlx
  have L_ly := Lib.hid hly
  clear hly
  have L_my := Lib.hid hmy
  clear hmy
  have L_lp := Lib.hid hlp
  clear hlp
  have L_sy := Lib.hid hsy
  clear hsy
  have L_up := Lib.hid hup
  clear hup
  have L_dn := Lib.hid hdn
  clear hdn
  have L_q1 := Lib.hid hq1
  clear hq1
  have L_sq := Lib.hid hsq
  clear hsq
  have L_p1 := Lib.hid hp1
  clear hp1
  have L_p2 := Lib.hid hp2
  clear hp2
  have L_d2 := Lib.hid hd2
  clear hd2
  have L_iv := Lib.hid hiv
  clear hiv
  have L_l := Lib.hid hl
  clear hl
  have L_l2 := Lib.hid hl2
  clear hl2
  have L_x1 := Lib.hid hx1
  clear hx1
  have L_nx := Lib.hid hnx
  clear hnx
  have L_e1 := Lib.hid he1
  clear he1
  have L_e2 := Lib.hid he2
  clear he2
  have L_ny := Lib.hid hny
  clear hny
  have Hc1 := Lib.hid c1
  clear c1
  have Hc2 := Lib.hid c2
  clear c2
  have Hc3 := Lib.hid c3
  clear c3
  have Hc4 := Lib.hid c4
  clear c4
  have Hc5 := Lib.hid c5
  clear c5
  have Hc6 := Lib.hid c6
  clear c6
  have Hc7 := Lib.hid c7
  clear c7
  have Hc8 := Lib.hid c8
  clear c8
  have Hc9 := Lib.hid c9
  clear c9
  have Hc10 := Lib.hid c10
  clear c10
  have Hc11 := Lib.hid c11
  clear c11
  have Hc12 := Lib.hid c12
  clear c12
  have Hc13 := Lib.hid c13
  clear c13
  have Hc14 := Lib.hid c14
  clear c14
  have Hc15 := Lib.hid c15
  clear c15
  have Hc16 := Lib.hid c16
  clear c16
  have Hc17 := Lib.hid c17
  clear c17
  have Q3 := Lib.hid (fun w => (eql24 lx lx L_lx.out L_lx.out w).trans (by rw [decide_eq_true rfl]))
  have Q4 := Lib.hid (fun w => (eqZ24 sy L_sy.out w).trans (by rw [decide_eq_false h4]))
  clear h4
  have B0_ := Lib.hid (((Blk.new w  43 (pv lx ly false)).alloc (.cells (pv lx my false).toArray 43)).alloc (.cells (pv (zeros 4) (zeros 4) false).toArray 43))
  have B1_ := Lib.hid ((Blk.new2 w (.cells (pv lx ly false).toArray 43) 43 (pv lx my false)).alloc (.cells (pv (zeros 4) (zeros 4) false).toArray 43))
  have B2_ := Lib.hid (Blk.new3 w (.cells (pv lx ly false).toArray 43) (.cells (pv lx my false).toArray 43) 43 (pv (zeros 4) (zeros 4) false))
  have bel_ := ((((Below.refl w.heap.size w).alloc (Nat.le_refl _) (.cells (pv lx ly false).toArray 43)).alloc (by simp) (.cells (pv lx my false).toArray 43)).alloc (by simp; omega) (.cells (pv (zeros 4) (zeros 4) false).toArray 43))
  go_enter Try.func39, Try.ntmps39
  have qf3 := Q3.out
  have qf4 := Q4.out
  go_wp2_with fail
  refine (Hc1.out _).mono ?_
  rintro e w1 ⟨rfl, hbw1⟩
  have C2 := Lib.hid (B0_.out.gr hbw1)
  clear B0_
  have C3 := Lib.hid (B1_.out.gr hbw1)
  clear B1_
  have C4 := Lib.hid (B2_.out.gr hbw1)
  clear B2_
  have hbel5 := bel_.trans (Below.mono hbw1 bel_.size)
  clear bel_
  clear hbw1
  go_wp2_with (first | (refine stB rfl 24 (.tmp 5) (.tmp 12) rfl w1.heap.size rfl (natsV .u64 lp) rfl 24 (natsV .u64 (zeros 4)) (Blk.new w1 24 (natsV .u64 (zeros 4))) (i24 L_lp.out) (lenEq (show (natsV .u64 (zeros 4)).length = 4 from rfl) (by rw [natsV_length, L_lp.out])) (natsV_one _ _) ?_; generalize hW : World.setRow _ _ _ = w6; obtain ⟨hgw6, hnw6⟩ := newfacts hW; clear hW; have C9 := Lib.hid (C2.out.gr hgw6); clear C2; have C10 := Lib.hid (C3.out.gr hgw6); clear C3; have C11 := Lib.hid (C4.out.gr hgw6); clear C4; have hbel12 := hbel5.trans (Below.mono hgw6 hbel5.size); clear hbel5; have D8 := Lib.hid hnw6; have szw6 := hgw6.size; clear hnw6 hgw6 szw6; generalize w1.heap.size = G7 at *; have ci13 := pv_i C9.out L_lx.out L_ly.out; have ci14 := pv_i C10.out L_lx.out L_my.out) | (refine wpList_load_mid rfl 24 (.tmp 19) rfl w.heap.size 0 rfl (natsV .u64 lx) _ (pv_x (C9.out)) Try.underlying24 rfl (i24 L_lx.out) ?_) | (refine wpList_load_mid rfl 24 (.tmp 21) rfl (w.heap.size + 1) 0 rfl (natsV .u64 lx) _ (pv_x (C10.out)) Try.underlying24 rfl (i24 L_lx.out) ?_) | (refine ldwM 24 (.tmp 25) rfl w.heap.size 4 rfl (natsV .u64 ly) _ (pv_y (C9.out) L_lx.out) Try.underlying24 rfl (i24 L_ly.out) 5 true rfl 24 rfl rfl ?_) | (refine ldwM 24 (.tmp 27) rfl (w.heap.size + 1) 4 rfl (natsV .u64 my) _ (pv_y (C10.out) L_lx.out) Try.underlying24 rfl (i24 L_my.out) 5 true rfl 24 rfl rfl ?_) | (refine ldwM 24 (.tmp 5) rfl G7 0 rfl (natsV .u64 lp) _ (blk_all (D8.out)) Try.underlying24 rfl (i24 L_lp.out) 5 true rfl 24 rfl rfl ?_))
  refine (Hc2.out _).mono ?_
  rintro e w15 ⟨rfl, hbw15⟩
  have C16 := Lib.hid (C9.out.gr hbw15)
  clear C9
  have C17 := Lib.hid (C10.out.gr hbw15)
  clear C10
  have C18 := Lib.hid (C11.out.gr hbw15)
  clear C11
  have C19 := Lib.hid (D8.out.gr hbw15)
  clear D8
  have hbel20 := hbel12.trans (Below.mono hbw15 hbel12.size)
  clear hbel12
  clear hbw15
  go_wp2_with (first | (refine wpList_load_mid rfl 24 (.tmp 35) rfl (w.heap.size + 1) 4 rfl (natsV .u64 my) _ (pv_y (C17.out) L_lx.out) Try.underlying24 rfl (i24 L_my.out) ?_) | (refine wpList_load_mid rfl 24 (.tmp 37) rfl w.heap.size 4 rfl (natsV .u64 ly) _ (pv_y (C16.out) L_lx.out) Try.underlying24 rfl (i24 L_ly.out) ?_) | (refine wpList_load_mid rfl 24 (.tmp 5) rfl G7 0 rfl (natsV .u64 lp) _ (blk_all (C19.out)) Try.underlying24 rfl (i24 L_lp.out) ?_))
  refine (Hc3.out _).mono ?_
  rintro e w21 ⟨rfl, hbw21⟩
  have C22 := Lib.hid (C16.out.gr hbw21)
  clear C16
  have C23 := Lib.hid (C17.out.gr hbw21)
  clear C17
  have C24 := Lib.hid (C18.out.gr hbw21)
  clear C18
  have C25 := Lib.hid (C19.out.gr hbw21)
  clear C19
  have hbel26 := hbel20.trans (Below.mono hbw21 hbel20.size)
  clear hbel20
  clear hbw21
  go_wp2_with (first | (refine stB rfl 24 (.tmp 6) (.tmp 40) rfl w21.heap.size rfl (natsV .u64 up) rfl 24 (natsV .u64 (zeros 4)) (Blk.new w21 24 (natsV .u64 (zeros 4))) (i24 L_up.out) (lenEq (show (natsV .u64 (zeros 4)).length = 4 from rfl) (by rw [natsV_length, L_up.out])) (natsV_one _ _) ?_; generalize hW : World.setRow _ _ _ = w27; obtain ⟨hgw27, hnw27⟩ := newfacts hW; clear hW; have NE30 := Lib.hid (Nat.ne_of_lt (C22.out.lt)); have NE31 := Lib.hid (Nat.ne_of_lt (C23.out.lt)); have NE32 := Lib.hid (Nat.ne_of_lt (C24.out.lt)); have NE33 := Lib.hid (Nat.ne_of_lt (C25.out.lt)); have GE34 := Lib.hid hbel26.size; have C35 := Lib.hid (C22.out.gr hgw27); clear C22; have C36 := Lib.hid (C23.out.gr hgw27); clear C23; have C37 := Lib.hid (C24.out.gr hgw27); clear C24; have C38 := Lib.hid (C25.out.gr hgw27); clear C25; have hbel39 := hbel26.trans (Below.mono hgw27 hbel26.size); clear hbel26; have D29 := Lib.hid hnw27; have szw27 := hgw27.size; clear hnw27 hgw27 szw27; generalize w21.heap.size = G28 at *) | (refine wpList_load_mid rfl 24 (.tmp 41) rfl (w.heap.size + 1) 0 rfl (natsV .u64 lx) _ (pv_x (C36.out)) Try.underlying24 rfl (i24 L_lx.out) ?_) | (refine wpList_load_mid rfl 24 (.tmp 43) rfl w.heap.size 0 rfl (natsV .u64 lx) _ (pv_x (C35.out)) Try.underlying24 rfl (i24 L_lx.out) ?_) | (refine wpList_load_mid rfl 24 (.tmp 5) rfl G7 0 rfl (natsV .u64 lp) _ (blk_all (C38.out)) Try.underlying24 rfl (i24 L_lp.out) ?_))
  refine (Hc4.out _).mono ?_
  rintro e w40 ⟨rfl, hbw40⟩
  have C41 := Lib.hid (C35.out.gr hbw40)
  clear C35
  have C42 := Lib.hid (C36.out.gr hbw40)
  clear C36
  have C43 := Lib.hid (C37.out.gr hbw40)
  clear C37
  have C44 := Lib.hid (C38.out.gr hbw40)
  clear C38
  have C45 := Lib.hid (D29.out.gr hbw40)
  clear D29
  have hbel46 := hbel39.trans (Below.mono hbw40 hbel39.size)
  clear hbel39
  clear hbw40
  go_wp2_with (first | (refine stB rfl 24 (.tmp 7) (.tmp 46) rfl w40.heap.size rfl (natsV .u64 dn) rfl 24 (natsV .u64 (zeros 4)) (Blk.new w40 24 (natsV .u64 (zeros 4))) (i24 L_dn.out) (lenEq (show (natsV .u64 (zeros 4)).length = 4 from rfl) (by rw [natsV_length, L_dn.out])) (natsV_one _ _) ?_; generalize hW : World.setRow _ _ _ = w47; obtain ⟨hgw47, hnw47⟩ := newfacts hW; clear hW; have NE50 := Lib.hid (Nat.ne_of_lt (C41.out.lt)); have NE51 := Lib.hid (Nat.ne_of_lt (C42.out.lt)); have NE52 := Lib.hid (Nat.ne_of_lt (C43.out.lt)); have NE53 := Lib.hid (Nat.ne_of_lt (C44.out.lt)); have NE54 := Lib.hid (Nat.ne_of_lt (C45.out.lt)); have GE55 := Lib.hid hbel46.size; have C56 := Lib.hid (C41.out.gr hgw47); clear C41; have C57 := Lib.hid (C42.out.gr hgw47); clear C42; have C58 := Lib.hid (C43.out.gr hgw47); clear C43; have C59 := Lib.hid (C44.out.gr hgw47); clear C44; have C60 := Lib.hid (C45.out.gr hgw47); clear C45; have hbel61 := hbel46.trans (Below.mono hgw47 hbel46.size); clear hbel46; have D49 := Lib.hid hnw47; have szw47 := hgw47.size; clear hnw47 hgw47 szw47; generalize w40.heap.size = G48 at *) | (refine wpList_load_mid rfl 24 (.tmp 47) rfl w.heap.size 0 rfl (natsV .u64 lx) _ (pv_x (C56.out)) Try.underlying24 rfl (i24 L_lx.out) ?_) | (refine wpList_load_mid rfl 24 (.tmp 49) rfl (w.heap.size + 1) 0 rfl (natsV .u64 lx) _ (pv_x (C57.out)) Try.underlying24 rfl (i24 L_lx.out) ?_))
  as_aux_lemma =>
  refine wp_region_G (fun w_ => Blk w_ w.heap.size 43 (pv lx ly false) ∧ Blk w_ G7 24 (natsV .u64 lp)) 10 (by kernel_rfl) ⟨C56.out.drew, C59.out.drew⟩ ?_
  refine wpAnyG_take (fun _ _ hS_ hb_ => ⟨hS_.1.gr hb_, hS_.2.gr hb_⟩) (i := 0) rfl (by kernel_rfl) (fun _ _ _ h => h) (pureG (by rfl) (by intro w; go_simp; first | done | with_reducible rfl)) ?_
  try simp only [Act.put, zq1, zq2, zq3, zq4, zq5, zq6]
  refine wpAnyG_take (fun _ _ hS_ hb_ => ⟨hS_.1.gr hb_, hS_.2.gr hb_⟩) (i := 1) rfl (by kernel_rfl) (fun _ _ _ h => h) (loadG (by rfl) _ _ rfl _ _ rfl (natsV .u64 lx) _ (fun _ hS_ => pv_x (hS_.1)) Try.underlying24 rfl (i24 L_lx.out)) ?_
  try simp only [Act.put, zq1, zq2, zq3, zq4, zq5, zq6]
  refine wpAnyG_take (fun _ _ hS_ hb_ => ⟨hS_.1.gr hb_, hS_.2.gr hb_⟩) (i := 2) rfl (by kernel_rfl) (fun _ _ _ h => h) (pureG (by rfl) (by intro w; go_simp; first | done | with_reducible rfl)) ?_
  try simp only [Act.put, zq1, zq2, zq3, zq4, zq5, zq6]
  refine wpAnyG_take (fun _ _ hS_ hb_ => ⟨hS_.1.gr hb_, hS_.2.gr hb_⟩) (i := 3) rfl (by kernel_rfl) (fun _ _ _ h => h) (loadG (by rfl) _ _ rfl _ _ rfl (natsV .u64 lx) _ (fun _ hS_ => pv_x (hS_.1)) Try.underlying24 rfl (i24 L_lx.out)) ?_
  try simp only [Act.put, zq1, zq2, zq3, zq4, zq5, zq6]
  refine wpAnyG_take (fun _ _ hS_ hb_ => ⟨hS_.1.gr hb_, hS_.2.gr hb_⟩) (i := 4) rfl (by kernel_rfl) (fun _ _ _ h => h) (loadG (by rfl) _ _ rfl _ _ rfl (natsV .u64 lp) _ (fun _ hS_ => blk_all (hS_.2)) Try.underlying24 rfl (i24 L_lp.out)) ?_
  try simp only [Act.put, zq1, zq2, zq3, zq4, zq5, zq6]
  refine wpAnyG_take (fun _ _ hS_ hb_ => ⟨hS_.1.gr hb_, hS_.2.gr hb_⟩) (i := 5) rfl (by kernel_rfl) (fun _ _ _ h => h) (callG (by rfl) rfl Try.func65 (by kernel_rfl) (by kernel_rfl) (#[.agg (natsV .u64 lx).toArray, .agg (natsV .u64 lx).toArray, .agg (natsV .u64 lp).toArray]) (by simp [Act.eval]) (fun w _ => Hc5.out w)) ?_
  try simp only [Act.put, zq1, zq2, zq3, zq4, zq5, zq6]
  refine wpAnyG_take (fun _ _ hS_ hb_ => ⟨hS_.1.gr hb_, hS_.2.gr hb_⟩) (i := 6) rfl (by kernel_rfl) (fun _ _ _ h => h) (pureG (by rfl) (by intro w; go_simp; first | done | with_reducible rfl)) ?_
  try simp only [Act.put, zq1, zq2, zq3, zq4, zq5, zq6]
  refine wpAnyG_take (fun _ _ hS_ hb_ => ⟨hS_.1.gr hb_, hS_.2.gr hb_⟩) (i := 7) rfl (by kernel_rfl) (fun _ _ _ h => h) (loadG (by rfl) _ _ rfl _ _ rfl (natsV .u64 lp) _ (fun _ hS_ => blk_all (hS_.2)) Try.underlying24 rfl (i24 L_lp.out)) ?_
  try simp only [Act.put, zq1, zq2, zq3, zq4, zq5, zq6]
  refine wpAnyG_take (fun _ _ hS_ hb_ => ⟨hS_.1.gr hb_, hS_.2.gr hb_⟩) (i := 8) rfl (by kernel_rfl) (fun _ _ _ h => h) (callG (by rfl) rfl Try.func74 (by kernel_rfl) (by kernel_rfl) (#[.agg (natsV .u64 q1).toArray, .agg #[.int .u64 1, .int .u64 0, .int .u64 0, .int .u64 0], .agg (natsV .u64 lp).toArray]) (by simp [Act.eval]) (fun w _ => Hc6.out w)) ?_
  try simp only [Act.put, zq1, zq2, zq3, zq4, zq5, zq6]
  refine wpAnyG_def (i := 9) (j := 10) (fun _ _ hS_ hb_ => ⟨hS_.1.gr hb_, hS_.2.gr hb_⟩) (by kernel_rfl) (by kernel_rfl) (by kernel_rfl) rfl rfl rfl (allocG (by rfl) rfl _ alloc24) (lenEq (show (natsV .u64 (zeros 4)).length = 4 from rfl) (by rw [natsV_length, L_sq.out])) (fun _ => StoresG.mk (cs := (natsV .u64 sq)) (by rfl) 24 _ _ rfl rfl rfl (i24 L_sq.out) (natsV_one _ _)) ?_
  intro w62 G63 hgw62 hz_ hn_
  try simp only [Act.put, zq1, zq2, zq3, zq4, zq5, zq6]
  have NE64 := Lib.hid (Nat.ne_of_lt (Nat.lt_of_lt_of_le C60.out.drew.lt hz_))
  have NE65 := Lib.hid (Nat.ne_of_lt (Nat.lt_of_lt_of_le D49.out.drew.lt hz_))
  have E66 := Lib.hid (C56.out.drew.gr hgw62)
  clear C56
  have E67 := Lib.hid (C57.out.drew.gr hgw62)
  clear C57
  have E68 := Lib.hid (C58.out.drew.gr hgw62)
  clear C58
  have E69 := Lib.hid (C59.out.drew.gr hgw62)
  clear C59
  have E70 := Lib.hid (C60.out.drew.gr hgw62)
  clear C60
  have E71 := Lib.hid (D49.out.drew.gr hgw62)
  clear D49
  have hbel72 := hbel61.drew.trans (Below.mono hgw62 hbel61.drew.size)
  clear hbel61
  have D73 := Lib.hid hn_
  clear hn_ hz_ hgw62
  as_aux_lemma =>
  go_wp2_with fail
  as_aux_lemma =>
  refine wp_region_G (fun w_ => Blk w_ G63 24 (natsV .u64 sq) ∧ Blk w_ G7 24 (natsV .u64 lp)) 7 (by kernel_rfl) ⟨D73.out.drew, E69.out.drew⟩ ?_
  refine wpAnyG_take (fun _ _ hS_ hb_ => ⟨hS_.1.gr hb_, hS_.2.gr hb_⟩) (i := 0) rfl (by kernel_rfl) (fun _ _ _ h => h) (loadG (by rfl) _ _ rfl _ _ rfl (natsV .u64 sq) _ (fun _ hS_ => blk_all (hS_.1)) Try.underlying24 rfl (i24 L_sq.out)) ?_
  try simp only [Act.put, zq1, zq2, zq3, zq4, zq5, zq6]
  refine wpAnyG_take (fun _ _ hS_ hb_ => ⟨hS_.1.gr hb_, hS_.2.gr hb_⟩) (i := 1) rfl (by kernel_rfl) (fun _ _ _ h => h) (loadG (by rfl) _ _ rfl _ _ rfl (natsV .u64 sq) _ (fun _ hS_ => blk_all (hS_.1)) Try.underlying24 rfl (i24 L_sq.out)) ?_
  try simp only [Act.put, zq1, zq2, zq3, zq4, zq5, zq6]
  refine wpAnyG_take (fun _ _ hS_ hb_ => ⟨hS_.1.gr hb_, hS_.2.gr hb_⟩) (i := 2) rfl (by kernel_rfl) (fun _ _ _ h => h) (loadG (by rfl) _ _ rfl _ _ rfl (natsV .u64 lp) _ (fun _ hS_ => blk_all (hS_.2)) Try.underlying24 rfl (i24 L_lp.out)) ?_
  try simp only [Act.put, zq1, zq2, zq3, zq4, zq5, zq6]
  refine wpAnyG_take (fun _ _ hS_ hb_ => ⟨hS_.1.gr hb_, hS_.2.gr hb_⟩) (i := 3) rfl (by kernel_rfl) (fun _ _ _ h => h) (callG (by rfl) rfl Try.func46 (by kernel_rfl) (by kernel_rfl) (#[.agg (natsV .u64 sq).toArray, .agg (natsV .u64 sq).toArray, .agg (natsV .u64 lp).toArray]) (by simp [Act.eval]) (fun w _ => Hc7.out w)) ?_
  try simp only [Act.put, zq1, zq2, zq3, zq4, zq5, zq6]
  refine wpAnyG_take (fun _ _ hS_ hb_ => ⟨hS_.1.gr hb_, hS_.2.gr hb_⟩) (i := 4) rfl (by kernel_rfl) (fun _ _ _ h => h) (loadG (by rfl) _ _ rfl _ _ rfl (natsV .u64 sq) _ (fun _ hS_ => blk_all (hS_.1)) Try.underlying24 rfl (i24 L_sq.out)) ?_
  try simp only [Act.put, zq1, zq2, zq3, zq4, zq5, zq6]
  refine wpAnyG_take (fun _ _ hS_ hb_ => ⟨hS_.1.gr hb_, hS_.2.gr hb_⟩) (i := 5) rfl (by kernel_rfl) (fun _ _ _ h => h) (loadG (by rfl) _ _ rfl _ _ rfl (natsV .u64 lp) _ (fun _ hS_ => blk_all (hS_.2)) Try.underlying24 rfl (i24 L_lp.out)) ?_
  try simp only [Act.put, zq1, zq2, zq3, zq4, zq5, zq6]
  refine wpAnyG_take (fun _ _ hS_ hb_ => ⟨hS_.1.gr hb_, hS_.2.gr hb_⟩) (i := 6) rfl (by kernel_rfl) (fun _ _ _ h => h) (callG (by rfl) rfl Try.func46 (by kernel_rfl) (by kernel_rfl) (#[.agg (natsV .u64 p1).toArray, .agg (natsV .u64 sq).toArray, .agg (natsV .u64 lp).toArray]) (by simp [Act.eval]) (fun w _ => Hc8.out w)) ?_
  try simp only [Act.put, zq1, zq2, zq3, zq4, zq5, zq6]
  refine wpAnyG_set (i := 7) (by kernel_rfl) (by kernel_rfl) rfl rfl E70.out.drew (lenEq (by rw [natsV_length, L_up.out]) (by rw [natsV_length, L_p2.out])) (StoresG.mk (cs := (natsV .u64 p2)) (by rfl) 24 _ _ rfl rfl rfl (i24 L_p2.out) (natsV_one _ _)) ?_
  intro w74 hgw74 hn_
  try simp only [Act.put, zq1, zq2, zq3, zq4, zq5, zq6]
  have E75 := Lib.hid (E66.out.drew.grown hgw74 (fun e => NE30.out (Option.some.inj e)))
  clear E66
  have E76 := Lib.hid (E67.out.drew.grown hgw74 (fun e => NE31.out (Option.some.inj e)))
  clear E67
  have E77 := Lib.hid (E68.out.drew.grown hgw74 (fun e => NE32.out (Option.some.inj e)))
  clear E68
  have E78 := Lib.hid (E69.out.drew.grown hgw74 (fun e => NE33.out (Option.some.inj e)))
  clear E69
  have E79 := Lib.hid (E71.out.drew.grown hgw74 (fun e => (Ne.symm NE54.out) (Option.some.inj e)))
  clear E71
  have E80 := Lib.hid (D73.out.drew.grown hgw74 (fun e => (Ne.symm NE64.out) (Option.some.inj e)))
  clear D73
  have D81 := Lib.hid hn_
  clear hn_ E70
  have hbel82 := belStore hbel72.drew hgw74 (GE34.out)
  clear hgw74
  as_aux_lemma =>
  go_wp2_with (first | (refine wpList_load_mid rfl 24 (.tmp 68) rfl w.heap.size 4 rfl (natsV .u64 ly) _ (pv_y (E75.out) L_lx.out) Try.underlying24 rfl (i24 L_ly.out) ?_) | (refine wpList_load_mid rfl 24 (.tmp 70) rfl w.heap.size 4 rfl (natsV .u64 ly) _ (pv_y (E75.out) L_lx.out) Try.underlying24 rfl (i24 L_ly.out) ?_) | (refine wpList_load_mid rfl 24 (.tmp 5) rfl G7 0 rfl (natsV .u64 lp) _ (blk_all (E78.out)) Try.underlying24 rfl (i24 L_lp.out) ?_))
  refine (Hc9.out _).mono ?_
  rintro e w83 ⟨rfl, hbw83⟩
  have C84 := Lib.hid (E75.out.gr hbw83)
  clear E75
  have C85 := Lib.hid (E76.out.gr hbw83)
  clear E76
  have C86 := Lib.hid (E77.out.gr hbw83)
  clear E77
  have C87 := Lib.hid (E78.out.gr hbw83)
  clear E78
  have C88 := Lib.hid (D81.out.gr hbw83)
  clear D81
  have C89 := Lib.hid (E79.out.gr hbw83)
  clear E79
  have C90 := Lib.hid (E80.out.gr hbw83)
  clear E80
  have hbel91 := hbel82.trans (Below.mono hbw83 hbel82.size)
  clear hbel82
  clear hbw83
  go_wp2_with (first | (refine stB rfl 24 (.tmp 7) (.tmp 73) rfl G48 rfl (natsV .u64 d2) rfl 24 (natsV .u64 dn) C89.out (i24 L_d2.out) (lenEq (by rw [natsV_length, L_dn.out]) (by rw [natsV_length, L_d2.out])) (natsV_one _ _) ?_; generalize hW : World.setRow _ _ _ = w92; obtain ⟨hgw92, hnw92⟩ := setfacts hW C89.out; clear hW; have E93 := Lib.hid (C84.out.grown hgw92 (fun e => NE50.out (Option.some.inj e))); clear C84; have E94 := Lib.hid (C85.out.grown hgw92 (fun e => NE51.out (Option.some.inj e))); clear C85; have E95 := Lib.hid (C86.out.grown hgw92 (fun e => NE52.out (Option.some.inj e))); clear C86; have E96 := Lib.hid (C87.out.grown hgw92 (fun e => NE53.out (Option.some.inj e))); clear C87; have E97 := Lib.hid (C88.out.grown hgw92 (fun e => NE54.out (Option.some.inj e))); clear C88; have E98 := Lib.hid (C90.out.grown hgw92 (fun e => (Ne.symm NE65.out) (Option.some.inj e))); clear C90; have D99 := Lib.hid hnw92; clear hnw92 C89; have hbel100 := belStore hbel91 hgw92 (GE55.out); clear hgw92; clear hbel91))
  as_aux_lemma =>
  refine wp_region_G (fun w_ => Blk w_ G28 24 (natsV .u64 p2) ∧ Blk w_ G48 24 (natsV .u64 d2) ∧ Blk w_ G7 24 (natsV .u64 lp)) 7 (by kernel_rfl) ⟨E97.out.drew, D99.out.drew, E96.out.drew⟩ ?_
  refine wpAnyG_take (fun _ _ hS_ hb_ => ⟨hS_.1.gr hb_, hS_.2.1.gr hb_, hS_.2.2.gr hb_⟩) (i := 0) rfl (by kernel_rfl) (fun _ _ _ h => h) (loadG (by rfl) _ _ rfl _ _ rfl (natsV .u64 p2) _ (fun _ hS_ => blk_all (hS_.1)) Try.underlying24 rfl (i24 L_p2.out)) ?_
  try simp only [Act.put, zq1, zq2, zq3, zq4, zq5, zq6]
  refine wpAnyG_take (fun _ _ hS_ hb_ => ⟨hS_.1.gr hb_, hS_.2.1.gr hb_, hS_.2.2.gr hb_⟩) (i := 1) rfl (by kernel_rfl) (fun _ _ _ h => h) (loadG (by rfl) _ _ rfl _ _ rfl (natsV .u64 d2) _ (fun _ hS_ => blk_all (hS_.2.1)) Try.underlying24 rfl (i24 L_d2.out)) ?_
  try simp only [Act.put, zq1, zq2, zq3, zq4, zq5, zq6]
  refine wpAnyG_take (fun _ _ hS_ hb_ => ⟨hS_.1.gr hb_, hS_.2.1.gr hb_, hS_.2.2.gr hb_⟩) (i := 2) rfl (by kernel_rfl) (fun _ _ _ h => h) (loadG (by rfl) _ _ rfl _ _ rfl (natsV .u64 lp) _ (fun _ hS_ => blk_all (hS_.2.2)) Try.underlying24 rfl (i24 L_lp.out)) ?_
  try simp only [Act.put, zq1, zq2, zq3, zq4, zq5, zq6]
  refine wpAnyG_take (fun _ _ hS_ hb_ => ⟨hS_.1.gr hb_, hS_.2.1.gr hb_, hS_.2.2.gr hb_⟩) (i := 3) rfl (by kernel_rfl) (fun _ _ _ h => h) (callG (by rfl) rfl Try.func84 (by kernel_rfl) (by kernel_rfl) (#[.agg (natsV .u64 d2).toArray, .agg (natsV .u64 lp).toArray]) (by simp [Act.eval]) (fun w _ => Hc10.out w)) ?_
  try simp only [Act.put, zq1, zq2, zq3, zq4, zq5, zq6]
  refine wpAnyG_take (fun _ _ hS_ hb_ => ⟨hS_.1.gr hb_, hS_.2.1.gr hb_, hS_.2.2.gr hb_⟩) (i := 4) rfl (by kernel_rfl) (fun _ _ _ h => h) (loadG (by rfl) _ _ rfl _ _ rfl (natsV .u64 lp) _ (fun _ hS_ => blk_all (hS_.2.2)) Try.underlying24 rfl (i24 L_lp.out)) ?_
  try simp only [Act.put, zq1, zq2, zq3, zq4, zq5, zq6]
  refine wpAnyG_take (fun _ _ hS_ hb_ => ⟨hS_.1.gr hb_, hS_.2.1.gr hb_, hS_.2.2.gr hb_⟩) (i := 5) rfl (by kernel_rfl) (fun _ _ _ h => h) (callG (by rfl) rfl Try.func65 (by kernel_rfl) (by kernel_rfl) (#[.agg (natsV .u64 p2).toArray, .agg (natsV .u64 iv).toArray, .agg (natsV .u64 lp).toArray]) (by simp [Act.eval]) (fun w _ => Hc11.out w)) ?_
  try simp only [Act.put, zq1, zq2, zq3, zq4, zq5, zq6]
  refine wpAnyG_def (i := 6) (j := 7) (fun _ _ hS_ hb_ => ⟨hS_.1.gr hb_, hS_.2.1.gr hb_, hS_.2.2.gr hb_⟩) (by kernel_rfl) (by kernel_rfl) (by kernel_rfl) rfl rfl rfl (allocG (by rfl) rfl _ alloc24) (lenEq (show (natsV .u64 (zeros 4)).length = 4 from rfl) (by rw [natsV_length, L_l.out])) (fun _ => StoresG.mk (cs := (natsV .u64 l)) (by rfl) 24 _ _ rfl rfl rfl (i24 L_l.out) (natsV_one _ _)) ?_
  intro w101 G102 hgw101 hz_ hn_
  try simp only [Act.put, zq1, zq2, zq3, zq4, zq5, zq6]
  have NE103 := Lib.hid (Nat.ne_of_lt (Nat.lt_of_lt_of_le E97.out.drew.lt hz_))
  have NE104 := Lib.hid (Nat.ne_of_lt (Nat.lt_of_lt_of_le D99.out.drew.lt hz_))
  have E105 := Lib.hid (E93.out.drew.gr hgw101)
  clear E93
  have E106 := Lib.hid (E94.out.drew.gr hgw101)
  clear E94
  have E107 := Lib.hid (E95.out.drew.gr hgw101)
  clear E95
  have E108 := Lib.hid (E96.out.drew.gr hgw101)
  clear E96
  have E109 := Lib.hid (E97.out.drew.gr hgw101)
  clear E97
  have E110 := Lib.hid (D99.out.drew.gr hgw101)
  clear D99
  have E111 := Lib.hid (E98.out.drew.gr hgw101)
  clear E98
  have hbel112 := hbel100.drew.trans (Below.mono hgw101 hbel100.drew.size)
  clear hbel100
  have D113 := Lib.hid hn_
  clear hn_ hz_ hgw101
  as_aux_lemma =>
  go_wp2_with fail
  as_aux_lemma =>
  refine wp_region_G (fun w_ => Blk w_ G102 24 (natsV .u64 l) ∧ Blk w_ G7 24 (natsV .u64 lp) ∧ Blk w_ w.heap.size 43 (pv lx ly false) ∧ Blk w_ (w.heap.size + 1) 43 (pv lx my false)) 13 (by kernel_rfl) ⟨D113.out.drew, E108.out.drew, E105.out.drew, E106.out.drew⟩ ?_
  refine wpAnyG_take (fun _ _ hS_ hb_ => ⟨hS_.1.gr hb_, hS_.2.1.gr hb_, hS_.2.2.1.gr hb_, hS_.2.2.2.gr hb_⟩) (i := 0) rfl (by kernel_rfl) (fun _ _ _ h => h) (loadG (by rfl) _ _ rfl _ _ rfl (natsV .u64 l) _ (fun _ hS_ => blk_all (hS_.1)) Try.underlying24 rfl (i24 L_l.out)) ?_
  try simp only [Act.put, zq1, zq2, zq3, zq4, zq5, zq6]
  refine wpAnyG_take (fun _ _ hS_ hb_ => ⟨hS_.1.gr hb_, hS_.2.1.gr hb_, hS_.2.2.1.gr hb_, hS_.2.2.2.gr hb_⟩) (i := 1) rfl (by kernel_rfl) (fun _ _ _ h => h) (loadG (by rfl) _ _ rfl _ _ rfl (natsV .u64 l) _ (fun _ hS_ => blk_all (hS_.1)) Try.underlying24 rfl (i24 L_l.out)) ?_
  try simp only [Act.put, zq1, zq2, zq3, zq4, zq5, zq6]
  refine wpAnyG_take (fun _ _ hS_ hb_ => ⟨hS_.1.gr hb_, hS_.2.1.gr hb_, hS_.2.2.1.gr hb_, hS_.2.2.2.gr hb_⟩) (i := 2) rfl (by kernel_rfl) (fun _ _ _ h => h) (loadG (by rfl) _ _ rfl _ _ rfl (natsV .u64 lp) _ (fun _ hS_ => blk_all (hS_.2.1)) Try.underlying24 rfl (i24 L_lp.out)) ?_
  try simp only [Act.put, zq1, zq2, zq3, zq4, zq5, zq6]
  refine wpAnyG_take (fun _ _ hS_ hb_ => ⟨hS_.1.gr hb_, hS_.2.1.gr hb_, hS_.2.2.1.gr hb_, hS_.2.2.2.gr hb_⟩) (i := 3) rfl (by kernel_rfl) (fun _ _ _ h => h) (callG (by rfl) rfl Try.func65 (by kernel_rfl) (by kernel_rfl) (#[.agg (natsV .u64 l).toArray, .agg (natsV .u64 l).toArray, .agg (natsV .u64 lp).toArray]) (by simp [Act.eval]) (fun w _ => Hc12.out w)) ?_
  try simp only [Act.put, zq1, zq2, zq3, zq4, zq5, zq6]
  refine wpAnyG_take (fun _ _ hS_ hb_ => ⟨hS_.1.gr hb_, hS_.2.1.gr hb_, hS_.2.2.1.gr hb_, hS_.2.2.2.gr hb_⟩) (i := 4) rfl (by kernel_rfl) (fun _ _ _ h => h) (pureG (by rfl) (by intro w; go_simp; first | done | with_reducible rfl)) ?_
  try simp only [Act.put, zq1, zq2, zq3, zq4, zq5, zq6]
  refine wpAnyG_take (fun _ _ hS_ hb_ => ⟨hS_.1.gr hb_, hS_.2.1.gr hb_, hS_.2.2.1.gr hb_, hS_.2.2.2.gr hb_⟩) (i := 5) rfl (by kernel_rfl) (fun _ _ _ h => h) (loadG (by rfl) _ _ rfl _ _ rfl (natsV .u64 lx) _ (fun _ hS_ => pv_x (hS_.2.2.1)) Try.underlying24 rfl (i24 L_lx.out)) ?_
  try simp only [Act.put, zq1, zq2, zq3, zq4, zq5, zq6]
  refine wpAnyG_take (fun _ _ hS_ hb_ => ⟨hS_.1.gr hb_, hS_.2.1.gr hb_, hS_.2.2.1.gr hb_, hS_.2.2.2.gr hb_⟩) (i := 6) rfl (by kernel_rfl) (fun _ _ _ h => h) (loadG (by rfl) _ _ rfl _ _ rfl (natsV .u64 lp) _ (fun _ hS_ => blk_all (hS_.2.1)) Try.underlying24 rfl (i24 L_lp.out)) ?_
  try simp only [Act.put, zq1, zq2, zq3, zq4, zq5, zq6]
  refine wpAnyG_take (fun _ _ hS_ hb_ => ⟨hS_.1.gr hb_, hS_.2.1.gr hb_, hS_.2.2.1.gr hb_, hS_.2.2.2.gr hb_⟩) (i := 7) rfl (by kernel_rfl) (fun _ _ _ h => h) (callG (by rfl) rfl Try.func74 (by kernel_rfl) (by kernel_rfl) (#[.agg (natsV .u64 l2).toArray, .agg (natsV .u64 lx).toArray, .agg (natsV .u64 lp).toArray]) (by simp [Act.eval]) (fun w _ => Hc13.out w)) ?_
  try simp only [Act.put, zq1, zq2, zq3, zq4, zq5, zq6]
  refine wpAnyG_take (fun _ _ hS_ hb_ => ⟨hS_.1.gr hb_, hS_.2.1.gr hb_, hS_.2.2.1.gr hb_, hS_.2.2.2.gr hb_⟩) (i := 8) rfl (by kernel_rfl) (fun _ _ _ h => h) (pureG (by rfl) (by intro w; go_simp; first | done | with_reducible rfl)) ?_
  try simp only [Act.put, zq1, zq2, zq3, zq4, zq5, zq6]
  refine wpAnyG_take (fun _ _ hS_ hb_ => ⟨hS_.1.gr hb_, hS_.2.1.gr hb_, hS_.2.2.1.gr hb_, hS_.2.2.2.gr hb_⟩) (i := 9) rfl (by kernel_rfl) (fun _ _ _ h => h) (loadG (by rfl) _ _ rfl _ _ rfl (natsV .u64 lx) _ (fun _ hS_ => pv_x (hS_.2.2.2)) Try.underlying24 rfl (i24 L_lx.out)) ?_
  try simp only [Act.put, zq1, zq2, zq3, zq4, zq5, zq6]
  refine wpAnyG_take (fun _ _ hS_ hb_ => ⟨hS_.1.gr hb_, hS_.2.1.gr hb_, hS_.2.2.1.gr hb_, hS_.2.2.2.gr hb_⟩) (i := 10) rfl (by kernel_rfl) (fun _ _ _ h => h) (loadG (by rfl) _ _ rfl _ _ rfl (natsV .u64 lp) _ (fun _ hS_ => blk_all (hS_.2.1)) Try.underlying24 rfl (i24 L_lp.out)) ?_
  try simp only [Act.put, zq1, zq2, zq3, zq4, zq5, zq6]
  refine wpAnyG_take (fun _ _ hS_ hb_ => ⟨hS_.1.gr hb_, hS_.2.1.gr hb_, hS_.2.2.1.gr hb_, hS_.2.2.2.gr hb_⟩) (i := 11) rfl (by kernel_rfl) (fun _ _ _ h => h) (callG (by rfl) rfl Try.func74 (by kernel_rfl) (by kernel_rfl) (#[.agg (natsV .u64 x1).toArray, .agg (natsV .u64 lx).toArray, .agg (natsV .u64 lp).toArray]) (by simp [Act.eval]) (fun w _ => Hc14.out w)) ?_
  try simp only [Act.put, zq1, zq2, zq3, zq4, zq5, zq6]
  refine wpAnyG_def (i := 12) (j := 13) (fun _ _ hS_ hb_ => ⟨hS_.1.gr hb_, hS_.2.1.gr hb_, hS_.2.2.1.gr hb_, hS_.2.2.2.gr hb_⟩) (by kernel_rfl) (by kernel_rfl) (by kernel_rfl) rfl rfl rfl (allocG (by rfl) rfl _ alloc24) (lenEq (show (natsV .u64 (zeros 4)).length = 4 from rfl) (by rw [natsV_length, L_nx.out])) (fun _ => StoresG.mk (cs := (natsV .u64 nx)) (by rfl) 24 _ _ rfl rfl rfl (i24 L_nx.out) (natsV_one _ _)) ?_
  intro w114 G115 hgw114 hz_ hn_
  try simp only [Act.put, zq1, zq2, zq3, zq4, zq5, zq6]
  have NE116 := Lib.hid (Nat.ne_of_lt (Nat.lt_of_lt_of_le E109.out.drew.lt hz_))
  have NE117 := Lib.hid (Nat.ne_of_lt (Nat.lt_of_lt_of_le E110.out.drew.lt hz_))
  have E118 := Lib.hid (E105.out.drew.gr hgw114)
  clear E105
  have E119 := Lib.hid (E106.out.drew.gr hgw114)
  clear E106
  have E120 := Lib.hid (E107.out.drew.gr hgw114)
  clear E107
  have E121 := Lib.hid (E108.out.drew.gr hgw114)
  clear E108
  have E122 := Lib.hid (E109.out.drew.gr hgw114)
  clear E109
  have E123 := Lib.hid (E110.out.drew.gr hgw114)
  clear E110
  have E124 := Lib.hid (E111.out.drew.gr hgw114)
  clear E111
  have E125 := Lib.hid (D113.out.drew.gr hgw114)
  clear D113
  have hbel126 := hbel112.drew.trans (Below.mono hgw114 hbel112.drew.size)
  clear hbel112
  have D127 := Lib.hid hn_
  clear hn_ hz_ hgw114
  as_aux_lemma =>
  go_wp2_with fail
  as_aux_lemma =>
  refine wp_region_G (fun w_ => Blk w_ G102 24 (natsV .u64 l) ∧ Blk w_ w.heap.size 43 (pv lx ly false) ∧ Blk w_ G115 24 (natsV .u64 nx) ∧ Blk w_ G7 24 (natsV .u64 lp)) 13 (by kernel_rfl) ⟨E125.out.drew, E118.out.drew, D127.out.drew, E121.out.drew⟩ ?_
  refine wpAnyG_take (fun _ _ hS_ hb_ => ⟨hS_.1.gr hb_, hS_.2.1.gr hb_, hS_.2.2.1.gr hb_, hS_.2.2.2.gr hb_⟩) (i := 0) rfl (by kernel_rfl) (fun _ _ _ h => h) (loadG (by rfl) _ _ rfl _ _ rfl (natsV .u64 l) _ (fun _ hS_ => blk_all (hS_.1)) Try.underlying24 rfl (i24 L_l.out)) ?_
  try simp only [Act.put, zq1, zq2, zq3, zq4, zq5, zq6]
  refine wpAnyG_take (fun _ _ hS_ hb_ => ⟨hS_.1.gr hb_, hS_.2.1.gr hb_, hS_.2.2.1.gr hb_, hS_.2.2.2.gr hb_⟩) (i := 1) rfl (by kernel_rfl) (fun _ _ _ h => h) (pureG (by rfl) (by intro w; go_simp; first | done | with_reducible rfl)) ?_
  try simp only [Act.put, zq1, zq2, zq3, zq4, zq5, zq6]
  refine wpAnyG_take (fun _ _ hS_ hb_ => ⟨hS_.1.gr hb_, hS_.2.1.gr hb_, hS_.2.2.1.gr hb_, hS_.2.2.2.gr hb_⟩) (i := 2) rfl (by kernel_rfl) (fun _ _ _ h => h) (loadG (by rfl) _ _ rfl _ _ rfl (natsV .u64 lx) _ (fun _ hS_ => pv_x (hS_.2.1)) Try.underlying24 rfl (i24 L_lx.out)) ?_
  try simp only [Act.put, zq1, zq2, zq3, zq4, zq5, zq6]
  refine wpAnyG_take (fun _ _ hS_ hb_ => ⟨hS_.1.gr hb_, hS_.2.1.gr hb_, hS_.2.2.1.gr hb_, hS_.2.2.2.gr hb_⟩) (i := 3) rfl (by kernel_rfl) (fun _ _ _ h => h) (loadG (by rfl) _ _ rfl _ _ rfl (natsV .u64 nx) _ (fun _ hS_ => blk_all (hS_.2.2.1)) Try.underlying24 rfl (i24 L_nx.out)) ?_
  try simp only [Act.put, zq1, zq2, zq3, zq4, zq5, zq6]
  refine wpAnyG_take (fun _ _ hS_ hb_ => ⟨hS_.1.gr hb_, hS_.2.1.gr hb_, hS_.2.2.1.gr hb_, hS_.2.2.2.gr hb_⟩) (i := 4) rfl (by kernel_rfl) (fun _ _ _ h => h) (loadG (by rfl) _ _ rfl _ _ rfl (natsV .u64 lp) _ (fun _ hS_ => blk_all (hS_.2.2.2)) Try.underlying24 rfl (i24 L_lp.out)) ?_
  try simp only [Act.put, zq1, zq2, zq3, zq4, zq5, zq6]
  refine wpAnyG_take (fun _ _ hS_ hb_ => ⟨hS_.1.gr hb_, hS_.2.1.gr hb_, hS_.2.2.1.gr hb_, hS_.2.2.2.gr hb_⟩) (i := 5) rfl (by kernel_rfl) (fun _ _ _ h => h) (callG (by rfl) rfl Try.func74 (by kernel_rfl) (by kernel_rfl) (#[.agg (natsV .u64 lx).toArray, .agg (natsV .u64 nx).toArray, .agg (natsV .u64 lp).toArray]) (by simp [Act.eval]) (fun w _ => Hc15.out w)) ?_
  try simp only [Act.put, zq1, zq2, zq3, zq4, zq5, zq6]
  refine wpAnyG_take (fun _ _ hS_ hb_ => ⟨hS_.1.gr hb_, hS_.2.1.gr hb_, hS_.2.2.1.gr hb_, hS_.2.2.2.gr hb_⟩) (i := 6) rfl (by kernel_rfl) (fun _ _ _ h => h) (loadG (by rfl) _ _ rfl _ _ rfl (natsV .u64 lp) _ (fun _ hS_ => blk_all (hS_.2.2.2)) Try.underlying24 rfl (i24 L_lp.out)) ?_
  try simp only [Act.put, zq1, zq2, zq3, zq4, zq5, zq6]
  refine wpAnyG_take (fun _ _ hS_ hb_ => ⟨hS_.1.gr hb_, hS_.2.1.gr hb_, hS_.2.2.1.gr hb_, hS_.2.2.2.gr hb_⟩) (i := 7) rfl (by kernel_rfl) (fun _ _ _ h => h) (callG (by rfl) rfl Try.func65 (by kernel_rfl) (by kernel_rfl) (#[.agg (natsV .u64 l).toArray, .agg (natsV .u64 e1).toArray, .agg (natsV .u64 lp).toArray]) (by simp [Act.eval]) (fun w _ => Hc16.out w)) ?_
  try simp only [Act.put, zq1, zq2, zq3, zq4, zq5, zq6]
  refine wpAnyG_take (fun _ _ hS_ hb_ => ⟨hS_.1.gr hb_, hS_.2.1.gr hb_, hS_.2.2.1.gr hb_, hS_.2.2.2.gr hb_⟩) (i := 8) rfl (by kernel_rfl) (fun _ _ _ h => h) (pureG (by rfl) (by intro w; go_simp; first | done | with_reducible rfl)) ?_
  try simp only [Act.put, zq1, zq2, zq3, zq4, zq5, zq6]
  refine wpAnyG_take (fun _ _ hS_ hb_ => ⟨hS_.1.gr hb_, hS_.2.1.gr hb_, hS_.2.2.1.gr hb_, hS_.2.2.2.gr hb_⟩) (i := 9) rfl (by kernel_rfl) (fun _ _ _ h => h) (loadG (by rfl) _ _ rfl _ _ rfl (natsV .u64 ly) _ (fun _ hS_ => pv_y (hS_.2.1) L_lx.out) Try.underlying24 rfl (i24 L_ly.out)) ?_
  try simp only [Act.put, zq1, zq2, zq3, zq4, zq5, zq6]
  refine wpAnyG_take (fun _ _ hS_ hb_ => ⟨hS_.1.gr hb_, hS_.2.1.gr hb_, hS_.2.2.1.gr hb_, hS_.2.2.2.gr hb_⟩) (i := 10) rfl (by kernel_rfl) (fun _ _ _ h => h) (loadG (by rfl) _ _ rfl _ _ rfl (natsV .u64 lp) _ (fun _ hS_ => blk_all (hS_.2.2.2)) Try.underlying24 rfl (i24 L_lp.out)) ?_
  try simp only [Act.put, zq1, zq2, zq3, zq4, zq5, zq6]
  refine wpAnyG_take (fun _ _ hS_ hb_ => ⟨hS_.1.gr hb_, hS_.2.1.gr hb_, hS_.2.2.1.gr hb_, hS_.2.2.2.gr hb_⟩) (i := 11) rfl (by kernel_rfl) (fun _ _ _ h => h) (callG (by rfl) rfl Try.func74 (by kernel_rfl) (by kernel_rfl) (#[.agg (natsV .u64 e2).toArray, .agg (natsV .u64 ly).toArray, .agg (natsV .u64 lp).toArray]) (by simp [Act.eval]) (fun w _ => Hc17.out w)) ?_
  try simp only [Act.put, zq1, zq2, zq3, zq4, zq5, zq6]
  refine wpAnyG_def (i := 12) (j := 13) (fun _ _ hS_ hb_ => ⟨hS_.1.gr hb_, hS_.2.1.gr hb_, hS_.2.2.1.gr hb_, hS_.2.2.2.gr hb_⟩) (by kernel_rfl) (by kernel_rfl) (by kernel_rfl) rfl rfl rfl (allocG (by rfl) rfl _ alloc24) (lenEq (show (natsV .u64 (zeros 4)).length = 4 from rfl) (by rw [natsV_length, L_ny.out])) (fun _ => StoresG.mk (cs := (natsV .u64 ny)) (by rfl) 24 _ _ rfl rfl rfl (i24 L_ny.out) (natsV_one _ _)) ?_
  intro w128 G129 hgw128 hz_ hn_
  try simp only [Act.put, zq1, zq2, zq3, zq4, zq5, zq6]
  have NE130 := Lib.hid (Nat.ne_of_lt (Nat.lt_of_lt_of_le E122.out.drew.lt hz_))
  have NE131 := Lib.hid (Nat.ne_of_lt (Nat.lt_of_lt_of_le E123.out.drew.lt hz_))
  have E132 := Lib.hid (E118.out.drew.gr hgw128)
  clear E118
  have E133 := Lib.hid (E119.out.drew.gr hgw128)
  clear E119
  have E134 := Lib.hid (E120.out.drew.gr hgw128)
  clear E120
  have E135 := Lib.hid (E121.out.drew.gr hgw128)
  clear E121
  have E136 := Lib.hid (E122.out.drew.gr hgw128)
  clear E122
  have E137 := Lib.hid (E123.out.drew.gr hgw128)
  clear E123
  have E138 := Lib.hid (E124.out.drew.gr hgw128)
  clear E124
  have E139 := Lib.hid (E125.out.drew.gr hgw128)
  clear E125
  have E140 := Lib.hid (D127.out.drew.gr hgw128)
  clear D127
  have hbel141 := hbel126.drew.trans (Below.mono hgw128 hbel126.drew.size)
  clear hbel126
  have D142 := Lib.hid hn_
  clear hn_ hz_ hgw128
  as_aux_lemma =>
  go_upto_region 17 with (fail)
  try simp only [Act.put, zq1, zq2, zq3, zq4, zq5, zq6]
  as_aux_lemma =>
  refine wp_region_P (fun w_ => Blk w_ G115 24 (natsV .u64 nx) ∧ Blk w_ G129 24 (natsV .u64 ny)) 3 (by kernel_rfl) ⟨E140.out, D142.out⟩ ?_
  refine wpAnyG_take (fun _ _ hS_ hb_ => ⟨hS_.1.gr hb_, hS_.2.gr hb_⟩) (i := 0) rfl (by kernel_rfl) (fun _ _ _ h => h) (loadG (by rfl) _ _ rfl _ _ rfl (natsV .u64 nx) _ (fun _ hS_ => blk_all (hS_.1)) Try.underlying24 rfl (i24 L_nx.out)) ?_
  try simp only [Act.put, zq1, zq2, zq3, zq4, zq5, zq6]
  refine wpAnyG_take (fun _ _ hS_ hb_ => ⟨hS_.1.gr hb_, hS_.2.gr hb_⟩) (i := 1) rfl (by kernel_rfl) (fun _ _ _ h => h) (loadG (by rfl) _ _ rfl _ _ rfl (natsV .u64 ny) _ (fun _ hS_ => blk_all (hS_.2)) Try.underlying24 rfl (i24 L_ny.out)) ?_
  try simp only [Act.put, zq1, zq2, zq3, zq4, zq5, zq6]
  refine wpAnyG_take (fun _ _ hS_ hb_ => ⟨hS_.1.gr hb_, hS_.2.gr hb_⟩) (i := 2) rfl (by kernel_rfl) (fun _ _ _ h => h) (buildG (by rfl) _ _ rfl _ (built43 L_nx.out L_ny.out) (by simp [Act.eval])) ?_
  try simp only [Act.put, zq1, zq2, zq3, zq4, zq5, zq6]
  refine wpAnyG_set (i := 3) (by kernel_rfl) (by kernel_rfl) rfl rfl E134.out (lenEq (show (pv (zeros 4) (zeros 4) false).length = 9 from rfl) (pv_len L_nx.out L_ny.out)) (StoresG.mk (cs := (pv nx ny false)) (by rfl) 43 _ _ rfl rfl rfl (i43 L_nx.out L_ny.out) (pv_one _ _ _)) ?_
  intro w143 hgw143 hn_
  try simp only [Act.put, zq1, zq2, zq3, zq4, zq5, zq6]
  have hbel144 := belStore hbel141 hgw143 (show w.heap.size ≤ (w.heap.size + 1 + 1) by omega)
  have D145 := Lib.hid hn_
  go_wp2_with fail
  refine bodyPost_ret (v := .agg (pv nx ny false).toArray) ?_ rfl ⟨rfl, hbel144⟩
  exact results_cell_row Try.results39 _ _ (w.heap.size + 1 + 1) 43 _ (0, 0) _ rfl D145.out Try.underlying43 rfl (by simpa using (i43 L_nx.out L_ny.out))
end Go.Proofs.Ytfffmoolkgheaaa
