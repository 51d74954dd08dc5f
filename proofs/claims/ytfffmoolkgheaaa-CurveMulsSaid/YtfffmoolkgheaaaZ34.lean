/- Parts of proofs of statements, each text behind those that it stands on. No condition of its own. -/
import Derived.Test.YtfffmoolkgheaaaZ22
import Derived.Test.YtfffmoolkgheaaaZ26
namespace Go.Proofs.Ytfffmoolkgheaaa
open Go.RowKit
set_option linter.unusedVariables false
set_option linter.unusedSimpArgs false
set_option maxRecDepth 100000 in
set_option maxHeartbeats 6400000 in
theorem dadd_e {lx ly mx my lp up dn iv l l2 x1 nx e1 e2 ny : List Nat} (hlx : lx.length = 4) (hly : ly.length = 4) (hmx : mx.length = 4) (hmy : my.length = 4) (hlp : lp.length = 4) (hup : up.length = 4) (hdn : dn.length = 4) (hiv : iv.length = 4) (hl : l.length = 4) (hl2 : l2.length = 4) (hx1 : x1.length = 4) (hnx : nx.length = 4) (he1 : e1.length = 4) (he2 : e2.length = 4) (hny : ny.length = 4)
    (c1 : ∀ w, Calls Try.prog 56 #[] w fun e w' => e = .returned (.agg (natsV .u64 lp).toArray) ∧ Below w.heap.size w w')
    (c2 : ∀ w, Calls Try.prog 74 #[.agg (natsV .u64 my).toArray, .agg (natsV .u64 ly).toArray, .agg (natsV .u64 lp).toArray] w fun e w' => e = .returned (.agg (natsV .u64 up).toArray) ∧ Below w.heap.size w w')
    (c3 : ∀ w, Calls Try.prog 74 #[.agg (natsV .u64 mx).toArray, .agg (natsV .u64 lx).toArray, .agg (natsV .u64 lp).toArray] w fun e w' => e = .returned (.agg (natsV .u64 dn).toArray) ∧ Below w.heap.size w w')
    (c4 : ∀ w, Calls Try.prog 84 #[.agg (natsV .u64 dn).toArray, .agg (natsV .u64 lp).toArray] w fun e w' => e = .returned (.agg (natsV .u64 iv).toArray) ∧ Below w.heap.size w w')
    (c5 : ∀ w, Calls Try.prog 65 #[.agg (natsV .u64 up).toArray, .agg (natsV .u64 iv).toArray, .agg (natsV .u64 lp).toArray] w fun e w' => e = .returned (.agg (natsV .u64 l).toArray) ∧ Below w.heap.size w w')
    (c6 : ∀ w, Calls Try.prog 65 #[.agg (natsV .u64 l).toArray, .agg (natsV .u64 l).toArray, .agg (natsV .u64 lp).toArray] w fun e w' => e = .returned (.agg (natsV .u64 l2).toArray) ∧ Below w.heap.size w w')
    (c7 : ∀ w, Calls Try.prog 74 #[.agg (natsV .u64 l2).toArray, .agg (natsV .u64 lx).toArray, .agg (natsV .u64 lp).toArray] w fun e w' => e = .returned (.agg (natsV .u64 x1).toArray) ∧ Below w.heap.size w w')
    (c8 : ∀ w, Calls Try.prog 74 #[.agg (natsV .u64 x1).toArray, .agg (natsV .u64 mx).toArray, .agg (natsV .u64 lp).toArray] w fun e w' => e = .returned (.agg (natsV .u64 nx).toArray) ∧ Below w.heap.size w w')
    (c9 : ∀ w, Calls Try.prog 74 #[.agg (natsV .u64 lx).toArray, .agg (natsV .u64 nx).toArray, .agg (natsV .u64 lp).toArray] w fun e w' => e = .returned (.agg (natsV .u64 e1).toArray) ∧ Below w.heap.size w w')
    (c10 : ∀ w, Calls Try.prog 65 #[.agg (natsV .u64 l).toArray, .agg (natsV .u64 e1).toArray, .agg (natsV .u64 lp).toArray] w fun e w' => e = .returned (.agg (natsV .u64 e2).toArray) ∧ Below w.heap.size w w')
    (c11 : ∀ w, Calls Try.prog 74 #[.agg (natsV .u64 e2).toArray, .agg (natsV .u64 ly).toArray, .agg (natsV .u64 lp).toArray] w fun e w' => e = .returned (.agg (natsV .u64 ny).toArray) ∧ Below w.heap.size w w') (h3 : ¬ lx = mx) (w : World) :
    Calls Try.prog 39 #[.agg (pv lx ly false).toArray, .agg (pv mx my false).toArray] w fun e w' => e = .returned (.agg (pv nx ny false).toArray) ∧ Below w.heap.size w w' := by
  have L_lx := Lib.hid hlx
  clear hlx
  have L_ly := Lib.hid hly
  clear hly
  have L_mx := Lib.hid hmx
  clear hmx
  have L_my := Lib.hid hmy
  clear hmy
  have L_lp := Lib.hid hlp
  clear hlp
  have L_up := Lib.hid hup
  clear hup
  have L_dn := Lib.hid hdn
  clear hdn
  have L_iv := Lib.hid hiv
  clear hiv
  have L_l := Lib.hid hl
  clear hl
  have L_l2 := Lib.hid hl2
  clear hl2
  have L_x1 := Lib.hid hx1
  clear hx1
  have L_nx := Lib.hid hnx
  clear hnx
  have L_e1 := Lib.hid he1
  clear he1
  have L_e2 := Lib.hid he2
  clear he2
  have L_ny := Lib.hid hny
  clear hny
  have Hc1 := Lib.hid c1
  clear c1
  have Hc2 := Lib.hid c2
  clear c2
  have Hc3 := Lib.hid c3
  clear c3
  have Hc4 := Lib.hid c4
  clear c4
  have Hc5 := Lib.hid c5
  clear c5
  have Hc6 := Lib.hid c6
  clear c6
  have Hc7 := Lib.hid c7
  clear c7
  have Hc8 := Lib.hid c8
  clear c8
  have Hc9 := Lib.hid c9
  clear c9
  have Hc10 := Lib.hid c10
  clear c10
  have Hc11 := Lib.hid c11
  clear c11
  have Q3 := Lib.hid (fun w => (eql24 lx mx L_lx.out L_mx.out w).trans (by rw [decide_eq_false h3]))
  clear h3
  have B0_ := Lib.hid (((Blk.new w  43 (pv lx ly false)).alloc (.cells (pv mx my false).toArray 43)).alloc (.cells (pv (zeros 4) (zeros 4) false).toArray 43))
  have B1_ := Lib.hid ((Blk.new2 w (.cells (pv lx ly false).toArray 43) 43 (pv mx my false)).alloc (.cells (pv (zeros 4) (zeros 4) false).toArray 43))
  have B2_ := Lib.hid (Blk.new3 w (.cells (pv lx ly false).toArray 43) (.cells (pv mx my false).toArray 43) 43 (pv (zeros 4) (zeros 4) false))
  have bel_ := ((((Below.refl w.heap.size w).alloc (Nat.le_refl _) (.cells (pv lx ly false).toArray 43)).alloc (by simp) (.cells (pv mx my false).toArray 43)).alloc (by simp; omega) (.cells (pv (zeros 4) (zeros 4) false).toArray 43))
  go_enter Try.func39, Try.ntmps39
  go_wp2_with fail
  refine (Hc1.out _).mono ?_
  rintro e w1 ⟨rfl, hbw1⟩
  have C2 := Lib.hid (B0_.out.gr hbw1)
  clear B0_
  have C3 := Lib.hid (B1_.out.gr hbw1)
  clear B1_
  have C4 := Lib.hid (B2_.out.gr hbw1)
  clear B2_
  have hbel5 := bel_.trans (Below.mono hbw1 bel_.size)
  clear bel_
  clear hbw1
  go_upto_region 6 with (first | (refine stB rfl 24 (.tmp 5) (.tmp 12) rfl w1.heap.size rfl (natsV .u64 lp) rfl 24 (natsV .u64 (zeros 4)) (Blk.new w1 24 (natsV .u64 (zeros 4))) (i24 L_lp.out) (lenEq (show (natsV .u64 (zeros 4)).length = 4 from rfl) (by rw [natsV_length, L_lp.out])) (natsV_one _ _) ?_; generalize hW : World.setRow _ _ _ = w6; obtain ⟨hgw6, hnw6⟩ := newfacts hW; clear hW; have C9 := Lib.hid (C2.out.gr hgw6); clear C2; have C10 := Lib.hid (C3.out.gr hgw6); clear C3; have C11 := Lib.hid (C4.out.gr hgw6); clear C4; have hbel12 := hbel5.trans (Below.mono hgw6 hbel5.size); clear hbel5; have D8 := Lib.hid hnw6; have szw6 := hgw6.size; clear hnw6 hgw6 szw6; generalize w1.heap.size = G7 at *; have ci13 := pv_i C9.out L_lx.out L_ly.out; have ci14 := pv_i C10.out L_mx.out L_my.out))
  try simp only [Act.put, zq1, zq2, zq3, zq4, zq5, zq6]
  as_aux_lemma =>
  refine wp_region_P (fun w_ => Blk w_ w.heap.size 43 (pv lx ly false) ∧ Blk w_ (w.heap.size + 1) 43 (pv mx my false)) 15 (by kernel_rfl) ⟨C9.out, C10.out⟩ ?_
  refine wpAnyG_take (fun _ _ hS_ hb_ => ⟨hS_.1.gr hb_, hS_.2.gr hb_⟩) (i := 0) rfl (by kernel_rfl) (fun _ _ _ h => h) (pureG (by rfl) (by intro w; go_simp; first | done | with_reducible rfl)) ?_
  try simp only [Act.put, zq1, zq2, zq3, zq4, zq5, zq6]
  refine wpAnyG_take (fun _ _ hS_ hb_ => ⟨hS_.1.gr hb_, hS_.2.gr hb_⟩) (i := 1) rfl (by kernel_rfl) (fun _ _ _ h => h) (loadG (by rfl) _ _ rfl _ _ rfl (natsV .u64 lx) _ (fun _ hS_ => pv_x (hS_.1)) Try.underlying24 rfl (i24 L_lx.out)) ?_
  try simp only [Act.put, zq1, zq2, zq3, zq4, zq5, zq6]
  refine wpAnyG_take (fun _ _ hS_ hb_ => ⟨hS_.1.gr hb_, hS_.2.gr hb_⟩) (i := 2) rfl (by kernel_rfl) (fun _ _ _ h => h) (pureG (by rfl) (by intro w; go_simp; first | done | with_reducible rfl)) ?_
  try simp only [Act.put, zq1, zq2, zq3, zq4, zq5, zq6]
  refine wpAnyG_take (fun _ _ hS_ hb_ => ⟨hS_.1.gr hb_, hS_.2.gr hb_⟩) (i := 3) rfl (by kernel_rfl) (fun _ _ _ h => h) (loadG (by rfl) _ _ rfl _ _ rfl (natsV .u64 mx) _ (fun _ hS_ => pv_x (hS_.2)) Try.underlying24 rfl (i24 L_mx.out)) ?_
  try simp only [Act.put, zq1, zq2, zq3, zq4, zq5, zq6]
  refine wpAnyG_take (fun _ _ hS_ hb_ => ⟨hS_.1.gr hb_, hS_.2.gr hb_⟩) (i := 4) rfl (by kernel_rfl) (fun _ _ _ h => h) (pureG (by rfl) (by intro w; have q := Q3.out; go_simp; first | done | with_reducible rfl)) ?_
  try simp only [Act.put, zq1, zq2, zq3, zq4, zq5, zq6]
  refine wpAnyG_take (fun _ _ hS_ hb_ => ⟨hS_.1.gr hb_, hS_.2.gr hb_⟩) (i := 5) rfl (by kernel_rfl) (fun _ _ _ h => h) (pureG (by rfl) (by intro w; go_simp; first | done | with_reducible rfl)) ?_
  try simp only [Act.put, zq1, zq2, zq3, zq4, zq5, zq6]
  refine wpAnyG_take (fun _ _ hS_ hb_ => ⟨hS_.1.gr hb_, hS_.2.gr hb_⟩) (i := 6) rfl (by kernel_rfl) (fun _ _ _ h => h) (skipG (by rfl)) ?_
  try simp only [Act.put, zq1, zq2, zq3, zq4, zq5, zq6]
  refine wpAnyG_take (fun _ _ hS_ hb_ => ⟨hS_.1.gr hb_, hS_.2.gr hb_⟩) (i := 7) rfl (by kernel_rfl) (fun _ _ _ h => h) (skipG (by rfl)) ?_
  try simp only [Act.put, zq1, zq2, zq3, zq4, zq5, zq6]
  refine wpAnyG_take (fun _ _ hS_ hb_ => ⟨hS_.1.gr hb_, hS_.2.gr hb_⟩) (i := 8) rfl (by kernel_rfl) (fun _ _ _ h => h) (skipG (by rfl)) ?_
  try simp only [Act.put, zq1, zq2, zq3, zq4, zq5, zq6]
  refine wpAnyG_take (fun _ _ hS_ hb_ => ⟨hS_.1.gr hb_, hS_.2.gr hb_⟩) (i := 9) rfl (by kernel_rfl) (fun _ _ _ h => h) (skipG (by rfl)) ?_
  try simp only [Act.put, zq1, zq2, zq3, zq4, zq5, zq6]
  refine wpAnyG_take (fun _ _ hS_ hb_ => ⟨hS_.1.gr hb_, hS_.2.gr hb_⟩) (i := 10) rfl (by kernel_rfl) (fun _ _ _ h => h) (skipG (by rfl)) ?_
  try simp only [Act.put, zq1, zq2, zq3, zq4, zq5, zq6]
  refine wpAnyG_take (fun _ _ hS_ hb_ => ⟨hS_.1.gr hb_, hS_.2.gr hb_⟩) (i := 11) rfl (by kernel_rfl) (fun _ _ _ h => h) (skipG (by rfl)) ?_
  try simp only [Act.put, zq1, zq2, zq3, zq4, zq5, zq6]
  refine wpAnyG_take (fun _ _ hS_ hb_ => ⟨hS_.1.gr hb_, hS_.2.gr hb_⟩) (i := 12) rfl (by kernel_rfl) (fun _ _ _ h => h) (skipG (by rfl)) ?_
  try simp only [Act.put, zq1, zq2, zq3, zq4, zq5, zq6]
  refine wpAnyG_take (fun _ _ hS_ hb_ => ⟨hS_.1.gr hb_, hS_.2.gr hb_⟩) (i := 13) rfl (by kernel_rfl) (fun _ _ _ h => h) (skipG (by rfl)) ?_
  try simp only [Act.put, zq1, zq2, zq3, zq4, zq5, zq6]
  refine wpAnyG_take (fun _ _ hS_ hb_ => ⟨hS_.1.gr hb_, hS_.2.gr hb_⟩) (i := 14) rfl (by kernel_rfl) (fun _ _ _ h => h) (pureG (by rfl) (by intro w; go_simp; first | done | with_reducible rfl)) ?_
  try simp only [Act.put, zq1, zq2, zq3, zq4, zq5, zq6]
  refine wpAnyG_done (by kernel_rfl) ?_ _
  intro w15 hgw15
  try simp only [Act.put, zq1, zq2, zq3, zq4, zq5, zq6]
  have C16 := Lib.hid (C9.out.gr hgw15)
  clear C9
  have C17 := Lib.hid (C10.out.gr hgw15)
  clear C10
  have C18 := Lib.hid (C11.out.gr hgw15)
  clear C11
  have C19 := Lib.hid (D8.out.gr hgw15)
  clear D8
  have hbel20 := hbel12.trans (Below.mono hgw15 hbel12.size)
  clear hbel12
  clear hgw15
  as_aux_lemma =>
  have qf3 := Q3.out
  go_wp2_with (first | (refine wpList_load_mid rfl 24 (.tmp 35) rfl (w.heap.size + 1) 4 rfl (natsV .u64 my) _ (pv_y (C17.out) L_mx.out) Try.underlying24 rfl (i24 L_my.out) ?_) | (refine wpList_load_mid rfl 24 (.tmp 37) rfl w.heap.size 4 rfl (natsV .u64 ly) _ (pv_y (C16.out) L_lx.out) Try.underlying24 rfl (i24 L_ly.out) ?_) | (refine wpList_load_mid rfl 24 (.tmp 5) rfl G7 0 rfl (natsV .u64 lp) _ (blk_all (C19.out)) Try.underlying24 rfl (i24 L_lp.out) ?_))
  refine (Hc2.out _).mono ?_
  rintro e w21 ⟨rfl, hbw21⟩
  have C22 := Lib.hid (C16.out.gr hbw21)
  clear C16
  have C23 := Lib.hid (C17.out.gr hbw21)
  clear C17
  have C24 := Lib.hid (C18.out.gr hbw21)
  clear C18
  have C25 := Lib.hid (C19.out.gr hbw21)
  clear C19
  have hbel26 := hbel20.trans (Below.mono hbw21 hbel20.size)
  clear hbel20
  clear hbw21
  go_wp2_with (first | (refine stB rfl 24 (.tmp 6) (.tmp 40) rfl w21.heap.size rfl (natsV .u64 up) rfl 24 (natsV .u64 (zeros 4)) (Blk.new w21 24 (natsV .u64 (zeros 4))) (i24 L_up.out) (lenEq (show (natsV .u64 (zeros 4)).length = 4 from rfl) (by rw [natsV_length, L_up.out])) (natsV_one _ _) ?_; generalize hW : World.setRow _ _ _ = w27; obtain ⟨hgw27, hnw27⟩ := newfacts hW; clear hW; have NE30 := Lib.hid (Nat.ne_of_lt (C22.out.lt)); have NE31 := Lib.hid (Nat.ne_of_lt (C23.out.lt)); have NE32 := Lib.hid (Nat.ne_of_lt (C24.out.lt)); have NE33 := Lib.hid (Nat.ne_of_lt (C25.out.lt)); have GE34 := Lib.hid hbel26.size; have C35 := Lib.hid (C22.out.gr hgw27); clear C22; have C36 := Lib.hid (C23.out.gr hgw27); clear C23; have C37 := Lib.hid (C24.out.gr hgw27); clear C24; have C38 := Lib.hid (C25.out.gr hgw27); clear C25; have hbel39 := hbel26.trans (Below.mono hgw27 hbel26.size); clear hbel26; have D29 := Lib.hid hnw27; have szw27 := hgw27.size; clear hnw27 hgw27 szw27; generalize w21.heap.size = G28 at *) | (refine wpList_load_mid rfl 24 (.tmp 41) rfl (w.heap.size + 1) 0 rfl (natsV .u64 mx) _ (pv_x (C36.out)) Try.underlying24 rfl (i24 L_mx.out) ?_) | (refine wpList_load_mid rfl 24 (.tmp 43) rfl w.heap.size 0 rfl (natsV .u64 lx) _ (pv_x (C35.out)) Try.underlying24 rfl (i24 L_lx.out) ?_) | (refine wpList_load_mid rfl 24 (.tmp 5) rfl G7 0 rfl (natsV .u64 lp) _ (blk_all (C38.out)) Try.underlying24 rfl (i24 L_lp.out) ?_))
  refine (Hc3.out _).mono ?_
  rintro e w40 ⟨rfl, hbw40⟩
  have C41 := Lib.hid (C35.out.gr hbw40)
  clear C35
  have C42 := Lib.hid (C36.out.gr hbw40)
  clear C36
  have C43 := Lib.hid (C37.out.gr hbw40)
  clear C37
  have C44 := Lib.hid (C38.out.gr hbw40)
  clear C38
  have C45 := Lib.hid (D29.out.gr hbw40)
  clear D29
  have hbel46 := hbel39.trans (Below.mono hbw40 hbel39.size)
  clear hbel39
  clear hbw40
  go_wp2_with (first | (refine stB rfl 24 (.tmp 7) (.tmp 46) rfl w40.heap.size rfl (natsV .u64 dn) rfl 24 (natsV .u64 (zeros 4)) (Blk.new w40 24 (natsV .u64 (zeros 4))) (i24 L_dn.out) (lenEq (show (natsV .u64 (zeros 4)).length = 4 from rfl) (by rw [natsV_length, L_dn.out])) (natsV_one _ _) ?_; generalize hW : World.setRow _ _ _ = w47; obtain ⟨hgw47, hnw47⟩ := newfacts hW; clear hW; have NE50 := Lib.hid (Nat.ne_of_lt (C41.out.lt)); have NE51 := Lib.hid (Nat.ne_of_lt (C42.out.lt)); have NE52 := Lib.hid (Nat.ne_of_lt (C43.out.lt)); have NE53 := Lib.hid (Nat.ne_of_lt (C44.out.lt)); have NE54 := Lib.hid (Nat.ne_of_lt (C45.out.lt)); have GE55 := Lib.hid hbel46.size; have C56 := Lib.hid (C41.out.gr hgw47); clear C41; have C57 := Lib.hid (C42.out.gr hgw47); clear C42; have C58 := Lib.hid (C43.out.gr hgw47); clear C43; have C59 := Lib.hid (C44.out.gr hgw47); clear C44; have C60 := Lib.hid (C45.out.gr hgw47); clear C45; have hbel61 := hbel46.trans (Below.mono hgw47 hbel46.size); clear hbel46; have D49 := Lib.hid hnw47; have szw47 := hgw47.size; clear hnw47 hgw47 szw47; generalize w40.heap.size = G48 at *) | (refine wpList_load_mid rfl 24 (.tmp 47) rfl w.heap.size 0 rfl (natsV .u64 lx) _ (pv_x (C56.out)) Try.underlying24 rfl (i24 L_lx.out) ?_) | (refine wpList_load_mid rfl 24 (.tmp 49) rfl (w.heap.size + 1) 0 rfl (natsV .u64 mx) _ (pv_x (C57.out)) Try.underlying24 rfl (i24 L_mx.out) ?_))
  as_aux_lemma =>
  refine wp_region_G (fun w_ => Blk w_ G28 24 (natsV .u64 up) ∧ Blk w_ G48 24 (natsV .u64 dn) ∧ Blk w_ G7 24 (natsV .u64 lp)) 7 (by kernel_rfl) ⟨C60.out.drew, D49.out.drew, C59.out.drew⟩ ?_
  refine wpAnyG_take (fun _ _ hS_ hb_ => ⟨hS_.1.gr hb_, hS_.2.1.gr hb_, hS_.2.2.gr hb_⟩) (i := 0) rfl (by kernel_rfl) (fun _ _ _ h => h) (loadG (by rfl) _ _ rfl _ _ rfl (natsV .u64 up) _ (fun _ hS_ => blk_all (hS_.1)) Try.underlying24 rfl (i24 L_up.out)) ?_
  try simp only [Act.put, zq1, zq2, zq3, zq4, zq5, zq6]
  refine wpAnyG_take (fun _ _ hS_ hb_ => ⟨hS_.1.gr hb_, hS_.2.1.gr hb_, hS_.2.2.gr hb_⟩) (i := 1) rfl (by kernel_rfl) (fun _ _ _ h => h) (loadG (by rfl) _ _ rfl _ _ rfl (natsV .u64 dn) _ (fun _ hS_ => blk_all (hS_.2.1)) Try.underlying24 rfl (i24 L_dn.out)) ?_
  try simp only [Act.put, zq1, zq2, zq3, zq4, zq5, zq6]
  refine wpAnyG_take (fun _ _ hS_ hb_ => ⟨hS_.1.gr hb_, hS_.2.1.gr hb_, hS_.2.2.gr hb_⟩) (i := 2) rfl (by kernel_rfl) (fun _ _ _ h => h) (loadG (by rfl) _ _ rfl _ _ rfl (natsV .u64 lp) _ (fun _ hS_ => blk_all (hS_.2.2)) Try.underlying24 rfl (i24 L_lp.out)) ?_
  try simp only [Act.put, zq1, zq2, zq3, zq4, zq5, zq6]
  refine wpAnyG_take (fun _ _ hS_ hb_ => ⟨hS_.1.gr hb_, hS_.2.1.gr hb_, hS_.2.2.gr hb_⟩) (i := 3) rfl (by kernel_rfl) (fun _ _ _ h => h) (callG (by rfl) rfl Try.func84 (by kernel_rfl) (by kernel_rfl) (#[.agg (natsV .u64 dn).toArray, .agg (natsV .u64 lp).toArray]) (by simp [Act.eval]) (fun w _ => Hc4.out w)) ?_
  try simp only [Act.put, zq1, zq2, zq3, zq4, zq5, zq6]
  refine wpAnyG_take (fun _ _ hS_ hb_ => ⟨hS_.1.gr hb_, hS_.2.1.gr hb_, hS_.2.2.gr hb_⟩) (i := 4) rfl (by kernel_rfl) (fun _ _ _ h => h) (loadG (by rfl) _ _ rfl _ _ rfl (natsV .u64 lp) _ (fun _ hS_ => blk_all (hS_.2.2)) Try.underlying24 rfl (i24 L_lp.out)) ?_
  try simp only [Act.put, zq1, zq2, zq3, zq4, zq5, zq6]
  refine wpAnyG_take (fun _ _ hS_ hb_ => ⟨hS_.1.gr hb_, hS_.2.1.gr hb_, hS_.2.2.gr hb_⟩) (i := 5) rfl (by kernel_rfl) (fun _ _ _ h => h) (callG (by rfl) rfl Try.func65 (by kernel_rfl) (by kernel_rfl) (#[.agg (natsV .u64 up).toArray, .agg (natsV .u64 iv).toArray, .agg (natsV .u64 lp).toArray]) (by simp [Act.eval]) (fun w _ => Hc5.out w)) ?_
  try simp only [Act.put, zq1, zq2, zq3, zq4, zq5, zq6]
  refine wpAnyG_def (i := 6) (j := 7) (fun _ _ hS_ hb_ => ⟨hS_.1.gr hb_, hS_.2.1.gr hb_, hS_.2.2.gr hb_⟩) (by kernel_rfl) (by kernel_rfl) (by kernel_rfl) rfl rfl rfl (allocG (by rfl) rfl _ alloc24) (lenEq (show (natsV .u64 (zeros 4)).length = 4 from rfl) (by rw [natsV_length, L_l.out])) (fun _ => StoresG.mk (cs := (natsV .u64 l)) (by rfl) 24 _ _ rfl rfl rfl (i24 L_l.out) (natsV_one _ _)) ?_
  intro w62 G63 hgw62 hz_ hn_
  try simp only [Act.put, zq1, zq2, zq3, zq4, zq5, zq6]
  have NE64 := Lib.hid (Nat.ne_of_lt (Nat.lt_of_lt_of_le C60.out.drew.lt hz_))
  have NE65 := Lib.hid (Nat.ne_of_lt (Nat.lt_of_lt_of_le D49.out.drew.lt hz_))
  have E66 := Lib.hid (C56.out.drew.gr hgw62)
  clear C56
  have E67 := Lib.hid (C57.out.drew.gr hgw62)
  clear C57
  have E68 := Lib.hid (C58.out.drew.gr hgw62)
  clear C58
  have E69 := Lib.hid (C59.out.drew.gr hgw62)
  clear C59
  have E70 := Lib.hid (C60.out.drew.gr hgw62)
  clear C60
  have E71 := Lib.hid (D49.out.drew.gr hgw62)
  clear D49
  have hbel72 := hbel61.drew.trans (Below.mono hgw62 hbel61.drew.size)
  clear hbel61
  have D73 := Lib.hid hn_
  clear hn_ hz_ hgw62
  as_aux_lemma =>
  go_wp2_with fail
  as_aux_lemma =>
  refine wp_region_G (fun w_ => Blk w_ G63 24 (natsV .u64 l) ∧ Blk w_ G7 24 (natsV .u64 lp) ∧ Blk w_ w.heap.size 43 (pv lx ly false) ∧ Blk w_ (w.heap.size + 1) 43 (pv mx my false)) 13 (by kernel_rfl) ⟨D73.out.drew, E69.out.drew, E66.out.drew, E67.out.drew⟩ ?_
  refine wpAnyG_take (fun _ _ hS_ hb_ => ⟨hS_.1.gr hb_, hS_.2.1.gr hb_, hS_.2.2.1.gr hb_, hS_.2.2.2.gr hb_⟩) (i := 0) rfl (by kernel_rfl) (fun _ _ _ h => h) (loadG (by rfl) _ _ rfl _ _ rfl (natsV .u64 l) _ (fun _ hS_ => blk_all (hS_.1)) Try.underlying24 rfl (i24 L_l.out)) ?_
  try simp only [Act.put, zq1, zq2, zq3, zq4, zq5, zq6]
  refine wpAnyG_take (fun _ _ hS_ hb_ => ⟨hS_.1.gr hb_, hS_.2.1.gr hb_, hS_.2.2.1.gr hb_, hS_.2.2.2.gr hb_⟩) (i := 1) rfl (by kernel_rfl) (fun _ _ _ h => h) (loadG (by rfl) _ _ rfl _ _ rfl (natsV .u64 l) _ (fun _ hS_ => blk_all (hS_.1)) Try.underlying24 rfl (i24 L_l.out)) ?_
  try simp only [Act.put, zq1, zq2, zq3, zq4, zq5, zq6]
  refine wpAnyG_take (fun _ _ hS_ hb_ => ⟨hS_.1.gr hb_, hS_.2.1.gr hb_, hS_.2.2.1.gr hb_, hS_.2.2.2.gr hb_⟩) (i := 2) rfl (by kernel_rfl) (fun _ _ _ h => h) (loadG (by rfl) _ _ rfl _ _ rfl (natsV .u64 lp) _ (fun _ hS_ => blk_all (hS_.2.1)) Try.underlying24 rfl (i24 L_lp.out)) ?_
  try simp only [Act.put, zq1, zq2, zq3, zq4, zq5, zq6]
  refine wpAnyG_take (fun _ _ hS_ hb_ => ⟨hS_.1.gr hb_, hS_.2.1.gr hb_, hS_.2.2.1.gr hb_, hS_.2.2.2.gr hb_⟩) (i := 3) rfl (by kernel_rfl) (fun _ _ _ h => h) (callG (by rfl) rfl Try.func65 (by kernel_rfl) (by kernel_rfl) (#[.agg (natsV .u64 l).toArray, .agg (natsV .u64 l).toArray, .agg (natsV .u64 lp).toArray]) (by simp [Act.eval]) (fun w _ => Hc6.out w)) ?_
  try simp only [Act.put, zq1, zq2, zq3, zq4, zq5, zq6]
  refine wpAnyG_take (fun _ _ hS_ hb_ => ⟨hS_.1.gr hb_, hS_.2.1.gr hb_, hS_.2.2.1.gr hb_, hS_.2.2.2.gr hb_⟩) (i := 4) rfl (by kernel_rfl) (fun _ _ _ h => h) (pureG (by rfl) (by intro w; go_simp; first | done | with_reducible rfl)) ?_
  try simp only [Act.put, zq1, zq2, zq3, zq4, zq5, zq6]
  refine wpAnyG_take (fun _ _ hS_ hb_ => ⟨hS_.1.gr hb_, hS_.2.1.gr hb_, hS_.2.2.1.gr hb_, hS_.2.2.2.gr hb_⟩) (i := 5) rfl (by kernel_rfl) (fun _ _ _ h => h) (loadG (by rfl) _ _ rfl _ _ rfl (natsV .u64 lx) _ (fun _ hS_ => pv_x (hS_.2.2.1)) Try.underlying24 rfl (i24 L_lx.out)) ?_
  try simp only [Act.put, zq1, zq2, zq3, zq4, zq5, zq6]
  refine wpAnyG_take (fun _ _ hS_ hb_ => ⟨hS_.1.gr hb_, hS_.2.1.gr hb_, hS_.2.2.1.gr hb_, hS_.2.2.2.gr hb_⟩) (i := 6) rfl (by kernel_rfl) (fun _ _ _ h => h) (loadG (by rfl) _ _ rfl _ _ rfl (natsV .u64 lp) _ (fun _ hS_ => blk_all (hS_.2.1)) Try.underlying24 rfl (i24 L_lp.out)) ?_
  try simp only [Act.put, zq1, zq2, zq3, zq4, zq5, zq6]
  refine wpAnyG_take (fun _ _ hS_ hb_ => ⟨hS_.1.gr hb_, hS_.2.1.gr hb_, hS_.2.2.1.gr hb_, hS_.2.2.2.gr hb_⟩) (i := 7) rfl (by kernel_rfl) (fun _ _ _ h => h) (callG (by rfl) rfl Try.func74 (by kernel_rfl) (by kernel_rfl) (#[.agg (natsV .u64 l2).toArray, .agg (natsV .u64 lx).toArray, .agg (natsV .u64 lp).toArray]) (by simp [Act.eval]) (fun w _ => Hc7.out w)) ?_
  try simp only [Act.put, zq1, zq2, zq3, zq4, zq5, zq6]
  refine wpAnyG_take (fun _ _ hS_ hb_ => ⟨hS_.1.gr hb_, hS_.2.1.gr hb_, hS_.2.2.1.gr hb_, hS_.2.2.2.gr hb_⟩) (i := 8) rfl (by kernel_rfl) (fun _ _ _ h => h) (pureG (by rfl) (by intro w; go_simp; first | done | with_reducible rfl)) ?_
  try simp only [Act.put, zq1, zq2, zq3, zq4, zq5, zq6]
  refine wpAnyG_take (fun _ _ hS_ hb_ => ⟨hS_.1.gr hb_, hS_.2.1.gr hb_, hS_.2.2.1.gr hb_, hS_.2.2.2.gr hb_⟩) (i := 9) rfl (by kernel_rfl) (fun _ _ _ h => h) (loadG (by rfl) _ _ rfl _ _ rfl (natsV .u64 mx) _ (fun _ hS_ => pv_x (hS_.2.2.2)) Try.underlying24 rfl (i24 L_mx.out)) ?_
  try simp only [Act.put, zq1, zq2, zq3, zq4, zq5, zq6]
  refine wpAnyG_take (fun _ _ hS_ hb_ => ⟨hS_.1.gr hb_, hS_.2.1.gr hb_, hS_.2.2.1.gr hb_, hS_.2.2.2.gr hb_⟩) (i := 10) rfl (by kernel_rfl) (fun _ _ _ h => h) (loadG (by rfl) _ _ rfl _ _ rfl (natsV .u64 lp) _ (fun _ hS_ => blk_all (hS_.2.1)) Try.underlying24 rfl (i24 L_lp.out)) ?_
  try simp only [Act.put, zq1, zq2, zq3, zq4, zq5, zq6]
  refine wpAnyG_take (fun _ _ hS_ hb_ => ⟨hS_.1.gr hb_, hS_.2.1.gr hb_, hS_.2.2.1.gr hb_, hS_.2.2.2.gr hb_⟩) (i := 11) rfl (by kernel_rfl) (fun _ _ _ h => h) (callG (by rfl) rfl Try.func74 (by kernel_rfl) (by kernel_rfl) (#[.agg (natsV .u64 x1).toArray, .agg (natsV .u64 mx).toArray, .agg (natsV .u64 lp).toArray]) (by simp [Act.eval]) (fun w _ => Hc8.out w)) ?_
  try simp only [Act.put, zq1, zq2, zq3, zq4, zq5, zq6]
  refine wpAnyG_def (i := 12) (j := 13) (fun _ _ hS_ hb_ => ⟨hS_.1.gr hb_, hS_.2.1.gr hb_, hS_.2.2.1.gr hb_, hS_.2.2.2.gr hb_⟩) (by kernel_rfl) (by kernel_rfl) (by kernel_rfl) rfl rfl rfl (allocG (by rfl) rfl _ alloc24) (lenEq (show (natsV .u64 (zeros 4)).length = 4 from rfl) (by rw [natsV_length, L_nx.out])) (fun _ => StoresG.mk (cs := (natsV .u64 nx)) (by rfl) 24 _ _ rfl rfl rfl (i24 L_nx.out) (natsV_one _ _)) ?_
  intro w74 G75 hgw74 hz_ hn_
  try simp only [Act.put, zq1, zq2, zq3, zq4, zq5, zq6]
  have NE76 := Lib.hid (Nat.ne_of_lt (Nat.lt_of_lt_of_le E70.out.drew.lt hz_))
  have NE77 := Lib.hid (Nat.ne_of_lt (Nat.lt_of_lt_of_le E71.out.drew.lt hz_))
  have E78 := Lib.hid (E66.out.drew.gr hgw74)
  clear E66
  have E79 := Lib.hid (E67.out.drew.gr hgw74)
  clear E67
  have E80 := Lib.hid (E68.out.drew.gr hgw74)
  clear E68
  have E81 := Lib.hid (E69.out.drew.gr hgw74)
  clear E69
  have E82 := Lib.hid (E70.out.drew.gr hgw74)
  clear E70
  have E83 := Lib.hid (E71.out.drew.gr hgw74)
  clear E71
  have E84 := Lib.hid (D73.out.drew.gr hgw74)
  clear D73
  have hbel85 := hbel72.drew.trans (Below.mono hgw74 hbel72.drew.size)
  clear hbel72
  have D86 := Lib.hid hn_
  clear hn_ hz_ hgw74
  as_aux_lemma =>
  go_wp2_with fail
  as_aux_lemma =>
  refine wp_region_G (fun w_ => Blk w_ G63 24 (natsV .u64 l) ∧ Blk w_ w.heap.size 43 (pv lx ly false) ∧ Blk w_ G75 24 (natsV .u64 nx) ∧ Blk w_ G7 24 (natsV .u64 lp)) 13 (by kernel_rfl) ⟨E84.out.drew, E78.out.drew, D86.out.drew, E81.out.drew⟩ ?_
  refine wpAnyG_take (fun _ _ hS_ hb_ => ⟨hS_.1.gr hb_, hS_.2.1.gr hb_, hS_.2.2.1.gr hb_, hS_.2.2.2.gr hb_⟩) (i := 0) rfl (by kernel_rfl) (fun _ _ _ h => h) (loadG (by rfl) _ _ rfl _ _ rfl (natsV .u64 l) _ (fun _ hS_ => blk_all (hS_.1)) Try.underlying24 rfl (i24 L_l.out)) ?_
  try simp only [Act.put, zq1, zq2, zq3, zq4, zq5, zq6]
  refine wpAnyG_take (fun _ _ hS_ hb_ => ⟨hS_.1.gr hb_, hS_.2.1.gr hb_, hS_.2.2.1.gr hb_, hS_.2.2.2.gr hb_⟩) (i := 1) rfl (by kernel_rfl) (fun _ _ _ h => h) (pureG (by rfl) (by intro w; go_simp; first | done | with_reducible rfl)) ?_
  try simp only [Act.put, zq1, zq2, zq3, zq4, zq5, zq6]
  refine wpAnyG_take (fun _ _ hS_ hb_ => ⟨hS_.1.gr hb_, hS_.2.1.gr hb_, hS_.2.2.1.gr hb_, hS_.2.2.2.gr hb_⟩) (i := 2) rfl (by kernel_rfl) (fun _ _ _ h => h) (loadG (by rfl) _ _ rfl _ _ rfl (natsV .u64 lx) _ (fun _ hS_ => pv_x (hS_.2.1)) Try.underlying24 rfl (i24 L_lx.out)) ?_
  try simp only [Act.put, zq1, zq2, zq3, zq4, zq5, zq6]
  refine wpAnyG_take (fun _ _ hS_ hb_ => ⟨hS_.1.gr hb_, hS_.2.1.gr hb_, hS_.2.2.1.gr hb_, hS_.2.2.2.gr hb_⟩) (i := 3) rfl (by kernel_rfl) (fun _ _ _ h => h) (loadG (by rfl) _ _ rfl _ _ rfl (natsV .u64 nx) _ (fun _ hS_ => blk_all (hS_.2.2.1)) Try.underlying24 rfl (i24 L_nx.out)) ?_
  try simp only [Act.put, zq1, zq2, zq3, zq4, zq5, zq6]
  refine wpAnyG_take (fun _ _ hS_ hb_ => ⟨hS_.1.gr hb_, hS_.2.1.gr hb_, hS_.2.2.1.gr hb_, hS_.2.2.2.gr hb_⟩) (i := 4) rfl (by kernel_rfl) (fun _ _ _ h => h) (loadG (by rfl) _ _ rfl _ _ rfl (natsV .u64 lp) _ (fun _ hS_ => blk_all (hS_.2.2.2)) Try.underlying24 rfl (i24 L_lp.out)) ?_
  try simp only [Act.put, zq1, zq2, zq3, zq4, zq5, zq6]
  refine wpAnyG_take (fun _ _ hS_ hb_ => ⟨hS_.1.gr hb_, hS_.2.1.gr hb_, hS_.2.2.1.gr hb_, hS_.2.2.2.gr hb_⟩) (i := 5) rfl (by kernel_rfl) (fun _ _ _ h => h) (callG (by rfl) rfl Try.func74 (by kernel_rfl) (by kernel_rfl) (#[.agg (natsV .u64 lx).toArray, .agg (natsV .u64 nx).toArray, .agg (natsV .u64 lp).toArray]) (by simp [Act.eval]) (fun w _ => Hc9.out w)) ?_
  try simp only [Act.put, zq1, zq2, zq3, zq4, zq5, zq6]
  refine wpAnyG_take (fun _ _ hS_ hb_ => ⟨hS_.1.gr hb_, hS_.2.1.gr hb_, hS_.2.2.1.gr hb_, hS_.2.2.2.gr hb_⟩) (i := 6) rfl (by kernel_rfl) (fun _ _ _ h => h) (loadG (by rfl) _ _ rfl _ _ rfl (natsV .u64 lp) _ (fun _ hS_ => blk_all (hS_.2.2.2)) Try.underlying24 rfl (i24 L_lp.out)) ?_
  try simp only [Act.put, zq1, zq2, zq3, zq4, zq5, zq6]
  refine wpAnyG_take (fun _ _ hS_ hb_ => ⟨hS_.1.gr hb_, hS_.2.1.gr hb_, hS_.2.2.1.gr hb_, hS_.2.2.2.gr hb_⟩) (i := 7) rfl (by kernel_rfl) (fun _ _ _ h => h) (callG (by rfl) rfl Try.func65 (by kernel_rfl) (by kernel_rfl) (#[.agg (natsV .u64 l).toArray, .agg (natsV .u64 e1).toArray, .agg (natsV .u64 lp).toArray]) (by simp [Act.eval]) (fun w _ => Hc10.out w)) ?_
  try simp only [Act.put, zq1, zq2, zq3, zq4, zq5, zq6]
  refine wpAnyG_take (fun _ _ hS_ hb_ => ⟨hS_.1.gr hb_, hS_.2.1.gr hb_, hS_.2.2.1.gr hb_, hS_.2.2.2.gr hb_⟩) (i := 8) rfl (by kernel_rfl) (fun _ _ _ h => h) (pureG (by rfl) (by intro w; go_simp; first | done | with_reducible rfl)) ?_
  try simp only [Act.put, zq1, zq2, zq3, zq4, zq5, zq6]
  refine wpAnyG_take (fun _ _ hS_ hb_ => ⟨hS_.1.gr hb_, hS_.2.1.gr hb_, hS_.2.2.1.gr hb_, hS_.2.2.2.gr hb_⟩) (i := 9) rfl (by kernel_rfl) (fun _ _ _ h => h) (loadG (by rfl) _ _ rfl _ _ rfl (natsV .u64 ly) _ (fun _ hS_ => pv_y (hS_.2.1) L_lx.out) Try.underlying24 rfl (i24 L_ly.out)) ?_
  try simp only [Act.put, zq1, zq2, zq3, zq4, zq5, zq6]
  refine wpAnyG_take (fun _ _ hS_ hb_ => ⟨hS_.1.gr hb_, hS_.2.1.gr hb_, hS_.2.2.1.gr hb_, hS_.2.2.2.gr hb_⟩) (i := 10) rfl (by kernel_rfl) (fun _ _ _ h => h) (loadG (by rfl) _ _ rfl _ _ rfl (natsV .u64 lp) _ (fun _ hS_ => blk_all (hS_.2.2.2)) Try.underlying24 rfl (i24 L_lp.out)) ?_
  try simp only [Act.put, zq1, zq2, zq3, zq4, zq5, zq6]
  refine wpAnyG_take (fun _ _ hS_ hb_ => ⟨hS_.1.gr hb_, hS_.2.1.gr hb_, hS_.2.2.1.gr hb_, hS_.2.2.2.gr hb_⟩) (i := 11) rfl (by kernel_rfl) (fun _ _ _ h => h) (callG (by rfl) rfl Try.func74 (by kernel_rfl) (by kernel_rfl) (#[.agg (natsV .u64 e2).toArray, .agg (natsV .u64 ly).toArray, .agg (natsV .u64 lp).toArray]) (by simp [Act.eval]) (fun w _ => Hc11.out w)) ?_
  try simp only [Act.put, zq1, zq2, zq3, zq4, zq5, zq6]
  refine wpAnyG_def (i := 12) (j := 13) (fun _ _ hS_ hb_ => ⟨hS_.1.gr hb_, hS_.2.1.gr hb_, hS_.2.2.1.gr hb_, hS_.2.2.2.gr hb_⟩) (by kernel_rfl) (by kernel_rfl) (by kernel_rfl) rfl rfl rfl (allocG (by rfl) rfl _ alloc24) (lenEq (show (natsV .u64 (zeros 4)).length = 4 from rfl) (by rw [natsV_length, L_ny.out])) (fun _ => StoresG.mk (cs := (natsV .u64 ny)) (by rfl) 24 _ _ rfl rfl rfl (i24 L_ny.out) (natsV_one _ _)) ?_
  intro w87 G88 hgw87 hz_ hn_
  try simp only [Act.put, zq1, zq2, zq3, zq4, zq5, zq6]
  have NE89 := Lib.hid (Nat.ne_of_lt (Nat.lt_of_lt_of_le E82.out.drew.lt hz_))
  have NE90 := Lib.hid (Nat.ne_of_lt (Nat.lt_of_lt_of_le E83.out.drew.lt hz_))
  have E91 := Lib.hid (E78.out.drew.gr hgw87)
  clear E78
  have E92 := Lib.hid (E79.out.drew.gr hgw87)
  clear E79
  have E93 := Lib.hid (E80.out.drew.gr hgw87)
  clear E80
  have E94 := Lib.hid (E81.out.drew.gr hgw87)
  clear E81
  have E95 := Lib.hid (E82.out.drew.gr hgw87)
  clear E82
  have E96 := Lib.hid (E83.out.drew.gr hgw87)
  clear E83
  have E97 := Lib.hid (E84.out.drew.gr hgw87)
  clear E84
  have E98 := Lib.hid (D86.out.drew.gr hgw87)
  clear D86
  have hbel99 := hbel85.drew.trans (Below.mono hgw87 hbel85.drew.size)
  clear hbel85
  have D100 := Lib.hid hn_
  clear hn_ hz_ hgw87
  as_aux_lemma =>
  go_upto_region 17 with (fail)
  try simp only [Act.put, zq1, zq2, zq3, zq4, zq5, zq6]
  as_aux_lemma =>
  refine wp_region_P (fun w_ => Blk w_ G75 24 (natsV .u64 nx) ∧ Blk w_ G88 24 (natsV .u64 ny)) 3 (by kernel_rfl) ⟨E98.out, D100.out⟩ ?_
  refine wpAnyG_take (fun _ _ hS_ hb_ => ⟨hS_.1.gr hb_, hS_.2.gr hb_⟩) (i := 0) rfl (by kernel_rfl) (fun _ _ _ h => h) (loadG (by rfl) _ _ rfl _ _ rfl (natsV .u64 nx) _ (fun _ hS_ => blk_all (hS_.1)) Try.underlying24 rfl (i24 L_nx.out)) ?_
  try simp only [Act.put, zq1, zq2, zq3, zq4, zq5, zq6]
  refine wpAnyG_take (fun _ _ hS_ hb_ => ⟨hS_.1.gr hb_, hS_.2.gr hb_⟩) (i := 1) rfl (by kernel_rfl) (fun _ _ _ h => h) (loadG (by rfl) _ _ rfl _ _ rfl (natsV .u64 ny) _ (fun _ hS_ => blk_all (hS_.2)) Try.underlying24 rfl (i24 L_ny.out)) ?_
  try simp only [Act.put, zq1, zq2, zq3, zq4, zq5, zq6]
  refine wpAnyG_take (fun _ _ hS_ hb_ => ⟨hS_.1.gr hb_, hS_.2.gr hb_⟩) (i := 2) rfl (by kernel_rfl) (fun _ _ _ h => h) (buildG (by rfl) _ _ rfl _ (built43 L_nx.out L_ny.out) (by simp [Act.eval])) ?_
  try simp only [Act.put, zq1, zq2, zq3, zq4, zq5, zq6]
  refine wpAnyG_set (i := 3) (by kernel_rfl) (by kernel_rfl) rfl rfl E93.out (lenEq (show (pv (zeros 4) (zeros 4) false).length = 9 from rfl) (pv_len L_nx.out L_ny.out)) (StoresG.mk (cs := (pv nx ny false)) (by rfl) 43 _ _ rfl rfl rfl (i43 L_nx.out L_ny.out) (pv_one _ _ _)) ?_
  intro w101 hgw101 hn_
  try simp only [Act.put, zq1, zq2, zq3, zq4, zq5, zq6]
  have hbel102 := belStore hbel99 hgw101 (show w.heap.size ≤ (w.heap.size + 1 + 1) by omega)
  have D103 := Lib.hid hn_
  go_wp2_with fail
  refine bodyPost_ret (v := .agg (pv nx ny false).toArray) ?_ rfl ⟨rfl, hbel102⟩
  exact results_cell_row Try.results39 _ _ (w.heap.size + 1 + 1) 43 _ (0, 0) _ rfl D103.out Try.underlying43 rfl (by simpa using (i43 L_nx.out L_ny.out))
end Go.Proofs.Ytfffmoolkgheaaa
