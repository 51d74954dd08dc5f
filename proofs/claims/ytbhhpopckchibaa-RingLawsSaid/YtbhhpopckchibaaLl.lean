/- RingLaws: the walk. Condition: the coefficients are 32-bit numbers. -/
import Derived.Test.YtbhhpopckchibaaLh
import Derived.Test.YtbhhpopckchibaaMu
import Derived.Test.YtbhhpopckchibaaNt
namespace Go.Proofs.Ytbhhpopckchibaa
open Go.RowKit
set_option linter.unusedVariables false
set_option linter.unusedSimpArgs false
theorem builtS (x : Int) : Try.prog.built 23 [(0, .int .i32 x)] = some (iv (sngI x)).toArray := by kernel_rfl
theorem two_X : iv (PL xP) = ((iv zerI).set 0 (.int .i32 0)).set 1 (.int .i32 1) := by
  rw [iv_set, iv_set, ← xI_PL]
  exact congrArg iv (by decide +kernel)
theorem fz_neg (x : FQ) : fz (-(x.val : Int)) = -x := by
  have h := fz_sub 0 (x.val : Int)
  rw [fz_nat, show (0 : Int) - (x.val : Int) = -(x.val : Int) by omega] at h
  rw [h]
  have h0 : fz 0 = 0 := by decide +kernel
  rw [h0]; clear h h0; grobner
theorem shX_0 (A : Nat → FQ) : (PL (shX A)).getD 0 0 = (PL (rdF (sngI (-((A 255).val : Int))))).getD 0 0 := by
  rw [PL_get _ 0 (by decide), PL_get _ 0 (by decide)]
  unfold shX rdF
  rw [if_pos rfl, sngI_get _ 0 (by decide), if_pos rfl, fz_neg]
theorem shX_s (A : Nat → FQ) (i : Nat) (h1 : 1 ≤ i) (h2 : i < 256) : (PL (shX A)).getD i 0 = (PL A).getD (i - 1) 0 := by
  rw [PL_get _ i h2, PL_get _ (i - 1) (by omega)]
  unfold shX
  rw [if_neg (by omega)]
set_option maxRecDepth 100000 in
set_option maxHeartbeats 12800000 in
theorem laws_walk (x y z : List Int) (hx : IsP x) (hy : IsP y) (hz : IsP z) (w : World) : Calls Try.prog 6 #[.agg (iv x).toArray, .agg (iv y).toArray, .agg (iv z).toArray] w fun e w' => e = .returned (.bool true) ∧ Below w.heap.size w w' := by
  have HA := Lib.hid awake_any
  have R1 := Lib.hid (Reduce_any x hx)
  have R2 := Lib.hid (Reduce_any y hy)
  have R3 := Lib.hid (Reduce_any z hz)
  have L_x := Lib.hid hx.1
  have L_y := Lib.hid hy.1
  have L_z := Lib.hid hz.1
  clear hx hy hz
  generalize rdF x = A at *
  generalize rdF y = B at *
  generalize rdF z = C at *
  have M1 := Lib.hid (Mul_t A B)
  have M2 := Lib.hid (Mul_t B A)
  rw [mulF_comm B A] at M2
  have M3 := Lib.hid (Mul_t B C)
  have M4 := Lib.hid (Mul_t (mulF A B) C)
  have M5 := Lib.hid (Mul_t A (mulF B C))
  rw [← mulF_assoc] at M5
  have D1 := Lib.hid (Add_t B C)
  have M6 := Lib.hid (Mul_t A (addF B C))
  have M7 := Lib.hid (Mul_t A C)
  have D2 := Lib.hid (Add_t (mulF A B) (mulF A C))
  rw [show PL (fun i => mulF A B i + mulF A C i) = PL (mulF A (addF B C)) from (PL_sm (mulF_add A B C)).symm] at D2
  have D3 := Lib.hid (Sub_t (addF B C) C)
  rw [show (fun i => addF B C i - C i) = B from add_sub B C] at D3
  rw [show (fun i => B i + C i) = addF B C from rfl] at D1
  have N1 := Lib.hid (NTT_t A)
  have N2 := Lib.hid (NTT_t B)
  have N3 := Lib.hid (NTT_t (mulF A B))
  rw [ntt_mulF] at N3
  have T1 := Lib.hid (Times_t (ntt A) (ntt B))
  have K1 := Lib.hid (Back_t (ntt A))
  rw [bck_ntt] at K1
  have K2 := Lib.hid (Back_t A)
  have N4 := Lib.hid (NTT_t (bck A))
  rw [ntt_bck] at N4
  have M8 := Lib.hid (Mul_t A xP)
  rw [two_X, PL_sm (mulF_X A)] at M8
  have S0 := Lib.hid (shX_0 A)
  have SS := Lib.hid (shX_s A)
  have G5 := Lib.hid (PL_get A 255 (by decide))
  have hlb := fq_bd (A 255)
  have R4 := Lib.hid (Reduce_any (sngI (-((A 255).val : Int))) (sngI_P ⟨by omega, by omega⟩))
  have L_al := Lib.hid (PL_length A)
  have L_bl := Lib.hid (PL_length B)
  have L_cl := Lib.hid (PL_length C)
  have L_ab := Lib.hid (PL_length (mulF A B))
  have L_bc := Lib.hid (PL_length (mulF B C))
  have L_lf := Lib.hid (PL_length (mulF (mulF A B) C))
  have L_sm := Lib.hid (PL_length (addF B C))
  have L_ov := Lib.hid (PL_length (mulF A (addF B C)))
  have L_ac := Lib.hid (PL_length (mulF A C))
  have L_ul := Lib.hid (PL_length (ntt A))
  have L_vl := Lib.hid (PL_length (ntt B))
  have L_wl := Lib.hid (PL_length (fun i => ntt A i * ntt B i))
  have L_aw := Lib.hid (PL_length (bck A))
  have L_tl := Lib.hid (PL_length (shX A))
  have L_nl := Lib.hid (PL_length (rdF (sngI (-((A 255).val : Int)))))
  generalize PL (rdF (sngI (-((A 255).val : Int)))) = nl at *
  generalize PL (shX A) = tl at *
  generalize PL (bck A) = aw at *
  generalize PL (fun i => ntt A i * ntt B i) = wl at *
  generalize PL (ntt B) = vl at *
  generalize PL (ntt A) = ul at *
  generalize PL (mulF A C) = ac at *
  generalize PL (mulF A (addF B C)) = ov at *
  generalize PL (addF B C) = sm at *
  generalize PL (mulF (mulF A B) C) = lf at *
  generalize PL (mulF B C) = bc at *
  generalize PL (mulF A B) = ab at *
  generalize PL A = al at *
  generalize PL B = bl at *
  generalize PL C = cl at *
  obtain ⟨la, hla⟩ : ∃ la : Int, ((A 255).val : Int) = la := ⟨_, rfl⟩
  rw [hla] at G5 hlb R4
  clear hla
  have L_sg := Lib.hid (sngI_len (-la))
  have z23 := zero23
  have ewr : IntKind.i32.wrap (-la) = -la := IntWalk.i32_in _ (by omega)
  have q1 := fun w => eqin23 ab ab L_ab.out L_ab.out w
  have q2 := fun w => eqin23 lf lf L_lf.out L_lf.out w
  have q3 := fun w => eqin23 ov ov L_ov.out L_ov.out w
  have q4 := fun w => eqin23 bl bl L_bl.out L_bl.out w
  have q5 := fun w => eqin23 wl wl L_wl.out L_wl.out w
  have q6 := fun w => eqin23 al al L_al.out L_al.out w
  have hidx : ∀ w, (Instr.index 23 (.agg (iv nl).toArray) (.int .i64 0)).run Try.prog w = .ok (.int .i32 (tl.getD 0 0)) w := fun w => by
    have h := index23 w nl 0 (by decide) L_nl.out
    rw [← S0.out] at h; exact h
  have B0_ := Lib.hid (((Blk.new w  23 (iv x)).alloc (.cells (iv y).toArray 23)).alloc (.cells (iv z).toArray 23))
  have B1_ := Lib.hid ((Blk.new2 w (.cells (iv x).toArray 23) 23 (iv y)).alloc (.cells (iv z).toArray 23))
  have B2_ := Lib.hid (Blk.new3 w (.cells (iv x).toArray 23) (.cells (iv y).toArray 23) 23 (iv z))
  have bel_ := ((((Below.refl w.heap.size w).alloc (Nat.le_refl _) (.cells (iv x).toArray 23)).alloc (by simp) (.cells (iv y).toArray 23)).alloc (by simp; omega) (.cells (iv z).toArray 23))
  go_enter Try.func6, Try.ntmps6
  go_wp2_with fail
  refine (HA.out _).mono ?_
  rintro e w1 ⟨rfl, hbw1⟩
  have C2 := Lib.hid (B0_.out.gr hbw1)
  clear B0_
  have C3 := Lib.hid (B1_.out.gr hbw1)
  clear B1_
  have C4 := Lib.hid (B2_.out.gr hbw1)
  clear B2_
  have hbel5 := bel_.trans (Below.mono hbw1 bel_.size)
  clear bel_
  clear hbw1
  go_wp2_with (first | (refine wpList_load_mid rfl 23 (.tmp 3) rfl w.heap.size 0 rfl (iv x) _ (blk_all (C2.out)) Try.underlying23 rfl (i23 L_x.out) ?_))
  refine (R1.out _).mono ?_
  rintro e w6 ⟨rfl, hbw6⟩
  have C7 := Lib.hid (C2.out.gr hbw6)
  clear C2
  have C8 := Lib.hid (C3.out.gr hbw6)
  clear C3
  have C9 := Lib.hid (C4.out.gr hbw6)
  clear C4
  have hbel10 := hbel5.trans (Below.mono hbw6 hbel5.size)
  clear hbel5
  clear hbw6
  as_aux_lemma =>
  clear C7
  go_wp2_with (first | (refine stB rfl 23 (.tmp 8) (.tmp 53) rfl w6.heap.size rfl (iv al) rfl 23 (iv zerI) (Blk.new w6 23 (iv zerI)) (i23 L_al.out) (lenEq (show (iv zerI).length = 256 by rw [iv_length, zerI_length]) (show (iv al).length = 256 by rw [iv_length, L_al.out])) (iv_one _) ?_; generalize hW : World.setRow _ _ _ = w11; obtain ⟨hgw11, hnw11⟩ := newfacts hW; clear hW; have C14 := Lib.hid (C8.out.gr hgw11); clear C8; have C15 := Lib.hid (C9.out.gr hgw11); clear C9; have hbel16 := hbel10.trans (Below.mono hgw11 hbel10.size); clear hbel10; have D13 := Lib.hid hnw11; have szw11 := hgw11.size; clear hnw11 hgw11 szw11; generalize w6.heap.size = G12 at *) | (refine wpList_load_mid rfl 23 (.tmp 4) rfl (w.heap.size + 1) 0 rfl (iv y) _ (blk_all (C14.out)) Try.underlying23 rfl (i23 L_y.out) ?_))
  refine (R2.out _).mono ?_
  rintro e w17 ⟨rfl, hbw17⟩
  have C18 := Lib.hid (C14.out.gr hbw17)
  clear C14
  have C19 := Lib.hid (C15.out.gr hbw17)
  clear C15
  have C20 := Lib.hid (D13.out.gr hbw17)
  clear D13
  have hbel21 := hbel16.trans (Below.mono hbw17 hbel16.size)
  clear hbel16
  clear hbw17
  clear C18
  go_wp2_with (first | (refine stB rfl 23 (.tmp 9) (.tmp 55) rfl w17.heap.size rfl (iv bl) rfl 23 (iv zerI) (Blk.new w17 23 (iv zerI)) (i23 L_bl.out) (lenEq (show (iv zerI).length = 256 by rw [iv_length, zerI_length]) (show (iv bl).length = 256 by rw [iv_length, L_bl.out])) (iv_one _) ?_; generalize hW : World.setRow _ _ _ = w22; obtain ⟨hgw22, hnw22⟩ := newfacts hW; clear hW; have C25 := Lib.hid (C19.out.gr hgw22); clear C19; have C26 := Lib.hid (C20.out.gr hgw22); clear C20; have hbel27 := hbel21.trans (Below.mono hgw22 hbel21.size); clear hbel21; have D24 := Lib.hid hnw22; have szw22 := hgw22.size; clear hnw22 hgw22 szw22; generalize w17.heap.size = G23 at *) | (refine wpList_load_mid rfl 23 (.tmp 5) rfl (w.heap.size + 1 + 1) 0 rfl (iv z) _ (blk_all (C25.out)) Try.underlying23 rfl (i23 L_z.out) ?_))
  refine (R3.out _).mono ?_
  rintro e w28 ⟨rfl, hbw28⟩
  have C29 := Lib.hid (C25.out.gr hbw28)
  clear C25
  have C30 := Lib.hid (C26.out.gr hbw28)
  clear C26
  have C31 := Lib.hid (D24.out.gr hbw28)
  clear D24
  have hbel32 := hbel27.trans (Below.mono hbw28 hbel27.size)
  clear hbel27
  clear hbw28
  as_aux_lemma =>
  clear C29
  go_wp2_with (first | (refine stB rfl 23 (.tmp 10) (.tmp 57) rfl w28.heap.size rfl (iv cl) rfl 23 (iv zerI) (Blk.new w28 23 (iv zerI)) (i23 L_cl.out) (lenEq (show (iv zerI).length = 256 by rw [iv_length, zerI_length]) (show (iv cl).length = 256 by rw [iv_length, L_cl.out])) (iv_one _) ?_; generalize hW : World.setRow _ _ _ = w33; obtain ⟨hgw33, hnw33⟩ := newfacts hW; clear hW; have C36 := Lib.hid (C30.out.gr hgw33); clear C30; have C37 := Lib.hid (C31.out.gr hgw33); clear C31; have hbel38 := hbel32.trans (Below.mono hgw33 hbel32.size); clear hbel32; have D35 := Lib.hid hnw33; have szw33 := hgw33.size; clear hnw33 hgw33 szw33; generalize w28.heap.size = G34 at *) | (refine wpList_load_mid rfl 23 (.tmp 8) rfl G12 0 rfl (iv al) _ (blk_all (C36.out)) Try.underlying23 rfl (i23 L_al.out) ?_) | (refine wpList_load_mid rfl 23 (.tmp 9) rfl G23 0 rfl (iv bl) _ (blk_all (C37.out)) Try.underlying23 rfl (i23 L_bl.out) ?_))
  refine (M1.out _).mono ?_
  rintro e w39 ⟨rfl, hbw39⟩
  have C40 := Lib.hid (C36.out.gr hbw39)
  clear C36
  have C41 := Lib.hid (C37.out.gr hbw39)
  clear C37
  have C42 := Lib.hid (D35.out.gr hbw39)
  clear D35
  have hbel43 := hbel38.trans (Below.mono hbw39 hbel38.size)
  clear hbel38
  clear hbw39
  go_wp2_with (first | (refine stB rfl 23 (.tmp 11) (.tmp 62) rfl w39.heap.size rfl (iv ab) rfl 23 (iv zerI) (Blk.new w39 23 (iv zerI)) (i23 L_ab.out) (lenEq (show (iv zerI).length = 256 by rw [iv_length, zerI_length]) (show (iv ab).length = 256 by rw [iv_length, L_ab.out])) (iv_one _) ?_; generalize hW : World.setRow _ _ _ = w44; obtain ⟨hgw44, hnw44⟩ := newfacts hW; clear hW; have C47 := Lib.hid (C40.out.gr hgw44); clear C40; have C48 := Lib.hid (C41.out.gr hgw44); clear C41; have C49 := Lib.hid (C42.out.gr hgw44); clear C42; have hbel50 := hbel43.trans (Below.mono hgw44 hbel43.size); clear hbel43; have D46 := Lib.hid hnw44; have szw44 := hgw44.size; clear hnw44 hgw44 szw44; generalize w39.heap.size = G45 at *) | (refine wpList_load_mid rfl 23 (.tmp 9) rfl G23 0 rfl (iv bl) _ (blk_all (C48.out)) Try.underlying23 rfl (i23 L_bl.out) ?_) | (refine wpList_load_mid rfl 23 (.tmp 8) rfl G12 0 rfl (iv al) _ (blk_all (C47.out)) Try.underlying23 rfl (i23 L_al.out) ?_))
  refine (M2.out _).mono ?_
  rintro e w51 ⟨rfl, hbw51⟩
  have C52 := Lib.hid (C47.out.gr hbw51)
  clear C47
  have C53 := Lib.hid (C48.out.gr hbw51)
  clear C48
  have C54 := Lib.hid (C49.out.gr hbw51)
  clear C49
  have C55 := Lib.hid (D46.out.gr hbw51)
  clear D46
  have hbel56 := hbel50.trans (Below.mono hbw51 hbel50.size)
  clear hbel50
  clear hbw51
  as_aux_lemma =>
  go_wp2_with (first | (refine stB rfl 23 (.tmp 13) (.tmp 68) rfl w51.heap.size rfl (iv ab) rfl 23 (iv zerI) (Blk.new w51 23 (iv zerI)) (i23 L_ab.out) (lenEq (show (iv zerI).length = 256 by rw [iv_length, zerI_length]) (show (iv ab).length = 256 by rw [iv_length, L_ab.out])) (iv_one _) ?_; generalize hW : World.setRow _ _ _ = w57; obtain ⟨hgw57, hnw57⟩ := newfacts hW; clear hW; have C60 := Lib.hid (C52.out.gr hgw57); clear C52; have C61 := Lib.hid (C53.out.gr hgw57); clear C53; have C62 := Lib.hid (C54.out.gr hgw57); clear C54; have C63 := Lib.hid (C55.out.gr hgw57); clear C55; have hbel64 := hbel56.trans (Below.mono hgw57 hbel56.size); clear hbel56; have D59 := Lib.hid hnw57; have szw57 := hgw57.size; clear hnw57 hgw57 szw57; generalize w51.heap.size = G58 at *) | (refine wpList_load_mid rfl 23 (.tmp 9) rfl G23 0 rfl (iv bl) _ (blk_all (C61.out)) Try.underlying23 rfl (i23 L_bl.out) ?_) | (refine wpList_load_mid rfl 23 (.tmp 10) rfl G34 0 rfl (iv cl) _ (blk_all (C62.out)) Try.underlying23 rfl (i23 L_cl.out) ?_))
  refine (M3.out _).mono ?_
  rintro e w65 ⟨rfl, hbw65⟩
  have C66 := Lib.hid (C60.out.gr hbw65)
  clear C60
  have C67 := Lib.hid (C61.out.gr hbw65)
  clear C61
  have C68 := Lib.hid (C62.out.gr hbw65)
  clear C62
  have C69 := Lib.hid (C63.out.gr hbw65)
  clear C63
  have C70 := Lib.hid (D59.out.gr hbw65)
  clear D59
  have hbel71 := hbel64.trans (Below.mono hbw65 hbel64.size)
  clear hbel64
  clear hbw65
  go_wp2_with (first | (refine stB rfl 23 (.tmp 15) (.tmp 74) rfl w65.heap.size rfl (iv bc) rfl 23 (iv zerI) (Blk.new w65 23 (iv zerI)) (i23 L_bc.out) (lenEq (show (iv zerI).length = 256 by rw [iv_length, zerI_length]) (show (iv bc).length = 256 by rw [iv_length, L_bc.out])) (iv_one _) ?_; generalize hW : World.setRow _ _ _ = w72; obtain ⟨hgw72, hnw72⟩ := newfacts hW; clear hW; have C75 := Lib.hid (C66.out.gr hgw72); clear C66; have C76 := Lib.hid (C67.out.gr hgw72); clear C67; have C77 := Lib.hid (C68.out.gr hgw72); clear C68; have C78 := Lib.hid (C69.out.gr hgw72); clear C69; have C79 := Lib.hid (C70.out.gr hgw72); clear C70; have hbel80 := hbel71.trans (Below.mono hgw72 hbel71.size); clear hbel71; have D74 := Lib.hid hnw72; have szw72 := hgw72.size; clear hnw72 hgw72 szw72; generalize w65.heap.size = G73 at *) | (refine wpList_load_mid rfl 23 (.tmp 11) rfl G45 0 rfl (iv ab) _ (blk_all (C78.out)) Try.underlying23 rfl (i23 L_ab.out) ?_) | (refine wpList_load_mid rfl 23 (.tmp 10) rfl G34 0 rfl (iv cl) _ (blk_all (C77.out)) Try.underlying23 rfl (i23 L_cl.out) ?_))
  refine (M4.out _).mono ?_
  rintro e w81 ⟨rfl, hbw81⟩
  have C82 := Lib.hid (C75.out.gr hbw81)
  clear C75
  have C83 := Lib.hid (C76.out.gr hbw81)
  clear C76
  have C84 := Lib.hid (C77.out.gr hbw81)
  clear C77
  have C85 := Lib.hid (C78.out.gr hbw81)
  clear C78
  have C86 := Lib.hid (C79.out.gr hbw81)
  clear C79
  have C87 := Lib.hid (D74.out.gr hbw81)
  clear D74
  have hbel88 := hbel80.trans (Below.mono hbw81 hbel80.size)
  clear hbel80
  clear hbw81
  as_aux_lemma =>
  go_wp2_with (first | (refine stB rfl 23 (.tmp 17) (.tmp 94) rfl w81.heap.size rfl (iv lf) rfl 23 (iv zerI) (Blk.new w81 23 (iv zerI)) (i23 L_lf.out) (lenEq (show (iv zerI).length = 256 by rw [iv_length, zerI_length]) (show (iv lf).length = 256 by rw [iv_length, L_lf.out])) (iv_one _) ?_; generalize hW : World.setRow _ _ _ = w89; obtain ⟨hgw89, hnw89⟩ := newfacts hW; clear hW; have C92 := Lib.hid (C82.out.gr hgw89); clear C82; have C93 := Lib.hid (C83.out.gr hgw89); clear C83; have C94 := Lib.hid (C84.out.gr hgw89); clear C84; have C95 := Lib.hid (C85.out.gr hgw89); clear C85; have C96 := Lib.hid (C86.out.gr hgw89); clear C86; have C97 := Lib.hid (C87.out.gr hgw89); clear C87; have hbel98 := hbel88.trans (Below.mono hgw89 hbel88.size); clear hbel88; have D91 := Lib.hid hnw89; have szw89 := hgw89.size; clear hnw89 hgw89 szw89; generalize w81.heap.size = G90 at *) | (refine wpList_load_mid rfl 23 (.tmp 8) rfl G12 0 rfl (iv al) _ (blk_all (C92.out)) Try.underlying23 rfl (i23 L_al.out) ?_) | (refine wpList_load_mid rfl 23 (.tmp 15) rfl G73 0 rfl (iv bc) _ (blk_all (C97.out)) Try.underlying23 rfl (i23 L_bc.out) ?_))
  refine (M5.out _).mono ?_
  rintro e w99 ⟨rfl, hbw99⟩
  have C100 := Lib.hid (C92.out.gr hbw99)
  clear C92
  have C101 := Lib.hid (C93.out.gr hbw99)
  clear C93
  have C102 := Lib.hid (C94.out.gr hbw99)
  clear C94
  have C103 := Lib.hid (C95.out.gr hbw99)
  clear C95
  have C104 := Lib.hid (C96.out.gr hbw99)
  clear C96
  have C105 := Lib.hid (C97.out.gr hbw99)
  clear C97
  have C106 := Lib.hid (D91.out.gr hbw99)
  clear D91
  have hbel107 := hbel98.trans (Below.mono hbw99 hbel98.size)
  clear hbel98
  clear hbw99
  clear C105
  go_wp2_with (first | (refine stB rfl 23 (.tmp 19) (.tmp 100) rfl w99.heap.size rfl (iv lf) rfl 23 (iv zerI) (Blk.new w99 23 (iv zerI)) (i23 L_lf.out) (lenEq (show (iv zerI).length = 256 by rw [iv_length, zerI_length]) (show (iv lf).length = 256 by rw [iv_length, L_lf.out])) (iv_one _) ?_; generalize hW : World.setRow _ _ _ = w108; obtain ⟨hgw108, hnw108⟩ := newfacts hW; clear hW; have C111 := Lib.hid (C100.out.gr hgw108); clear C100; have C112 := Lib.hid (C101.out.gr hgw108); clear C101; have C113 := Lib.hid (C102.out.gr hgw108); clear C102; have C114 := Lib.hid (C103.out.gr hgw108); clear C103; have C115 := Lib.hid (C104.out.gr hgw108); clear C104; have C116 := Lib.hid (C106.out.gr hgw108); clear C106; have hbel117 := hbel107.trans (Below.mono hgw108 hbel107.size); clear hbel107; have D110 := Lib.hid hnw108; have szw108 := hgw108.size; clear hnw108 hgw108 szw108; generalize w99.heap.size = G109 at *) | (refine wpList_load_mid rfl 23 (.tmp 9) rfl G23 0 rfl (iv bl) _ (blk_all (C112.out)) Try.underlying23 rfl (i23 L_bl.out) ?_) | (refine wpList_load_mid rfl 23 (.tmp 10) rfl G34 0 rfl (iv cl) _ (blk_all (C113.out)) Try.underlying23 rfl (i23 L_cl.out) ?_))
  refine (D1.out _).mono ?_
  rintro e w118 ⟨rfl, hbw118⟩
  have C119 := Lib.hid (C111.out.gr hbw118)
  clear C111
  have C120 := Lib.hid (C112.out.gr hbw118)
  clear C112
  have C121 := Lib.hid (C113.out.gr hbw118)
  clear C113
  have C122 := Lib.hid (C114.out.gr hbw118)
  clear C114
  have C123 := Lib.hid (C115.out.gr hbw118)
  clear C115
  have C124 := Lib.hid (C116.out.gr hbw118)
  clear C116
  have C125 := Lib.hid (D110.out.gr hbw118)
  clear D110
  have hbel126 := hbel117.trans (Below.mono hbw118 hbel117.size)
  clear hbel117
  clear hbw118
  as_aux_lemma =>
  go_wp2_with (first | (refine stB rfl 23 (.tmp 21) (.tmp 106) rfl w118.heap.size rfl (iv sm) rfl 23 (iv zerI) (Blk.new w118 23 (iv zerI)) (i23 L_sm.out) (lenEq (show (iv zerI).length = 256 by rw [iv_length, zerI_length]) (show (iv sm).length = 256 by rw [iv_length, L_sm.out])) (iv_one _) ?_; generalize hW : World.setRow _ _ _ = w127; obtain ⟨hgw127, hnw127⟩ := newfacts hW; clear hW; have C130 := Lib.hid (C119.out.gr hgw127); clear C119; have C131 := Lib.hid (C120.out.gr hgw127); clear C120; have C132 := Lib.hid (C121.out.gr hgw127); clear C121; have C133 := Lib.hid (C122.out.gr hgw127); clear C122; have C134 := Lib.hid (C123.out.gr hgw127); clear C123; have C135 := Lib.hid (C124.out.gr hgw127); clear C124; have C136 := Lib.hid (C125.out.gr hgw127); clear C125; have hbel137 := hbel126.trans (Below.mono hgw127 hbel126.size); clear hbel126; have D129 := Lib.hid hnw127; have szw127 := hgw127.size; clear hnw127 hgw127 szw127; generalize w118.heap.size = G128 at *) | (refine wpList_load_mid rfl 23 (.tmp 8) rfl G12 0 rfl (iv al) _ (blk_all (C130.out)) Try.underlying23 rfl (i23 L_al.out) ?_) | (refine wpList_load_mid rfl 23 (.tmp 21) rfl G128 0 rfl (iv sm) _ (blk_all (D129.out)) Try.underlying23 rfl (i23 L_sm.out) ?_))
  refine (M6.out _).mono ?_
  rintro e w138 ⟨rfl, hbw138⟩
  have C139 := Lib.hid (C130.out.gr hbw138)
  clear C130
  have C140 := Lib.hid (C131.out.gr hbw138)
  clear C131
  have C141 := Lib.hid (C132.out.gr hbw138)
  clear C132
  have C142 := Lib.hid (C133.out.gr hbw138)
  clear C133
  have C143 := Lib.hid (C134.out.gr hbw138)
  clear C134
  have C144 := Lib.hid (C135.out.gr hbw138)
  clear C135
  have C145 := Lib.hid (C136.out.gr hbw138)
  clear C136
  have C146 := Lib.hid (D129.out.gr hbw138)
  clear D129
  have hbel147 := hbel137.trans (Below.mono hbw138 hbel137.size)
  clear hbel137
  clear hbw138
  go_wp2_with (first | (refine stB rfl 23 (.tmp 23) (.tmp 112) rfl w138.heap.size rfl (iv ov) rfl 23 (iv zerI) (Blk.new w138 23 (iv zerI)) (i23 L_ov.out) (lenEq (show (iv zerI).length = 256 by rw [iv_length, zerI_length]) (show (iv ov).length = 256 by rw [iv_length, L_ov.out])) (iv_one _) ?_; generalize hW : World.setRow _ _ _ = w148; obtain ⟨hgw148, hnw148⟩ := newfacts hW; clear hW; have C151 := Lib.hid (C139.out.gr hgw148); clear C139; have C152 := Lib.hid (C140.out.gr hgw148); clear C140; have C153 := Lib.hid (C141.out.gr hgw148); clear C141; have C154 := Lib.hid (C142.out.gr hgw148); clear C142; have C155 := Lib.hid (C143.out.gr hgw148); clear C143; have C156 := Lib.hid (C144.out.gr hgw148); clear C144; have C157 := Lib.hid (C145.out.gr hgw148); clear C145; have C158 := Lib.hid (C146.out.gr hgw148); clear C146; have hbel159 := hbel147.trans (Below.mono hgw148 hbel147.size); clear hbel147; have D150 := Lib.hid hnw148; have szw148 := hgw148.size; clear hnw148 hgw148 szw148; generalize w138.heap.size = G149 at *) | (refine wpList_load_mid rfl 23 (.tmp 8) rfl G12 0 rfl (iv al) _ (blk_all (C151.out)) Try.underlying23 rfl (i23 L_al.out) ?_) | (refine wpList_load_mid rfl 23 (.tmp 10) rfl G34 0 rfl (iv cl) _ (blk_all (C153.out)) Try.underlying23 rfl (i23 L_cl.out) ?_))
  refine (M7.out _).mono ?_
  rintro e w160 ⟨rfl, hbw160⟩
  have C161 := Lib.hid (C151.out.gr hbw160)
  clear C151
  have C162 := Lib.hid (C152.out.gr hbw160)
  clear C152
  have C163 := Lib.hid (C153.out.gr hbw160)
  clear C153
  have C164 := Lib.hid (C154.out.gr hbw160)
  clear C154
  have C165 := Lib.hid (C155.out.gr hbw160)
  clear C155
  have C166 := Lib.hid (C156.out.gr hbw160)
  clear C156
  have C167 := Lib.hid (C157.out.gr hbw160)
  clear C157
  have C168 := Lib.hid (C158.out.gr hbw160)
  clear C158
  have C169 := Lib.hid (D150.out.gr hbw160)
  clear D150
  have hbel170 := hbel159.trans (Below.mono hbw160 hbel159.size)
  clear hbel159
  clear hbw160
  as_aux_lemma =>
  go_wp2_with (first | (refine stB rfl 23 (.tmp 25) (.tmp 118) rfl w160.heap.size rfl (iv ac) rfl 23 (iv zerI) (Blk.new w160 23 (iv zerI)) (i23 L_ac.out) (lenEq (show (iv zerI).length = 256 by rw [iv_length, zerI_length]) (show (iv ac).length = 256 by rw [iv_length, L_ac.out])) (iv_one _) ?_; generalize hW : World.setRow _ _ _ = w171; obtain ⟨hgw171, hnw171⟩ := newfacts hW; clear hW; have C174 := Lib.hid (C161.out.gr hgw171); clear C161; have C175 := Lib.hid (C162.out.gr hgw171); clear C162; have C176 := Lib.hid (C163.out.gr hgw171); clear C163; have C177 := Lib.hid (C164.out.gr hgw171); clear C164; have C178 := Lib.hid (C165.out.gr hgw171); clear C165; have C179 := Lib.hid (C166.out.gr hgw171); clear C166; have C180 := Lib.hid (C167.out.gr hgw171); clear C167; have C181 := Lib.hid (C168.out.gr hgw171); clear C168; have C182 := Lib.hid (C169.out.gr hgw171); clear C169; have hbel183 := hbel170.trans (Below.mono hgw171 hbel170.size); clear hbel170; have D173 := Lib.hid hnw171; have szw171 := hgw171.size; clear hnw171 hgw171 szw171; generalize w160.heap.size = G172 at *) | (refine wpList_load_mid rfl 23 (.tmp 11) rfl G45 0 rfl (iv ab) _ (blk_all (C177.out)) Try.underlying23 rfl (i23 L_ab.out) ?_) | (refine wpList_load_mid rfl 23 (.tmp 25) rfl G172 0 rfl (iv ac) _ (blk_all (D173.out)) Try.underlying23 rfl (i23 L_ac.out) ?_))
  refine (D2.out _).mono ?_
  rintro e w184 ⟨rfl, hbw184⟩
  have C185 := Lib.hid (C174.out.gr hbw184)
  clear C174
  have C186 := Lib.hid (C175.out.gr hbw184)
  clear C175
  have C187 := Lib.hid (C176.out.gr hbw184)
  clear C176
  have C188 := Lib.hid (C177.out.gr hbw184)
  clear C177
  have C189 := Lib.hid (C178.out.gr hbw184)
  clear C178
  have C190 := Lib.hid (C179.out.gr hbw184)
  clear C179
  have C191 := Lib.hid (C180.out.gr hbw184)
  clear C180
  have C192 := Lib.hid (C181.out.gr hbw184)
  clear C181
  have C193 := Lib.hid (C182.out.gr hbw184)
  clear C182
  have C194 := Lib.hid (D173.out.gr hbw184)
  clear D173
  have hbel195 := hbel183.trans (Below.mono hbw184 hbel183.size)
  clear hbel183
  clear hbw184
  clear C194
  go_wp2_with (first | (refine stB rfl 23 (.tmp 27) (.tmp 124) rfl w184.heap.size rfl (iv ov) rfl 23 (iv zerI) (Blk.new w184 23 (iv zerI)) (i23 L_ov.out) (lenEq (show (iv zerI).length = 256 by rw [iv_length, zerI_length]) (show (iv ov).length = 256 by rw [iv_length, L_ov.out])) (iv_one _) ?_; generalize hW : World.setRow _ _ _ = w196; obtain ⟨hgw196, hnw196⟩ := newfacts hW; clear hW; have C199 := Lib.hid (C185.out.gr hgw196); clear C185; have C200 := Lib.hid (C186.out.gr hgw196); clear C186; have C201 := Lib.hid (C187.out.gr hgw196); clear C187; have C202 := Lib.hid (C188.out.gr hgw196); clear C188; have C203 := Lib.hid (C189.out.gr hgw196); clear C189; have C204 := Lib.hid (C190.out.gr hgw196); clear C190; have C205 := Lib.hid (C191.out.gr hgw196); clear C191; have C206 := Lib.hid (C192.out.gr hgw196); clear C192; have C207 := Lib.hid (C193.out.gr hgw196); clear C193; have hbel208 := hbel195.trans (Below.mono hgw196 hbel195.size); clear hbel195; have D198 := Lib.hid hnw196; have szw196 := hgw196.size; clear hnw196 hgw196 szw196; generalize w184.heap.size = G197 at *) | (refine wpList_load_mid rfl 23 (.tmp 21) rfl G128 0 rfl (iv sm) _ (blk_all (C206.out)) Try.underlying23 rfl (i23 L_sm.out) ?_) | (refine wpList_load_mid rfl 23 (.tmp 10) rfl G34 0 rfl (iv cl) _ (blk_all (C201.out)) Try.underlying23 rfl (i23 L_cl.out) ?_))
  refine (D3.out _).mono ?_
  rintro e w209 ⟨rfl, hbw209⟩
  have C210 := Lib.hid (C199.out.gr hbw209)
  clear C199
  have C211 := Lib.hid (C200.out.gr hbw209)
  clear C200
  have C212 := Lib.hid (C201.out.gr hbw209)
  clear C201
  have C213 := Lib.hid (C202.out.gr hbw209)
  clear C202
  have C214 := Lib.hid (C203.out.gr hbw209)
  clear C203
  have C215 := Lib.hid (C204.out.gr hbw209)
  clear C204
  have C216 := Lib.hid (C205.out.gr hbw209)
  clear C205
  have C217 := Lib.hid (C206.out.gr hbw209)
  clear C206
  have C218 := Lib.hid (C207.out.gr hbw209)
  clear C207
  have C219 := Lib.hid (D198.out.gr hbw209)
  clear D198
  have hbel220 := hbel208.trans (Below.mono hbw209 hbel208.size)
  clear hbel208
  clear hbw209
  as_aux_lemma =>
  clear C217 C212
  go_wp2_with (first | (refine stB rfl 23 (.tmp 29) (.tmp 130) rfl w209.heap.size rfl (iv bl) rfl 23 (iv zerI) (Blk.new w209 23 (iv zerI)) (i23 L_bl.out) (lenEq (show (iv zerI).length = 256 by rw [iv_length, zerI_length]) (show (iv bl).length = 256 by rw [iv_length, L_bl.out])) (iv_one _) ?_; generalize hW : World.setRow _ _ _ = w221; obtain ⟨hgw221, hnw221⟩ := newfacts hW; clear hW; have C224 := Lib.hid (C210.out.gr hgw221); clear C210; have C225 := Lib.hid (C211.out.gr hgw221); clear C211; have C226 := Lib.hid (C213.out.gr hgw221); clear C213; have C227 := Lib.hid (C214.out.gr hgw221); clear C214; have C228 := Lib.hid (C215.out.gr hgw221); clear C215; have C229 := Lib.hid (C216.out.gr hgw221); clear C216; have C230 := Lib.hid (C218.out.gr hgw221); clear C218; have C231 := Lib.hid (C219.out.gr hgw221); clear C219; have hbel232 := hbel220.trans (Below.mono hgw221 hbel220.size); clear hbel220; have D223 := Lib.hid hnw221; have szw221 := hgw221.size; clear hnw221 hgw221 szw221; generalize w209.heap.size = G222 at *) | (refine wpList_load_mid rfl 23 (.tmp 11) rfl G45 0 rfl (iv ab) _ (blk_all (C226.out)) Try.underlying23 rfl (i23 L_ab.out) ?_) | (refine wpList_load_mid rfl 23 (.tmp 13) rfl G58 0 rfl (iv ab) _ (blk_all (C227.out)) Try.underlying23 rfl (i23 L_ab.out) ?_) | (refine ldwM 23 (.tmp 17) rfl G90 0 rfl (iv lf) _ (blk_all (C228.out)) Try.underlying23 rfl (i23 L_lf.out) 3 true rfl 135 rfl rfl ?_) | (refine ldwM 23 (.tmp 19) rfl G109 0 rfl (iv lf) _ (blk_all (C229.out)) Try.underlying23 rfl (i23 L_lf.out) 3 true rfl 135 rfl rfl ?_) | (refine ldwM 23 (.tmp 23) rfl G149 0 rfl (iv ov) _ (blk_all (C230.out)) Try.underlying23 rfl (i23 L_ov.out) 8 true rfl 140 rfl rfl ?_) | (refine ldwM 23 (.tmp 27) rfl G197 0 rfl (iv ov) _ (blk_all (C231.out)) Try.underlying23 rfl (i23 L_ov.out) 8 true rfl 140 rfl rfl ?_) | (refine ldwM 23 (.tmp 29) rfl G222 0 rfl (iv bl) _ (blk_all (D223.out)) Try.underlying23 rfl (i23 L_bl.out) 13 true rfl 145 rfl rfl ?_) | (refine ldwM 23 (.tmp 9) rfl G23 0 rfl (iv bl) _ (blk_all (C225.out)) Try.underlying23 rfl (i23 L_bl.out) 13 true rfl 145 rfl rfl ?_) | (refine wpList_load_mid rfl 23 (.tmp 8) rfl G12 0 rfl (iv al) _ (blk_all (C224.out)) Try.underlying23 rfl (i23 L_al.out) ?_))
  refine (N1.out _).mono ?_
  rintro e w233 ⟨rfl, hbw233⟩
  have C234 := Lib.hid (C224.out.gr hbw233)
  clear C224
  have C235 := Lib.hid (C225.out.gr hbw233)
  clear C225
  have C236 := Lib.hid (C226.out.gr hbw233)
  clear C226
  have C237 := Lib.hid (C227.out.gr hbw233)
  clear C227
  have C238 := Lib.hid (C228.out.gr hbw233)
  clear C228
  have C239 := Lib.hid (C229.out.gr hbw233)
  clear C229
  have C240 := Lib.hid (C230.out.gr hbw233)
  clear C230
  have C241 := Lib.hid (C231.out.gr hbw233)
  clear C231
  have C242 := Lib.hid (D223.out.gr hbw233)
  clear D223
  have hbel243 := hbel232.trans (Below.mono hbw233 hbel232.size)
  clear hbel232
  clear hbw233
  clear C237 C238 C239 C240 C241 C242
  go_wp2_with (first | (refine stB rfl 23 (.tmp 32) (.tmp 153) rfl w233.heap.size rfl (iv ul) rfl 23 (iv zerI) (Blk.new w233 23 (iv zerI)) (i23 L_ul.out) (lenEq (show (iv zerI).length = 256 by rw [iv_length, zerI_length]) (show (iv ul).length = 256 by rw [iv_length, L_ul.out])) (iv_one _) ?_; generalize hW : World.setRow _ _ _ = w244; obtain ⟨hgw244, hnw244⟩ := newfacts hW; clear hW; have C247 := Lib.hid (C234.out.gr hgw244); clear C234; have C248 := Lib.hid (C235.out.gr hgw244); clear C235; have C249 := Lib.hid (C236.out.gr hgw244); clear C236; have hbel250 := hbel243.trans (Below.mono hgw244 hbel243.size); clear hbel243; have D246 := Lib.hid hnw244; have szw244 := hgw244.size; clear hnw244 hgw244 szw244; generalize w233.heap.size = G245 at *) | (refine wpList_load_mid rfl 23 (.tmp 9) rfl G23 0 rfl (iv bl) _ (blk_all (C248.out)) Try.underlying23 rfl (i23 L_bl.out) ?_))
  refine (N2.out _).mono ?_
  rintro e w251 ⟨rfl, hbw251⟩
  have C252 := Lib.hid (C247.out.gr hbw251)
  clear C247
  have C253 := Lib.hid (C248.out.gr hbw251)
  clear C248
  have C254 := Lib.hid (C249.out.gr hbw251)
  clear C249
  have C255 := Lib.hid (D246.out.gr hbw251)
  clear D246
  have hbel256 := hbel250.trans (Below.mono hbw251 hbel250.size)
  clear hbel250
  clear hbw251
  as_aux_lemma =>
  clear C253
  go_wp2_with (first | (refine stB rfl 23 (.tmp 34) (.tmp 158) rfl w251.heap.size rfl (iv vl) rfl 23 (iv zerI) (Blk.new w251 23 (iv zerI)) (i23 L_vl.out) (lenEq (show (iv zerI).length = 256 by rw [iv_length, zerI_length]) (show (iv vl).length = 256 by rw [iv_length, L_vl.out])) (iv_one _) ?_; generalize hW : World.setRow _ _ _ = w257; obtain ⟨hgw257, hnw257⟩ := newfacts hW; clear hW; have C260 := Lib.hid (C252.out.gr hgw257); clear C252; have C261 := Lib.hid (C254.out.gr hgw257); clear C254; have C262 := Lib.hid (C255.out.gr hgw257); clear C255; have hbel263 := hbel256.trans (Below.mono hgw257 hbel256.size); clear hbel256; have D259 := Lib.hid hnw257; have szw257 := hgw257.size; clear hnw257 hgw257 szw257; generalize w251.heap.size = G258 at *) | (refine wpList_load_mid rfl 23 (.tmp 11) rfl G45 0 rfl (iv ab) _ (blk_all (C261.out)) Try.underlying23 rfl (i23 L_ab.out) ?_))
  refine (N3.out _).mono ?_
  rintro e w264 ⟨rfl, hbw264⟩
  have C265 := Lib.hid (C260.out.gr hbw264)
  clear C260
  have C266 := Lib.hid (C261.out.gr hbw264)
  clear C261
  have C267 := Lib.hid (C262.out.gr hbw264)
  clear C262
  have C268 := Lib.hid (D259.out.gr hbw264)
  clear D259
  have hbel269 := hbel263.trans (Below.mono hbw264 hbel263.size)
  clear hbel263
  clear hbw264
  clear C266
  go_wp2_with (first | (refine stB rfl 23 (.tmp 36) (.tmp 163) rfl w264.heap.size rfl (iv wl) rfl 23 (iv zerI) (Blk.new w264 23 (iv zerI)) (i23 L_wl.out) (lenEq (show (iv zerI).length = 256 by rw [iv_length, zerI_length]) (show (iv wl).length = 256 by rw [iv_length, L_wl.out])) (iv_one _) ?_; generalize hW : World.setRow _ _ _ = w270; obtain ⟨hgw270, hnw270⟩ := newfacts hW; clear hW; have C273 := Lib.hid (C265.out.gr hgw270); clear C265; have C274 := Lib.hid (C267.out.gr hgw270); clear C267; have C275 := Lib.hid (C268.out.gr hgw270); clear C268; have hbel276 := hbel269.trans (Below.mono hgw270 hbel269.size); clear hbel269; have D272 := Lib.hid hnw270; have szw270 := hgw270.size; clear hnw270 hgw270 szw270; generalize w264.heap.size = G271 at *) | (refine wpList_load_mid rfl 23 (.tmp 32) rfl G245 0 rfl (iv ul) _ (blk_all (C274.out)) Try.underlying23 rfl (i23 L_ul.out) ?_) | (refine wpList_load_mid rfl 23 (.tmp 34) rfl G258 0 rfl (iv vl) _ (blk_all (C275.out)) Try.underlying23 rfl (i23 L_vl.out) ?_))
  refine (T1.out _).mono ?_
  rintro e w277 ⟨rfl, hbw277⟩
  have C278 := Lib.hid (C273.out.gr hbw277)
  clear C273
  have C279 := Lib.hid (C274.out.gr hbw277)
  clear C274
  have C280 := Lib.hid (C275.out.gr hbw277)
  clear C275
  have C281 := Lib.hid (D272.out.gr hbw277)
  clear D272
  have hbel282 := hbel276.trans (Below.mono hbw277 hbel276.size)
  clear hbel276
  clear hbw277
  as_aux_lemma =>
  clear C280
  go_wp2_with (first | (refine stB rfl 23 (.tmp 38) (.tmp 169) rfl w277.heap.size rfl (iv wl) rfl 23 (iv zerI) (Blk.new w277 23 (iv zerI)) (i23 L_wl.out) (lenEq (show (iv zerI).length = 256 by rw [iv_length, zerI_length]) (show (iv wl).length = 256 by rw [iv_length, L_wl.out])) (iv_one _) ?_; generalize hW : World.setRow _ _ _ = w283; obtain ⟨hgw283, hnw283⟩ := newfacts hW; clear hW; have C286 := Lib.hid (C278.out.gr hgw283); clear C278; have C287 := Lib.hid (C279.out.gr hgw283); clear C279; have C288 := Lib.hid (C281.out.gr hgw283); clear C281; have hbel289 := hbel282.trans (Below.mono hgw283 hbel282.size); clear hbel282; have D285 := Lib.hid hnw283; have szw283 := hgw283.size; clear hnw283 hgw283 szw283; generalize w277.heap.size = G284 at *) | (refine wpList_load_mid rfl 23 (.tmp 32) rfl G245 0 rfl (iv ul) _ (blk_all (C287.out)) Try.underlying23 rfl (i23 L_ul.out) ?_))
  refine (K1.out _).mono ?_
  rintro e w290 ⟨rfl, hbw290⟩
  have C291 := Lib.hid (C286.out.gr hbw290)
  clear C286
  have C292 := Lib.hid (C287.out.gr hbw290)
  clear C287
  have C293 := Lib.hid (C288.out.gr hbw290)
  clear C288
  have C294 := Lib.hid (D285.out.gr hbw290)
  clear D285
  have hbel295 := hbel289.trans (Below.mono hbw290 hbel289.size)
  clear hbel289
  clear hbw290
  clear C292
  go_wp2_with (first | (refine stB rfl 23 (.tmp 40) (.tmp 174) rfl w290.heap.size rfl (iv al) rfl 23 (iv zerI) (Blk.new w290 23 (iv zerI)) (i23 L_al.out) (lenEq (show (iv zerI).length = 256 by rw [iv_length, zerI_length]) (show (iv al).length = 256 by rw [iv_length, L_al.out])) (iv_one _) ?_; generalize hW : World.setRow _ _ _ = w296; obtain ⟨hgw296, hnw296⟩ := newfacts hW; clear hW; have C299 := Lib.hid (C291.out.gr hgw296); clear C291; have C300 := Lib.hid (C293.out.gr hgw296); clear C293; have C301 := Lib.hid (C294.out.gr hgw296); clear C294; have hbel302 := hbel295.trans (Below.mono hgw296 hbel295.size); clear hbel295; have D298 := Lib.hid hnw296; have szw296 := hgw296.size; clear hnw296 hgw296 szw296; generalize w290.heap.size = G297 at *) | (refine wpList_load_mid rfl 23 (.tmp 8) rfl G12 0 rfl (iv al) _ (blk_all (C299.out)) Try.underlying23 rfl (i23 L_al.out) ?_))
  refine (K2.out _).mono ?_
  rintro e w303 ⟨rfl, hbw303⟩
  have C304 := Lib.hid (C299.out.gr hbw303)
  clear C299
  have C305 := Lib.hid (C300.out.gr hbw303)
  clear C300
  have C306 := Lib.hid (C301.out.gr hbw303)
  clear C301
  have C307 := Lib.hid (D298.out.gr hbw303)
  clear D298
  have hbel308 := hbel302.trans (Below.mono hbw303 hbel302.size)
  clear hbel302
  clear hbw303
  as_aux_lemma =>
  go_wp2_with (first | (refine stB rfl 23 (.tmp 42) (.tmp 179) rfl w303.heap.size rfl (iv aw) rfl 23 (iv zerI) (Blk.new w303 23 (iv zerI)) (i23 L_aw.out) (lenEq (show (iv zerI).length = 256 by rw [iv_length, zerI_length]) (show (iv aw).length = 256 by rw [iv_length, L_aw.out])) (iv_one _) ?_; generalize hW : World.setRow _ _ _ = w309; obtain ⟨hgw309, hnw309⟩ := newfacts hW; clear hW; have C312 := Lib.hid (C304.out.gr hgw309); clear C304; have C313 := Lib.hid (C305.out.gr hgw309); clear C305; have C314 := Lib.hid (C306.out.gr hgw309); clear C306; have C315 := Lib.hid (C307.out.gr hgw309); clear C307; have hbel316 := hbel308.trans (Below.mono hgw309 hbel308.size); clear hbel308; have D311 := Lib.hid hnw309; have szw309 := hgw309.size; clear hnw309 hgw309 szw309; generalize w303.heap.size = G310 at *) | (refine wpList_load_mid rfl 23 (.tmp 42) rfl G310 0 rfl (iv aw) _ (blk_all (D311.out)) Try.underlying23 rfl (i23 L_aw.out) ?_))
  refine (N4.out _).mono ?_
  rintro e w317 ⟨rfl, hbw317⟩
  have C318 := Lib.hid (C312.out.gr hbw317)
  clear C312
  have C319 := Lib.hid (C313.out.gr hbw317)
  clear C313
  have C320 := Lib.hid (C314.out.gr hbw317)
  clear C314
  have C321 := Lib.hid (C315.out.gr hbw317)
  clear C315
  have C322 := Lib.hid (D311.out.gr hbw317)
  clear D311
  have hbel323 := hbel316.trans (Below.mono hbw317 hbel316.size)
  clear hbel316
  clear hbw317
  clear C322
  go_wp2_with (first | (refine stB rfl 23 (.tmp 44) (.tmp 184) rfl w317.heap.size rfl (iv al) rfl 23 (iv zerI) (Blk.new w317 23 (iv zerI)) (i23 L_al.out) (lenEq (show (iv zerI).length = 256 by rw [iv_length, zerI_length]) (show (iv al).length = 256 by rw [iv_length, L_al.out])) (iv_one _) ?_; generalize hW : World.setRow _ _ _ = w324; obtain ⟨hgw324, hnw324⟩ := newfacts hW; clear hW; have C327 := Lib.hid (C318.out.gr hgw324); clear C318; have C328 := Lib.hid (C319.out.gr hgw324); clear C319; have C329 := Lib.hid (C320.out.gr hgw324); clear C320; have C330 := Lib.hid (C321.out.gr hgw324); clear C321; have hbel331 := hbel323.trans (Below.mono hgw324 hbel323.size); clear hbel323; have D326 := Lib.hid hnw324; have szw324 := hgw324.size; clear hnw324 hgw324 szw324; generalize w317.heap.size = G325 at *) | (refine wpList_load_mid rfl 23 (.tmp 8) rfl G12 0 rfl (iv al) _ (blk_all (C327.out)) Try.underlying23 rfl (i23 L_al.out) ?_))
  refine (M8.out _).mono ?_
  rintro e w332 ⟨rfl, hbw332⟩
  have C333 := Lib.hid (C327.out.gr hbw332)
  clear C327
  have C334 := Lib.hid (C328.out.gr hbw332)
  clear C328
  have C335 := Lib.hid (C329.out.gr hbw332)
  clear C329
  have C336 := Lib.hid (C330.out.gr hbw332)
  clear C330
  have C337 := Lib.hid (D326.out.gr hbw332)
  clear D326
  have hbel338 := hbel331.trans (Below.mono hbw332 hbel331.size)
  clear hbel331
  clear hbw332
  have cq339 := C333.out.iv 255 (by rw [L_al.out]; decide)
  rw [G5.out] at cq339
  as_aux_lemma =>
  go_wp2_with (first | (refine stB rfl 23 (.tmp 46) (.tmp 190) rfl w332.heap.size rfl (iv tl) rfl 23 (iv zerI) (Blk.new w332 23 (iv zerI)) (i23 L_tl.out) (lenEq (show (iv zerI).length = 256 by rw [iv_length, zerI_length]) (show (iv tl).length = 256 by rw [iv_length, L_tl.out])) (iv_one _) ?_; generalize hW : World.setRow _ _ _ = w340; obtain ⟨hgw340, hnw340⟩ := newfacts hW; clear hW; have C343 := Lib.hid (C333.out.gr hgw340); clear C333; have C344 := Lib.hid (C334.out.gr hgw340); clear C334; have C345 := Lib.hid (C335.out.gr hgw340); clear C335; have C346 := Lib.hid (C336.out.gr hgw340); clear C336; have C347 := Lib.hid (C337.out.gr hgw340); clear C337; have hbel348 := hbel338.trans (Below.mono hgw340 hbel338.size); clear hbel338; have D342 := Lib.hid hnw340; have szw340 := hgw340.size; clear hnw340 hgw340 szw340; generalize w332.heap.size = G341 at *; have cq349 := C343.out.iv 255 (by rw [L_al.out]; decide); rw [G5.out] at cq349))
  as_aux_lemma =>
  refine wp_region_G (fun w_ => Blk w_ G341 23 (iv tl)) 9 (by kernel_rfl) D342.out.drew ?_
  refine wpAnyG_take (oi := _) (v := _) (fun _ _ hS_ hb_ => hS_.gr hb_) (i := 0) rfl (by kernel_rfl) (fun _ _ _ h => h) (pureG (by rfl) (by intro w; go_simp; first | done | with_reducible rfl)) ?_
  try simp only [Act.put, List.getElem_toArray, List.getElem_cons_succ, List.getElem_cons_zero, List.setIfInBounds_toArray, List.set_cons_zero, List.set_cons_succ]
  refine wpAnyG_take (oi := _) (v := _) (fun _ _ hS_ hb_ => hS_.gr hb_) (i := 1) rfl (by kernel_rfl) (fun _ _ _ h => h) (worldG (by rfl) (by intro w_ hS_; have q := (hS_).iv 0 (by rw [L_tl.out]; decide); go_simp; first | done | with_reducible rfl)) ?_
  try simp only [Act.put, List.getElem_toArray, List.getElem_cons_succ, List.getElem_cons_zero, List.setIfInBounds_toArray, List.set_cons_zero, List.set_cons_succ]
  refine wpAnyG_take (oi := _) (v := _) (fun _ _ hS_ hb_ => hS_.gr hb_) (i := 2) rfl (by kernel_rfl) (fun _ _ _ h => h) (pureG (by rfl) (by intro w; go_simp; first | done | with_reducible rfl)) ?_
  try simp only [Act.put, List.getElem_toArray, List.getElem_cons_succ, List.getElem_cons_zero, List.setIfInBounds_toArray, List.set_cons_zero, List.set_cons_succ]
  refine wpAnyG_take (oi := _) (v := _) (fun _ _ hS_ hb_ => hS_.gr hb_) (i := 3) rfl (by kernel_rfl) (fun _ _ _ h => h) (pureG (by rfl) (by intro w; have q := ewr; go_simp; first | done | with_reducible rfl)) ?_
  try simp only [Act.put, List.getElem_toArray, List.getElem_cons_succ, List.getElem_cons_zero, List.setIfInBounds_toArray, List.set_cons_zero, List.set_cons_succ]
  refine wpAnyG_take (oi := _) (v := _) (fun _ _ hS_ hb_ => hS_.gr hb_) (i := 4) rfl (by kernel_rfl) (fun _ _ _ h => h) (buildG (by rfl) _ _ rfl _ (builtS (-la)) (by simp [Act.eval])) ?_
  try simp only [Act.put, List.getElem_toArray, List.getElem_cons_succ, List.getElem_cons_zero, List.setIfInBounds_toArray, List.set_cons_zero, List.set_cons_succ]
  refine wpAnyG_take (oi := _) (v := _) (fun _ _ hS_ hb_ => hS_.gr hb_) (i := 5) rfl (by kernel_rfl) (fun _ _ _ h => h) (callG (by rfl) rfl Try.func14 (by kernel_rfl) (by kernel_rfl) (#[.agg (iv (sngI (-la))).toArray]) (by simp [Act.eval]) (fun W_ _ => R4.out W_)) ?_
  try simp only [Act.put, List.getElem_toArray, List.getElem_cons_succ, List.getElem_cons_zero, List.setIfInBounds_toArray, List.set_cons_zero, List.set_cons_succ]
  refine wpAnyG_take (oi := _) (v := _) (fun _ _ hS_ hb_ => hS_.gr hb_) (i := 6) rfl (by kernel_rfl) (fun _ _ _ h => h) (pureG (by rfl) (by intro w; have q := hidx w; go_simp; first | done | with_reducible rfl)) ?_
  try simp only [Act.put, List.getElem_toArray, List.getElem_cons_succ, List.getElem_cons_zero, List.setIfInBounds_toArray, List.set_cons_zero, List.set_cons_succ]
  refine wpAnyG_take (oi := _) (v := _) (fun _ _ hS_ hb_ => hS_.gr hb_) (i := 7) rfl (by kernel_rfl) (fun _ _ _ h => h) (pureG (by rfl) (by intro w; go_simp; first | done | with_reducible rfl)) ?_
  try simp only [Act.put, List.getElem_toArray, List.getElem_cons_succ, List.getElem_cons_zero, List.setIfInBounds_toArray, List.set_cons_zero, List.set_cons_succ]
  refine wpAnyG_take (oi := _) (v := _) (fun _ _ hS_ hb_ => hS_.gr hb_) (i := 8) rfl (by kernel_rfl) (fun _ _ _ h => h) (pureG (by rfl) (by intro w; go_simp; first | done | with_reducible rfl)) ?_
  try simp only [Act.put, List.getElem_toArray, List.getElem_cons_succ, List.getElem_cons_zero, List.setIfInBounds_toArray, List.set_cons_zero, List.set_cons_succ]
  refine wpAnyG_done (by kernel_rfl) ?_ _
  intro w350 hgw350
  try simp only [Act.put, List.getElem_toArray, List.getElem_cons_succ, List.getElem_cons_zero, List.setIfInBounds_toArray, List.set_cons_zero, List.set_cons_succ]
  have E351 := Lib.hid (C343.out.drew.gr hgw350)
  clear C343
  have E352 := Lib.hid (C344.out.drew.gr hgw350)
  clear C344
  have E353 := Lib.hid (C345.out.drew.gr hgw350)
  clear C345
  have E354 := Lib.hid (C346.out.drew.gr hgw350)
  clear C346
  have E355 := Lib.hid (C347.out.drew.gr hgw350)
  clear C347
  have E356 := Lib.hid (D342.out.drew.gr hgw350)
  clear D342
  have hbel357 := hbel348.drew.trans (Below.mono hgw350 hbel348.drew.size)
  clear hbel348
  clear hgw350
  as_aux_lemma =>
  go_wp2_with fail
  clear HA R1 R2 R3 R4 M1 M2 M3 M4 M5 M6 M7 M8 D1 D2 D3 N1 N2 N3 N4 T1 K1 K2 G5 S0 hidx ewr q1 q2 q3 q4 z23
  go_loopw [49, 50] (fun b c wx => ∃ i : Nat, 1 ≤ i ∧ i ≤ 256 ∧ b = .bool true ∧ c = .int .i64 i ∧ Blk wx G12 23 (iv al) ∧ Blk wx G271 23 (iv wl) ∧ Blk wx G284 23 (iv wl) ∧ Blk wx G297 23 (iv al) ∧ Blk wx G325 23 (iv al) ∧ Blk wx G341 23 (iv tl) ∧ Below w.heap.size w wx) (fun _ c _ => 256 - (intOf c).toNat)
  case atStart => exact ⟨1, by omega, by omega, rfl, rfl, E351.out, E352.out, E353.out, E354.out, E355.out, E356.out, hbel357⟩
  case round =>
    clear E351 E352 E353 E354 E355 E356
    obtain ⟨i, hi1, hi2, rfl, rfl, k0, k1, k2, k3, k4, k5, hbel⟩ := hrel
    have J0 := Lib.hid k0
    have J1 := Lib.hid k1
    have J2 := Lib.hid k2
    have J3 := Lib.hid k3
    have J4 := Lib.hid k4
    have J5 := Lib.hid k5
    clear k0 k1 k2 k3 k4 k5
    by_cases h5 : i < 256
    · have c1 := J5.out.iv i (by rw [L_tl.out]; exact h5)
      rw [SS.out i hi1 h5] at c1
      have c2 := J0.out.iv (i - 1) (by rw [L_al.out]; omega)
      generalize al.getD (i - 1) 0 = zv at *
      have e1 : IntKind.i64.wrap ((i : Int) - 1) = ((i - 1 : Nat) : Int) := by rw [IntWalk.i64_in _ (by omega)]; omega
      have i1 : (i : Int) < 256 := by omega
      have i2 : ((i - 1 : Nat) : Int) < 256 := by omega
      have i3 : ((i : Int) - 1).toNat = i - 1 := by omega
      obtain ⟨i0, hi0⟩ : ∃ i0, i - 1 = i0 := ⟨_, rfl⟩
      rw [hi0] at c2 e1 i2 i3
      clear hi0
      go_wp2_with fail
      go_quiet (fail)
      have Q0 := Lib.hid (J0.out.drewN nq)
      have Q1 := Lib.hid (J1.out.drewN nq)
      have Q2 := Lib.hid (J2.out.drewN nq)
      have Q3 := Lib.hid (J3.out.drewN nq)
      have Q4 := Lib.hid (J4.out.drewN nq)
      have Q5 := Lib.hid (J5.out.drewN nq)
      have QB := below_drewN hbel nq
      clear c1 c2 e1 i2 i3 J0 J1 J2 J3 J4 J5
      generalize wr.drewN nq = wq at *
      go_wp2_with fail
      go_roundw
      case rel => exact ⟨i + 1, by omega, by omega, rfl, by go_num, Q0.out, Q1.out, Q2.out, Q3.out, Q4.out, Q5.out, QB⟩
      case measure => simp [intOf]; omega
    · obtain rfl : i = 256 := by omega
      go_wp2_with (first | (refine ldwM 23 (.tmp 38) rfl G284 0 rfl (iv wl) _ (blk_all (J2.out)) Try.underlying23 rfl (i23 L_wl.out) 4 true rfl 221 rfl rfl ?_) | (refine ldwM 23 (.tmp 36) rfl G271 0 rfl (iv wl) _ (blk_all (J1.out)) Try.underlying23 rfl (i23 L_wl.out) 4 true rfl 221 rfl rfl ?_) | (refine ldwM 23 (.tmp 40) rfl G297 0 rfl (iv al) _ (blk_all (J3.out)) Try.underlying23 rfl (i23 L_al.out) 9 true rfl 226 rfl rfl ?_) | (refine ldwM 23 (.tmp 8) rfl G12 0 rfl (iv al) _ (blk_all (J0.out)) Try.underlying23 rfl (i23 L_al.out) 9 true rfl 226 rfl rfl ?_) | (refine ldwM 23 (.tmp 44) rfl G325 0 rfl (iv al) _ (blk_all (J4.out)) Try.underlying23 rfl (i23 L_al.out) 14 true rfl 231 rfl rfl ?_) | (refine ldwM 23 (.tmp 8) rfl G12 0 rfl (iv al) _ (blk_all (J0.out)) Try.underlying23 rfl (i23 L_al.out) 14 true rfl 231 rfl rfl ?_))
      go_ret
      exact ⟨rfl, hbel⟩
end Go.Proofs.Ytbhhpopckchibaa
