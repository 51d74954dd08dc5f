/- RingSums: the walk. Condition: the coefficients are 32-bit numbers. -/
import Derived.Test.YtbhhpopckchibaaAw
import Derived.Test.YtbhhpopckchibaaRg
import Derived.Test.YtbhhpopckchibaaRm
import Derived.Test.YtbhhpopckchibaaMu
import Derived.Test.YtbhhpopckchibaaNo
namespace Go.Proofs.Ytbhhpopckchibaa
open Go.RowKit
set_option linter.unusedVariables false
set_option linter.unusedSimpArgs false
theorem pln_two1 {a : List Int} (b : List Int) (h : pln a = false) : allP [a, b] = false := by simp [allP, h]
theorem pln_two2 (a : List Int) {b : List Int} (h : pln b = false) : allP [a, b] = false := by simp [allP, h]
theorem pln_one {a : List Int} (h : pln a = false) : allP [a] = false := by simp [allP, h]
theorem rd_PL (f : Nat → FQ) : PL (rdF (PL f)) = PL f := PL_sm (rdF_PL f)
set_option maxRecDepth 100000 in
set_option maxHeartbeats 6400000 in
theorem sums_A (f g : Nat → FQ) (w : World) : Calls Try.prog 3 #[.agg (iv (PL f)).toArray, .agg (iv (PL g)).toArray] w fun e w' => e = .returned (.bool true) ∧ Below w.heap.size w w' := by
  have HA := Lib.hid awake_any
  have H9 := Lib.hid (Add_t f g)
  have H10 := Lib.hid (Sub_t f g)
  have H11 := Lib.hid (Mul_t f g)
  have H12 := Lib.hid (Times_t f g)
  have H13 := Lib.hid (Norm_t f)
  have H14 := Lib.hid (Reduce_any (PL f) (IsP_PL f))
  have H16 := Lib.hid (dReduce_any (PL f) (IsP_PL f))
  have H17 := Lib.hid (dNorm_any f)
  have HPA := Lib.hid (dPlain_any (PL f) (PL_length f))
  have HPB := Lib.hid (dPlain_any (PL g) (PL_length g))
  rw [pln_PL] at HPA HPB
  have H18 := Lib.hid (dAdd_p f g)
  have H18b := Lib.hid (dAdd_m f g)
  have H19 := Lib.hid (dMul_any f g)
  have H20 := Lib.hid (dTimes_any f g)
  have L_a := Lib.hid (PL_length f)
  have L_b := Lib.hid (PL_length g)
  have L_rl := Lib.hid (PL_length (rdF (PL f)))
  have L_sl := Lib.hid (PL_length (fun i => f i + g i))
  have L_dl := Lib.hid (PL_length (fun i => f i - g i))
  have L_tl := Lib.hid (PL_length (fun i => f i * g i))
  have L_pl := Lib.hid (PL_length (mulF f g))
  generalize PL (rdF (PL f)) = rl at *
  generalize PL (fun i => f i + g i) = sl at *
  generalize PL (fun i => f i - g i) = dl at *
  generalize PL (fun i => f i * g i) = tl at *
  generalize PL (mulF f g) = pl at *
  generalize PL f = a at *
  generalize PL g = b at *
  generalize nrm f 256 = nn at *
  have z23 := zero23
  have B0_ := Lib.hid ((Blk.new w  23 (iv a)).alloc (.cells (iv b).toArray 23))
  have B1_ := Lib.hid (Blk.new2 w (.cells (iv a).toArray 23) 23 (iv b))
  have bel_ := (((Below.refl w.heap.size w).alloc (Nat.le_refl _) (.cells (iv a).toArray 23)).alloc (by simp) (.cells (iv b).toArray 23))
  go_enter Try.func3, Try.ntmps3
  go_wp2_with fail
  refine (HA.out _).mono ?_
  rintro e w1 ⟨rfl, hbw1⟩
  have C2 := Lib.hid (B0_.out.gr hbw1)
  clear B0_
  have C3 := Lib.hid (B1_.out.gr hbw1)
  clear B1_
  have hbel4 := bel_.trans (Below.mono hbw1 bel_.size)
  clear bel_
  clear hbw1
  go_wp2_with (first | (refine wpList_load_mid rfl 23 (.tmp 2) rfl w.heap.size 0 rfl (iv a) _ (blk_all (C2.out)) Try.underlying23 rfl (i23 L_a.out) ?_) | (refine wpList_load_mid rfl 23 (.tmp 3) rfl (w.heap.size + 1) 0 rfl (iv b) _ (blk_all (C3.out)) Try.underlying23 rfl (i23 L_b.out) ?_))
  refine (H9.out _).mono ?_
  rintro e w5 ⟨rfl, hbw5⟩
  have C6 := Lib.hid (C2.out.gr hbw5)
  clear C2
  have C7 := Lib.hid (C3.out.gr hbw5)
  clear C3
  have hbel8 := hbel4.trans (Below.mono hbw5 hbel4.size)
  clear hbel4
  clear hbw5
  go_wp2_with (first | (refine stB rfl 23 (.tmp 6) (.tmp 25) rfl w5.heap.size rfl (iv sl) rfl 23 (iv zerI) (Blk.new w5 23 (iv zerI)) (i23 L_sl.out) (lenEq (show (iv zerI).length = 256 by rw [iv_length, zerI_length]) (show (iv sl).length = 256 by rw [iv_length, L_sl.out])) (iv_one _) ?_; generalize hW : World.setRow _ _ _ = w9; obtain ⟨hgw9, hnw9⟩ := newfacts hW; clear hW; have C12 := Lib.hid (C6.out.gr hgw9); clear C6; have C13 := Lib.hid (C7.out.gr hgw9); clear C7; have hbel14 := hbel8.trans (Below.mono hgw9 hbel8.size); clear hbel8; have D11 := Lib.hid hnw9; have szw9 := hgw9.size; clear hnw9 hgw9 szw9; generalize w5.heap.size = G10 at *) | (refine wpList_load_mid rfl 23 (.tmp 2) rfl w.heap.size 0 rfl (iv a) _ (blk_all (C12.out)) Try.underlying23 rfl (i23 L_a.out) ?_) | (refine wpList_load_mid rfl 23 (.tmp 3) rfl (w.heap.size + 1) 0 rfl (iv b) _ (blk_all (C13.out)) Try.underlying23 rfl (i23 L_b.out) ?_))
  refine (H10.out _).mono ?_
  rintro e w15 ⟨rfl, hbw15⟩
  have C16 := Lib.hid (C12.out.gr hbw15)
  clear C12
  have C17 := Lib.hid (C13.out.gr hbw15)
  clear C13
  have C18 := Lib.hid (D11.out.gr hbw15)
  clear D11
  have hbel19 := hbel14.trans (Below.mono hbw15 hbel14.size)
  clear hbel14
  clear hbw15
  go_wp2_with (first | (refine stB rfl 23 (.tmp 8) (.tmp 31) rfl w15.heap.size rfl (iv dl) rfl 23 (iv zerI) (Blk.new w15 23 (iv zerI)) (i23 L_dl.out) (lenEq (show (iv zerI).length = 256 by rw [iv_length, zerI_length]) (show (iv dl).length = 256 by rw [iv_length, L_dl.out])) (iv_one _) ?_; generalize hW : World.setRow _ _ _ = w20; obtain ⟨hgw20, hnw20⟩ := newfacts hW; clear hW; have C23 := Lib.hid (C16.out.gr hgw20); clear C16; have C24 := Lib.hid (C17.out.gr hgw20); clear C17; have C25 := Lib.hid (C18.out.gr hgw20); clear C18; have hbel26 := hbel19.trans (Below.mono hgw20 hbel19.size); clear hbel19; have D22 := Lib.hid hnw20; have szw20 := hgw20.size; clear hnw20 hgw20 szw20; generalize w15.heap.size = G21 at *) | (refine wpList_load_mid rfl 23 (.tmp 2) rfl w.heap.size 0 rfl (iv a) _ (blk_all (C23.out)) Try.underlying23 rfl (i23 L_a.out) ?_) | (refine wpList_load_mid rfl 23 (.tmp 3) rfl (w.heap.size + 1) 0 rfl (iv b) _ (blk_all (C24.out)) Try.underlying23 rfl (i23 L_b.out) ?_))
  refine (H11.out _).mono ?_
  rintro e w27 ⟨rfl, hbw27⟩
  have C28 := Lib.hid (C23.out.gr hbw27)
  clear C23
  have C29 := Lib.hid (C24.out.gr hbw27)
  clear C24
  have C30 := Lib.hid (C25.out.gr hbw27)
  clear C25
  have C31 := Lib.hid (D22.out.gr hbw27)
  clear D22
  have hbel32 := hbel26.trans (Below.mono hbw27 hbel26.size)
  clear hbel26
  clear hbw27
  go_wp2_with (first | (refine stB rfl 23 (.tmp 10) (.tmp 37) rfl w27.heap.size rfl (iv pl) rfl 23 (iv zerI) (Blk.new w27 23 (iv zerI)) (i23 L_pl.out) (lenEq (show (iv zerI).length = 256 by rw [iv_length, zerI_length]) (show (iv pl).length = 256 by rw [iv_length, L_pl.out])) (iv_one _) ?_; generalize hW : World.setRow _ _ _ = w33; obtain ⟨hgw33, hnw33⟩ := newfacts hW; clear hW; have C36 := Lib.hid (C28.out.gr hgw33); clear C28; have C37 := Lib.hid (C29.out.gr hgw33); clear C29; have C38 := Lib.hid (C30.out.gr hgw33); clear C30; have C39 := Lib.hid (C31.out.gr hgw33); clear C31; have hbel40 := hbel32.trans (Below.mono hgw33 hbel32.size); clear hbel32; have D35 := Lib.hid hnw33; have szw33 := hgw33.size; clear hnw33 hgw33 szw33; generalize w27.heap.size = G34 at *) | (refine wpList_load_mid rfl 23 (.tmp 2) rfl w.heap.size 0 rfl (iv a) _ (blk_all (C36.out)) Try.underlying23 rfl (i23 L_a.out) ?_) | (refine wpList_load_mid rfl 23 (.tmp 3) rfl (w.heap.size + 1) 0 rfl (iv b) _ (blk_all (C37.out)) Try.underlying23 rfl (i23 L_b.out) ?_))
  refine (H12.out _).mono ?_
  rintro e w41 ⟨rfl, hbw41⟩
  have C42 := Lib.hid (C36.out.gr hbw41)
  clear C36
  have C43 := Lib.hid (C37.out.gr hbw41)
  clear C37
  have C44 := Lib.hid (C38.out.gr hbw41)
  clear C38
  have C45 := Lib.hid (C39.out.gr hbw41)
  clear C39
  have C46 := Lib.hid (D35.out.gr hbw41)
  clear D35
  have hbel47 := hbel40.trans (Below.mono hbw41 hbel40.size)
  clear hbel40
  clear hbw41
  go_wp2_with (first | (refine stB rfl 23 (.tmp 12) (.tmp 43) rfl w41.heap.size rfl (iv tl) rfl 23 (iv zerI) (Blk.new w41 23 (iv zerI)) (i23 L_tl.out) (lenEq (show (iv zerI).length = 256 by rw [iv_length, zerI_length]) (show (iv tl).length = 256 by rw [iv_length, L_tl.out])) (iv_one _) ?_; generalize hW : World.setRow _ _ _ = w48; obtain ⟨hgw48, hnw48⟩ := newfacts hW; clear hW; have C51 := Lib.hid (C42.out.gr hgw48); clear C42; have C52 := Lib.hid (C43.out.gr hgw48); clear C43; have C53 := Lib.hid (C44.out.gr hgw48); clear C44; have C54 := Lib.hid (C45.out.gr hgw48); clear C45; have C55 := Lib.hid (C46.out.gr hgw48); clear C46; have hbel56 := hbel47.trans (Below.mono hgw48 hbel47.size); clear hbel47; have D50 := Lib.hid hnw48; have szw48 := hgw48.size; clear hnw48 hgw48 szw48; generalize w41.heap.size = G49 at *) | (refine wpList_load_mid rfl 23 (.tmp 2) rfl w.heap.size 0 rfl (iv a) _ (blk_all (C51.out)) Try.underlying23 rfl (i23 L_a.out) ?_))
  refine (H13.out _).mono ?_
  rintro e w57 ⟨rfl, hbw57⟩
  have C58 := Lib.hid (C51.out.gr hbw57)
  clear C51
  have C59 := Lib.hid (C52.out.gr hbw57)
  clear C52
  have C60 := Lib.hid (C53.out.gr hbw57)
  clear C53
  have C61 := Lib.hid (C54.out.gr hbw57)
  clear C54
  have C62 := Lib.hid (C55.out.gr hbw57)
  clear C55
  have C63 := Lib.hid (D50.out.gr hbw57)
  clear D50
  have hbel64 := hbel56.trans (Below.mono hbw57 hbel56.size)
  clear hbel56
  clear hbw57
  go_wp2_with (first | (refine wpList_load_mid rfl 23 (.tmp 2) rfl w.heap.size 0 rfl (iv a) _ (blk_all (C58.out)) Try.underlying23 rfl (i23 L_a.out) ?_))
  refine (H14.out _).mono ?_
  rintro e w65 ⟨rfl, hbw65⟩
  have C66 := Lib.hid (C58.out.gr hbw65)
  clear C58
  have C67 := Lib.hid (C59.out.gr hbw65)
  clear C59
  have C68 := Lib.hid (C60.out.gr hbw65)
  clear C60
  have C69 := Lib.hid (C61.out.gr hbw65)
  clear C61
  have C70 := Lib.hid (C62.out.gr hbw65)
  clear C62
  have C71 := Lib.hid (C63.out.gr hbw65)
  clear C63
  have hbel72 := hbel64.trans (Below.mono hbw65 hbel64.size)
  clear hbel64
  clear hbw65
  go_wp2_with (first | (refine stB rfl 23 (.tmp 16) (.tmp 51) rfl w65.heap.size rfl (iv rl) rfl 23 (iv zerI) (Blk.new w65 23 (iv zerI)) (i23 L_rl.out) (lenEq (show (iv zerI).length = 256 by rw [iv_length, zerI_length]) (show (iv rl).length = 256 by rw [iv_length, L_rl.out])) (iv_one _) ?_; generalize hW : World.setRow _ _ _ = w73; obtain ⟨hgw73, hnw73⟩ := newfacts hW; clear hW; have C76 := Lib.hid (C66.out.gr hgw73); clear C66; have C77 := Lib.hid (C67.out.gr hgw73); clear C67; have C78 := Lib.hid (C68.out.gr hgw73); clear C68; have C79 := Lib.hid (C69.out.gr hgw73); clear C69; have C80 := Lib.hid (C70.out.gr hgw73); clear C70; have C81 := Lib.hid (C71.out.gr hgw73); clear C71; have hbel82 := hbel72.trans (Below.mono hgw73 hbel72.size); clear hbel72; have D75 := Lib.hid hnw73; have szw73 := hgw73.size; clear hnw73 hgw73 szw73; generalize w65.heap.size = G74 at *) | (refine wpList_load_mid rfl 23 (.tmp 2) rfl w.heap.size 0 rfl (iv a) _ (blk_all (C76.out)) Try.underlying23 rfl (i23 L_a.out) ?_))
  refine (HPA.out _).mono ?_
  rintro e w83 ⟨rfl, hbw83⟩
  have C84 := Lib.hid (C76.out.gr hbw83)
  clear C76
  have C85 := Lib.hid (C77.out.gr hbw83)
  clear C77
  have C86 := Lib.hid (C78.out.gr hbw83)
  clear C78
  have C87 := Lib.hid (C79.out.gr hbw83)
  clear C79
  have C88 := Lib.hid (C80.out.gr hbw83)
  clear C80
  have C89 := Lib.hid (C81.out.gr hbw83)
  clear C81
  have C90 := Lib.hid (D75.out.gr hbw83)
  clear D75
  have hbel91 := hbel82.trans (Below.mono hbw83 hbel82.size)
  clear hbel82
  clear hbw83
  go_wp2_with (first | (refine wpList_load_mid rfl 23 (.tmp 3) rfl (w.heap.size + 1) 0 rfl (iv b) _ (blk_all (C85.out)) Try.underlying23 rfl (i23 L_b.out) ?_))
  refine (HPB.out _).mono ?_
  rintro e w92 ⟨rfl, hbw92⟩
  have C93 := Lib.hid (C84.out.gr hbw92)
  clear C84
  have C94 := Lib.hid (C85.out.gr hbw92)
  clear C85
  have C95 := Lib.hid (C86.out.gr hbw92)
  clear C86
  have C96 := Lib.hid (C87.out.gr hbw92)
  clear C87
  have C97 := Lib.hid (C88.out.gr hbw92)
  clear C88
  have C98 := Lib.hid (C89.out.gr hbw92)
  clear C89
  have C99 := Lib.hid (C90.out.gr hbw92)
  clear C90
  have hbel100 := hbel91.trans (Below.mono hbw92 hbel91.size)
  clear hbel91
  clear hbw92
  go_wp2_with fail
  as_aux_lemma =>
  refine wp_region_G (fun w_ => Blk w_ G74 23 (iv rl) ∧ Blk w_ w.heap.size 23 (iv a)) 33 (by kernel_rfl) ⟨C99.out.drew, C93.out.drew⟩ ?_
  refine wpAnyG_take (oi := _) (v := _) (fun _ _ hS_ hb_ => ⟨hS_.1.gr hb_, hS_.2.gr hb_⟩) (i := 0) rfl (by kernel_rfl) (fun _ _ _ h => h) (pureG (by rfl) (by intro w; go_simp; first | done | with_reducible rfl)) ?_
  try simp only [Act.put, List.getElem_toArray, List.getElem_cons_succ, List.getElem_cons_zero, List.setIfInBounds_toArray, List.set_cons_zero, List.set_cons_succ]
  refine wpAnyG_take (oi := _) (v := _) (fun _ _ hS_ hb_ => ⟨hS_.1.gr hb_, hS_.2.gr hb_⟩) (i := 1) rfl (by kernel_rfl) (fun _ _ _ h => h) (pureG (by rfl) (by intro w; go_simp; first | done | with_reducible rfl)) ?_
  try simp only [Act.put, List.getElem_toArray, List.getElem_cons_succ, List.getElem_cons_zero, List.setIfInBounds_toArray, List.set_cons_zero, List.set_cons_succ]
  refine wpAnyG_take (oi := _) (v := _) (fun _ _ hS_ hb_ => ⟨hS_.1.gr hb_, hS_.2.gr hb_⟩) (i := 2) rfl (by kernel_rfl) (fun _ _ _ h => h) (pureG (by rfl) (by intro w; go_simp; first | done | with_reducible rfl)) ?_
  try simp only [Act.put, List.getElem_toArray, List.getElem_cons_succ, List.getElem_cons_zero, List.setIfInBounds_toArray, List.set_cons_zero, List.set_cons_succ]
  refine wpAnyG_take (oi := _) (v := _) (fun _ _ hS_ hb_ => ⟨hS_.1.gr hb_, hS_.2.gr hb_⟩) (i := 3) rfl (by kernel_rfl) (fun _ _ _ h => h) (loadG (by rfl) _ _ rfl _ _ rfl (iv rl) _ (fun _ hS_ => blk_all (hS_.1)) Try.underlying23 rfl (i23 L_rl.out)) ?_
  try simp only [Act.put, List.getElem_toArray, List.getElem_cons_succ, List.getElem_cons_zero, List.setIfInBounds_toArray, List.set_cons_zero, List.set_cons_succ]
  refine wpAnyG_take (oi := _) (v := _) (fun _ _ hS_ hb_ => ⟨hS_.1.gr hb_, hS_.2.gr hb_⟩) (i := 4) rfl (by kernel_rfl) (fun _ _ _ h => h) (loadG (by rfl) _ _ rfl _ _ rfl (iv a) _ (fun _ hS_ => blk_all (hS_.2)) Try.underlying23 rfl (i23 L_a.out)) ?_
  try simp only [Act.put, List.getElem_toArray, List.getElem_cons_succ, List.getElem_cons_zero, List.setIfInBounds_toArray, List.set_cons_zero, List.set_cons_succ]
  refine wpAnyG_take (oi := _) (v := _) (fun _ _ hS_ hb_ => ⟨hS_.1.gr hb_, hS_.2.gr hb_⟩) (i := 5) rfl (by kernel_rfl) (fun _ _ _ h => h) (callG (by rfl) rfl Try.func16 (by kernel_rfl) (by kernel_rfl) (#[.agg (iv a).toArray]) (by simp [Act.eval]) (fun W_ _ => H16.out W_)) ?_
  try simp only [Act.put, List.getElem_toArray, List.getElem_cons_succ, List.getElem_cons_zero, List.setIfInBounds_toArray, List.set_cons_zero, List.set_cons_succ]
  refine wpAnyG_take (oi := _) (v := _) (fun _ _ hS_ hb_ => ⟨hS_.1.gr hb_, hS_.2.gr hb_⟩) (i := 6) rfl (by kernel_rfl) (fun _ _ _ h => h) (pureG (by rfl) (by intro w; have q := eqin23 rl rl L_rl.out L_rl.out w; go_simp; first | done | with_reducible rfl)) ?_
  try simp only [Act.put, List.getElem_toArray, List.getElem_cons_succ, List.getElem_cons_zero, List.setIfInBounds_toArray, List.set_cons_zero, List.set_cons_succ]
  refine wpAnyG_take (oi := _) (v := _) (fun _ _ hS_ hb_ => ⟨hS_.1.gr hb_, hS_.2.gr hb_⟩) (i := 7) rfl (by kernel_rfl) (fun _ _ _ h => h) (pureG (by rfl) (by intro w; go_simp; first | done | with_reducible rfl)) ?_
  try simp only [Act.put, List.getElem_toArray, List.getElem_cons_succ, List.getElem_cons_zero, List.setIfInBounds_toArray, List.set_cons_zero, List.set_cons_succ]
  refine wpAnyG_take (oi := _) (v := _) (fun _ _ hS_ hb_ => ⟨hS_.1.gr hb_, hS_.2.gr hb_⟩) (i := 8) rfl (by kernel_rfl) (fun _ _ _ h => h) (pureG (by rfl) (by intro w; go_simp; first | done | with_reducible rfl)) ?_
  try simp only [Act.put, List.getElem_toArray, List.getElem_cons_succ, List.getElem_cons_zero, List.setIfInBounds_toArray, List.set_cons_zero, List.set_cons_succ]
  refine wpAnyG_take (oi := _) (v := _) (fun _ _ hS_ hb_ => ⟨hS_.1.gr hb_, hS_.2.gr hb_⟩) (i := 9) rfl (by kernel_rfl) (fun _ _ _ h => h) (pureG (by rfl) (by intro w; go_simp; first | done | with_reducible rfl)) ?_
  try simp only [Act.put, List.getElem_toArray, List.getElem_cons_succ, List.getElem_cons_zero, List.setIfInBounds_toArray, List.set_cons_zero, List.set_cons_succ]
  refine wpAnyG_take (oi := _) (v := _) (fun _ _ hS_ hb_ => ⟨hS_.1.gr hb_, hS_.2.gr hb_⟩) (i := 10) rfl (by kernel_rfl) (fun _ _ _ h => h) (pureG (by rfl) (by intro w; go_simp; first | done | with_reducible rfl)) ?_
  try simp only [Act.put, List.getElem_toArray, List.getElem_cons_succ, List.getElem_cons_zero, List.setIfInBounds_toArray, List.set_cons_zero, List.set_cons_succ]
  refine wpAnyG_take (oi := _) (v := _) (fun _ _ hS_ hb_ => ⟨hS_.1.gr hb_, hS_.2.gr hb_⟩) (i := 11) rfl (by kernel_rfl) (fun _ _ _ h => h) (pureG (by rfl) (by intro w; go_simp; first | done | with_reducible rfl)) ?_
  try simp only [Act.put, List.getElem_toArray, List.getElem_cons_succ, List.getElem_cons_zero, List.setIfInBounds_toArray, List.set_cons_zero, List.set_cons_succ]
  refine wpAnyG_take (oi := _) (v := _) (fun _ _ hS_ hb_ => ⟨hS_.1.gr hb_, hS_.2.gr hb_⟩) (i := 12) rfl (by kernel_rfl) (fun _ _ _ h => h) (pureG (by rfl) (by intro w; go_simp; first | done | with_reducible rfl)) ?_
  try simp only [Act.put, List.getElem_toArray, List.getElem_cons_succ, List.getElem_cons_zero, List.setIfInBounds_toArray, List.set_cons_zero, List.set_cons_succ]
  refine wpAnyG_take (oi := _) (v := _) (fun _ _ hS_ hb_ => ⟨hS_.1.gr hb_, hS_.2.gr hb_⟩) (i := 13) rfl (by kernel_rfl) (fun _ _ _ h => h) (pureG (by rfl) (by intro w; go_simp; first | done | with_reducible rfl)) ?_
  try simp only [Act.put, List.getElem_toArray, List.getElem_cons_succ, List.getElem_cons_zero, List.setIfInBounds_toArray, List.set_cons_zero, List.set_cons_succ]
  refine wpAnyG_take (oi := _) (v := _) (fun _ _ hS_ hb_ => ⟨hS_.1.gr hb_, hS_.2.gr hb_⟩) (i := 14) rfl (by kernel_rfl) (fun _ _ _ h => h) (pureG (by rfl) (by intro w; go_simp; first | done | with_reducible rfl)) ?_
  try simp only [Act.put, List.getElem_toArray, List.getElem_cons_succ, List.getElem_cons_zero, List.setIfInBounds_toArray, List.set_cons_zero, List.set_cons_succ]
  refine wpAnyG_take (oi := _) (v := _) (fun _ _ hS_ hb_ => ⟨hS_.1.gr hb_, hS_.2.gr hb_⟩) (i := 15) rfl (by kernel_rfl) (fun _ _ _ h => h) (loadG (by rfl) _ _ rfl _ _ rfl (iv a) _ (fun _ hS_ => blk_all (hS_.2)) Try.underlying23 rfl (i23 L_a.out)) ?_
  try simp only [Act.put, List.getElem_toArray, List.getElem_cons_succ, List.getElem_cons_zero, List.setIfInBounds_toArray, List.set_cons_zero, List.set_cons_succ]
  refine wpAnyG_take (oi := _) (v := _) (fun _ _ hS_ hb_ => ⟨hS_.1.gr hb_, hS_.2.gr hb_⟩) (i := 16) rfl (by kernel_rfl) (fun _ _ _ h => h) (callG (by rfl) rfl Try.func17 (by kernel_rfl) (by kernel_rfl) (#[.agg (iv a).toArray]) (by simp [Act.eval]) (fun W_ _ => H17.out W_)) ?_
  try simp only [Act.put, List.getElem_toArray, List.getElem_cons_succ, List.getElem_cons_zero, List.setIfInBounds_toArray, List.set_cons_zero, List.set_cons_succ]
  refine wpAnyG_take (oi := _) (v := _) (fun _ _ hS_ hb_ => ⟨hS_.1.gr hb_, hS_.2.gr hb_⟩) (i := 17) rfl (by kernel_rfl) (fun _ _ _ h => h) (pureG (by rfl) (by intro w; go_simp; first | done | with_reducible rfl)) ?_
  try simp only [Act.put, List.getElem_toArray, List.getElem_cons_succ, List.getElem_cons_zero, List.setIfInBounds_toArray, List.set_cons_zero, List.set_cons_succ]
  refine wpAnyG_take (oi := _) (v := _) (fun _ _ hS_ hb_ => ⟨hS_.1.gr hb_, hS_.2.gr hb_⟩) (i := 18) rfl (by kernel_rfl) (fun _ _ _ h => h) (pureG (by rfl) (by intro w; go_simp; first | done | with_reducible rfl)) ?_
  try simp only [Act.put, List.getElem_toArray, List.getElem_cons_succ, List.getElem_cons_zero, List.setIfInBounds_toArray, List.set_cons_zero, List.set_cons_succ]
  refine wpAnyG_take (oi := _) (v := _) (fun _ _ hS_ hb_ => ⟨hS_.1.gr hb_, hS_.2.gr hb_⟩) (i := 19) rfl (by kernel_rfl) (fun _ _ _ h => h) (pureG (by rfl) (by intro w; go_simp; first | done | with_reducible rfl)) ?_
  try simp only [Act.put, List.getElem_toArray, List.getElem_cons_succ, List.getElem_cons_zero, List.setIfInBounds_toArray, List.set_cons_zero, List.set_cons_succ]
  refine wpAnyG_take (oi := _) (v := _) (fun _ _ hS_ hb_ => ⟨hS_.1.gr hb_, hS_.2.gr hb_⟩) (i := 20) rfl (by kernel_rfl) (fun _ _ _ h => h) (pureG (by rfl) (by intro w; go_simp; first | done | with_reducible rfl)) ?_
  try simp only [Act.put, List.getElem_toArray, List.getElem_cons_succ, List.getElem_cons_zero, List.setIfInBounds_toArray, List.set_cons_zero, List.set_cons_succ]
  refine wpAnyG_take (oi := _) (v := _) (fun _ _ hS_ hb_ => ⟨hS_.1.gr hb_, hS_.2.gr hb_⟩) (i := 21) rfl (by kernel_rfl) (fun _ _ _ h => h) (pureG (by rfl) (by intro w; go_simp; first | done | with_reducible rfl)) ?_
  try simp only [Act.put, List.getElem_toArray, List.getElem_cons_succ, List.getElem_cons_zero, List.setIfInBounds_toArray, List.set_cons_zero, List.set_cons_succ]
  refine wpAnyG_take (oi := _) (v := _) (fun _ _ hS_ hb_ => ⟨hS_.1.gr hb_, hS_.2.gr hb_⟩) (i := 22) rfl (by kernel_rfl) (fun _ _ _ h => h) (pureG (by rfl) (by intro w; go_simp; first | done | with_reducible rfl)) ?_
  try simp only [Act.put, List.getElem_toArray, List.getElem_cons_succ, List.getElem_cons_zero, List.setIfInBounds_toArray, List.set_cons_zero, List.set_cons_succ]
  refine wpAnyG_take (oi := _) (v := _) (fun _ _ hS_ hb_ => ⟨hS_.1.gr hb_, hS_.2.gr hb_⟩) (i := 23) rfl (by kernel_rfl) (fun _ _ _ h => h) (pureG (by rfl) (by intro w; go_simp; first | done | with_reducible rfl)) ?_
  try simp only [Act.put, List.getElem_toArray, List.getElem_cons_succ, List.getElem_cons_zero, List.setIfInBounds_toArray, List.set_cons_zero, List.set_cons_succ]
  refine wpAnyG_take (oi := _) (v := _) (fun _ _ hS_ hb_ => ⟨hS_.1.gr hb_, hS_.2.gr hb_⟩) (i := 24) rfl (by kernel_rfl) (fun _ _ _ h => h) (pureG (by rfl) (by intro w; go_simp; first | done | with_reducible rfl)) ?_
  try simp only [Act.put, List.getElem_toArray, List.getElem_cons_succ, List.getElem_cons_zero, List.setIfInBounds_toArray, List.set_cons_zero, List.set_cons_succ]
  refine wpAnyG_take (oi := _) (v := _) (fun _ _ hS_ hb_ => ⟨hS_.1.gr hb_, hS_.2.gr hb_⟩) (i := 25) rfl (by kernel_rfl) (fun _ _ _ h => h) (skipG (by rfl)) ?_
  try simp only [Act.put, List.getElem_toArray, List.getElem_cons_succ, List.getElem_cons_zero, List.setIfInBounds_toArray, List.set_cons_zero, List.set_cons_succ]
  refine wpAnyG_take (oi := _) (v := _) (fun _ _ hS_ hb_ => ⟨hS_.1.gr hb_, hS_.2.gr hb_⟩) (i := 26) rfl (by kernel_rfl) (fun _ _ _ h => h) (skipG (by rfl)) ?_
  try simp only [Act.put, List.getElem_toArray, List.getElem_cons_succ, List.getElem_cons_zero, List.setIfInBounds_toArray, List.set_cons_zero, List.set_cons_succ]
  refine wpAnyG_take (oi := _) (v := _) (fun _ _ hS_ hb_ => ⟨hS_.1.gr hb_, hS_.2.gr hb_⟩) (i := 27) rfl (by kernel_rfl) (fun _ _ _ h => h) (skipG (by rfl)) ?_
  try simp only [Act.put, List.getElem_toArray, List.getElem_cons_succ, List.getElem_cons_zero, List.setIfInBounds_toArray, List.set_cons_zero, List.set_cons_succ]
  refine wpAnyG_take (oi := _) (v := _) (fun _ _ hS_ hb_ => ⟨hS_.1.gr hb_, hS_.2.gr hb_⟩) (i := 28) rfl (by kernel_rfl) (fun _ _ _ h => h) (skipG (by rfl)) ?_
  try simp only [Act.put, List.getElem_toArray, List.getElem_cons_succ, List.getElem_cons_zero, List.setIfInBounds_toArray, List.set_cons_zero, List.set_cons_succ]
  refine wpAnyG_take (oi := _) (v := _) (fun _ _ hS_ hb_ => ⟨hS_.1.gr hb_, hS_.2.gr hb_⟩) (i := 29) rfl (by kernel_rfl) (fun _ _ _ h => h) (skipG (by rfl)) ?_
  try simp only [Act.put, List.getElem_toArray, List.getElem_cons_succ, List.getElem_cons_zero, List.setIfInBounds_toArray, List.set_cons_zero, List.set_cons_succ]
  refine wpAnyG_take (oi := _) (v := _) (fun _ _ hS_ hb_ => ⟨hS_.1.gr hb_, hS_.2.gr hb_⟩) (i := 30) rfl (by kernel_rfl) (fun _ _ _ h => h) (skipG (by rfl)) ?_
  try simp only [Act.put, List.getElem_toArray, List.getElem_cons_succ, List.getElem_cons_zero, List.setIfInBounds_toArray, List.set_cons_zero, List.set_cons_succ]
  refine wpAnyG_take (oi := _) (v := _) (fun _ _ hS_ hb_ => ⟨hS_.1.gr hb_, hS_.2.gr hb_⟩) (i := 31) rfl (by kernel_rfl) (fun _ _ _ h => h) (pureG (by rfl) (by intro w; go_simp; first | done | with_reducible rfl)) ?_
  try simp only [Act.put, List.getElem_toArray, List.getElem_cons_succ, List.getElem_cons_zero, List.setIfInBounds_toArray, List.set_cons_zero, List.set_cons_succ]
  refine wpAnyG_take (oi := _) (v := _) (fun _ _ hS_ hb_ => ⟨hS_.1.gr hb_, hS_.2.gr hb_⟩) (i := 32) rfl (by kernel_rfl) (fun _ _ _ h => h) (pureG (by rfl) (by intro w; go_simp; first | done | with_reducible rfl)) ?_
  try simp only [Act.put, List.getElem_toArray, List.getElem_cons_succ, List.getElem_cons_zero, List.setIfInBounds_toArray, List.set_cons_zero, List.set_cons_succ]
  refine wpAnyG_done (by kernel_rfl) ?_ _
  intro w101 hgw101
  try simp only [Act.put, List.getElem_toArray, List.getElem_cons_succ, List.getElem_cons_zero, List.setIfInBounds_toArray, List.set_cons_zero, List.set_cons_succ]
  have E102 := Lib.hid (C93.out.drew.gr hgw101)
  clear C93
  have E103 := Lib.hid (C94.out.drew.gr hgw101)
  clear C94
  have E104 := Lib.hid (C95.out.drew.gr hgw101)
  clear C95
  have E105 := Lib.hid (C96.out.drew.gr hgw101)
  clear C96
  have E106 := Lib.hid (C97.out.drew.gr hgw101)
  clear C97
  have E107 := Lib.hid (C98.out.drew.gr hgw101)
  clear C98
  have E108 := Lib.hid (C99.out.drew.gr hgw101)
  clear C99
  have hbel109 := hbel100.drew.trans (Below.mono hgw101 hbel100.drew.size)
  clear hbel100
  clear hgw101
  as_aux_lemma =>
  go_wp2_with fail
  as_aux_lemma =>
  refine wp_region_G (fun w_ => Blk w_ G10 23 (iv sl) ∧ Blk w_ w.heap.size 23 (iv a) ∧ Blk w_ (w.heap.size + 1) 23 (iv b) ∧ Blk w_ G21 23 (iv dl) ∧ Blk w_ G34 23 (iv pl) ∧ Blk w_ G49 23 (iv tl)) 46 (by kernel_rfl) ⟨E104.out.drew, E102.out.drew, E103.out.drew, E105.out.drew, E106.out.drew, E107.out.drew⟩ ?_
  refine wpAnyG_take (oi := _) (v := _) (fun _ _ hS_ hb_ => ⟨hS_.1.gr hb_, hS_.2.1.gr hb_, hS_.2.2.1.gr hb_, hS_.2.2.2.1.gr hb_, hS_.2.2.2.2.1.gr hb_, hS_.2.2.2.2.2.gr hb_⟩) (i := 0) rfl (by kernel_rfl) (fun _ _ _ h => h) (pureG (by rfl) (by intro w; go_simp; first | done | with_reducible rfl)) ?_
  try simp only [Act.put, List.getElem_toArray, List.getElem_cons_succ, List.getElem_cons_zero, List.setIfInBounds_toArray, List.set_cons_zero, List.set_cons_succ]
  refine wpAnyG_take (oi := _) (v := _) (fun _ _ hS_ hb_ => ⟨hS_.1.gr hb_, hS_.2.1.gr hb_, hS_.2.2.1.gr hb_, hS_.2.2.2.1.gr hb_, hS_.2.2.2.2.1.gr hb_, hS_.2.2.2.2.2.gr hb_⟩) (i := 1) rfl (by kernel_rfl) (fun _ _ _ h => h) (pureG (by rfl) (by intro w; go_simp; first | done | with_reducible rfl)) ?_
  try simp only [Act.put, List.getElem_toArray, List.getElem_cons_succ, List.getElem_cons_zero, List.setIfInBounds_toArray, List.set_cons_zero, List.set_cons_succ]
  refine wpAnyG_take (oi := _) (v := _) (fun _ _ hS_ hb_ => ⟨hS_.1.gr hb_, hS_.2.1.gr hb_, hS_.2.2.1.gr hb_, hS_.2.2.2.1.gr hb_, hS_.2.2.2.2.1.gr hb_, hS_.2.2.2.2.2.gr hb_⟩) (i := 2) rfl (by kernel_rfl) (fun _ _ _ h => h) (pureG (by rfl) (by intro w; go_simp; first | done | with_reducible rfl)) ?_
  try simp only [Act.put, List.getElem_toArray, List.getElem_cons_succ, List.getElem_cons_zero, List.setIfInBounds_toArray, List.set_cons_zero, List.set_cons_succ]
  refine wpAnyG_take (oi := _) (v := _) (fun _ _ hS_ hb_ => ⟨hS_.1.gr hb_, hS_.2.1.gr hb_, hS_.2.2.1.gr hb_, hS_.2.2.2.1.gr hb_, hS_.2.2.2.2.1.gr hb_, hS_.2.2.2.2.2.gr hb_⟩) (i := 3) rfl (by kernel_rfl) (fun _ _ _ h => h) (pureG (by rfl) (by intro w; go_simp; first | done | with_reducible rfl)) ?_
  try simp only [Act.put, List.getElem_toArray, List.getElem_cons_succ, List.getElem_cons_zero, List.setIfInBounds_toArray, List.set_cons_zero, List.set_cons_succ]
  refine wpAnyG_take (oi := _) (v := _) (fun _ _ hS_ hb_ => ⟨hS_.1.gr hb_, hS_.2.1.gr hb_, hS_.2.2.1.gr hb_, hS_.2.2.2.1.gr hb_, hS_.2.2.2.2.1.gr hb_, hS_.2.2.2.2.2.gr hb_⟩) (i := 4) rfl (by kernel_rfl) (fun _ _ _ h => h) (pureG (by rfl) (by intro w; go_simp; first | done | with_reducible rfl)) ?_
  try simp only [Act.put, List.getElem_toArray, List.getElem_cons_succ, List.getElem_cons_zero, List.setIfInBounds_toArray, List.set_cons_zero, List.set_cons_succ]
  refine wpAnyG_take (oi := _) (v := _) (fun _ _ hS_ hb_ => ⟨hS_.1.gr hb_, hS_.2.1.gr hb_, hS_.2.2.1.gr hb_, hS_.2.2.2.1.gr hb_, hS_.2.2.2.2.1.gr hb_, hS_.2.2.2.2.2.gr hb_⟩) (i := 5) rfl (by kernel_rfl) (fun _ _ _ h => h) (pureG (by rfl) (by intro w; go_simp; first | done | with_reducible rfl)) ?_
  try simp only [Act.put, List.getElem_toArray, List.getElem_cons_succ, List.getElem_cons_zero, List.setIfInBounds_toArray, List.set_cons_zero, List.set_cons_succ]
  refine wpAnyG_take (oi := _) (v := _) (fun _ _ hS_ hb_ => ⟨hS_.1.gr hb_, hS_.2.1.gr hb_, hS_.2.2.1.gr hb_, hS_.2.2.2.1.gr hb_, hS_.2.2.2.2.1.gr hb_, hS_.2.2.2.2.2.gr hb_⟩) (i := 6) rfl (by kernel_rfl) (fun _ _ _ h => h) (pureG (by rfl) (by intro w; go_simp; first | done | with_reducible rfl)) ?_
  try simp only [Act.put, List.getElem_toArray, List.getElem_cons_succ, List.getElem_cons_zero, List.setIfInBounds_toArray, List.set_cons_zero, List.set_cons_succ]
  refine wpAnyG_take (oi := _) (v := _) (fun _ _ hS_ hb_ => ⟨hS_.1.gr hb_, hS_.2.1.gr hb_, hS_.2.2.1.gr hb_, hS_.2.2.2.1.gr hb_, hS_.2.2.2.2.1.gr hb_, hS_.2.2.2.2.2.gr hb_⟩) (i := 7) rfl (by kernel_rfl) (fun _ _ _ h => h) (pureG (by rfl) (by intro w; go_simp; first | done | with_reducible rfl)) ?_
  try simp only [Act.put, List.getElem_toArray, List.getElem_cons_succ, List.getElem_cons_zero, List.setIfInBounds_toArray, List.set_cons_zero, List.set_cons_succ]
  refine wpAnyG_take (oi := _) (v := _) (fun _ _ hS_ hb_ => ⟨hS_.1.gr hb_, hS_.2.1.gr hb_, hS_.2.2.1.gr hb_, hS_.2.2.2.1.gr hb_, hS_.2.2.2.2.1.gr hb_, hS_.2.2.2.2.2.gr hb_⟩) (i := 8) rfl (by kernel_rfl) (fun _ _ _ h => h) (pureG (by rfl) (by intro w; go_simp; first | done | with_reducible rfl)) ?_
  try simp only [Act.put, List.getElem_toArray, List.getElem_cons_succ, List.getElem_cons_zero, List.setIfInBounds_toArray, List.set_cons_zero, List.set_cons_succ]
  refine wpAnyG_take (oi := _) (v := _) (fun _ _ hS_ hb_ => ⟨hS_.1.gr hb_, hS_.2.1.gr hb_, hS_.2.2.1.gr hb_, hS_.2.2.2.1.gr hb_, hS_.2.2.2.2.1.gr hb_, hS_.2.2.2.2.2.gr hb_⟩) (i := 9) rfl (by kernel_rfl) (fun _ _ _ h => h) (pureG (by rfl) (by intro w; go_simp; first | done | with_reducible rfl)) ?_
  try simp only [Act.put, List.getElem_toArray, List.getElem_cons_succ, List.getElem_cons_zero, List.setIfInBounds_toArray, List.set_cons_zero, List.set_cons_succ]
  refine wpAnyG_take (oi := _) (v := _) (fun _ _ hS_ hb_ => ⟨hS_.1.gr hb_, hS_.2.1.gr hb_, hS_.2.2.1.gr hb_, hS_.2.2.2.1.gr hb_, hS_.2.2.2.2.1.gr hb_, hS_.2.2.2.2.2.gr hb_⟩) (i := 10) rfl (by kernel_rfl) (fun _ _ _ h => h) (pureG (by rfl) (by intro w; go_simp; first | done | with_reducible rfl)) ?_
  try simp only [Act.put, List.getElem_toArray, List.getElem_cons_succ, List.getElem_cons_zero, List.setIfInBounds_toArray, List.set_cons_zero, List.set_cons_succ]
  refine wpAnyG_take (oi := _) (v := _) (fun _ _ hS_ hb_ => ⟨hS_.1.gr hb_, hS_.2.1.gr hb_, hS_.2.2.1.gr hb_, hS_.2.2.2.1.gr hb_, hS_.2.2.2.2.1.gr hb_, hS_.2.2.2.2.2.gr hb_⟩) (i := 11) rfl (by kernel_rfl) (fun _ _ _ h => h) (pureG (by rfl) (by intro w; go_simp; first | done | with_reducible rfl)) ?_
  try simp only [Act.put, List.getElem_toArray, List.getElem_cons_succ, List.getElem_cons_zero, List.setIfInBounds_toArray, List.set_cons_zero, List.set_cons_succ]
  refine wpAnyG_take (oi := _) (v := _) (fun _ _ hS_ hb_ => ⟨hS_.1.gr hb_, hS_.2.1.gr hb_, hS_.2.2.1.gr hb_, hS_.2.2.2.1.gr hb_, hS_.2.2.2.2.1.gr hb_, hS_.2.2.2.2.2.gr hb_⟩) (i := 12) rfl (by kernel_rfl) (fun _ _ _ h => h) (pureG (by rfl) (by intro w; go_simp; first | done | with_reducible rfl)) ?_
  try simp only [Act.put, List.getElem_toArray, List.getElem_cons_succ, List.getElem_cons_zero, List.setIfInBounds_toArray, List.set_cons_zero, List.set_cons_succ]
  refine wpAnyG_take (oi := _) (v := _) (fun _ _ hS_ hb_ => ⟨hS_.1.gr hb_, hS_.2.1.gr hb_, hS_.2.2.1.gr hb_, hS_.2.2.2.1.gr hb_, hS_.2.2.2.2.1.gr hb_, hS_.2.2.2.2.2.gr hb_⟩) (i := 13) rfl (by kernel_rfl) (fun _ _ _ h => h) (pureG (by rfl) (by intro w; go_simp; first | done | with_reducible rfl)) ?_
  try simp only [Act.put, List.getElem_toArray, List.getElem_cons_succ, List.getElem_cons_zero, List.setIfInBounds_toArray, List.set_cons_zero, List.set_cons_succ]
  refine wpAnyG_take (oi := _) (v := _) (fun _ _ hS_ hb_ => ⟨hS_.1.gr hb_, hS_.2.1.gr hb_, hS_.2.2.1.gr hb_, hS_.2.2.2.1.gr hb_, hS_.2.2.2.2.1.gr hb_, hS_.2.2.2.2.2.gr hb_⟩) (i := 14) rfl (by kernel_rfl) (fun _ _ _ h => h) (pureG (by rfl) (by intro w; go_simp; first | done | with_reducible rfl)) ?_
  try simp only [Act.put, List.getElem_toArray, List.getElem_cons_succ, List.getElem_cons_zero, List.setIfInBounds_toArray, List.set_cons_zero, List.set_cons_succ]
  refine wpAnyG_take (oi := _) (v := _) (fun _ _ hS_ hb_ => ⟨hS_.1.gr hb_, hS_.2.1.gr hb_, hS_.2.2.1.gr hb_, hS_.2.2.2.1.gr hb_, hS_.2.2.2.2.1.gr hb_, hS_.2.2.2.2.2.gr hb_⟩) (i := 15) rfl (by kernel_rfl) (fun _ _ _ h => h) (pureG (by rfl) (by intro w; go_simp; first | done | with_reducible rfl)) ?_
  try simp only [Act.put, List.getElem_toArray, List.getElem_cons_succ, List.getElem_cons_zero, List.setIfInBounds_toArray, List.set_cons_zero, List.set_cons_succ]
  refine wpAnyG_take (oi := _) (v := _) (fun _ _ hS_ hb_ => ⟨hS_.1.gr hb_, hS_.2.1.gr hb_, hS_.2.2.1.gr hb_, hS_.2.2.2.1.gr hb_, hS_.2.2.2.2.1.gr hb_, hS_.2.2.2.2.2.gr hb_⟩) (i := 16) rfl (by kernel_rfl) (fun _ _ _ h => h) (pureG (by rfl) (by intro w; go_simp; first | done | with_reducible rfl)) ?_
  try simp only [Act.put, List.getElem_toArray, List.getElem_cons_succ, List.getElem_cons_zero, List.setIfInBounds_toArray, List.set_cons_zero, List.set_cons_succ]
  refine wpAnyG_take (oi := _) (v := _) (fun _ _ hS_ hb_ => ⟨hS_.1.gr hb_, hS_.2.1.gr hb_, hS_.2.2.1.gr hb_, hS_.2.2.2.1.gr hb_, hS_.2.2.2.2.1.gr hb_, hS_.2.2.2.2.2.gr hb_⟩) (i := 17) rfl (by kernel_rfl) (fun _ _ _ h => h) (pureG (by rfl) (by intro w; go_simp; first | done | with_reducible rfl)) ?_
  try simp only [Act.put, List.getElem_toArray, List.getElem_cons_succ, List.getElem_cons_zero, List.setIfInBounds_toArray, List.set_cons_zero, List.set_cons_succ]
  refine wpAnyG_take (oi := _) (v := _) (fun _ _ hS_ hb_ => ⟨hS_.1.gr hb_, hS_.2.1.gr hb_, hS_.2.2.1.gr hb_, hS_.2.2.2.1.gr hb_, hS_.2.2.2.2.1.gr hb_, hS_.2.2.2.2.2.gr hb_⟩) (i := 18) rfl (by kernel_rfl) (fun _ _ _ h => h) (loadG (by rfl) _ _ rfl _ _ rfl (iv sl) _ (fun _ hS_ => blk_all (hS_.1)) Try.underlying23 rfl (i23 L_sl.out)) ?_
  try simp only [Act.put, List.getElem_toArray, List.getElem_cons_succ, List.getElem_cons_zero, List.setIfInBounds_toArray, List.set_cons_zero, List.set_cons_succ]
  refine wpAnyG_take (oi := _) (v := _) (fun _ _ hS_ hb_ => ⟨hS_.1.gr hb_, hS_.2.1.gr hb_, hS_.2.2.1.gr hb_, hS_.2.2.2.1.gr hb_, hS_.2.2.2.2.1.gr hb_, hS_.2.2.2.2.2.gr hb_⟩) (i := 19) rfl (by kernel_rfl) (fun _ _ _ h => h) (loadG (by rfl) _ _ rfl _ _ rfl (iv a) _ (fun _ hS_ => blk_all (hS_.2.1)) Try.underlying23 rfl (i23 L_a.out)) ?_
  try simp only [Act.put, List.getElem_toArray, List.getElem_cons_succ, List.getElem_cons_zero, List.setIfInBounds_toArray, List.set_cons_zero, List.set_cons_succ]
  refine wpAnyG_take (oi := _) (v := _) (fun _ _ hS_ hb_ => ⟨hS_.1.gr hb_, hS_.2.1.gr hb_, hS_.2.2.1.gr hb_, hS_.2.2.2.1.gr hb_, hS_.2.2.2.2.1.gr hb_, hS_.2.2.2.2.2.gr hb_⟩) (i := 20) rfl (by kernel_rfl) (fun _ _ _ h => h) (loadG (by rfl) _ _ rfl _ _ rfl (iv b) _ (fun _ hS_ => blk_all (hS_.2.2.1)) Try.underlying23 rfl (i23 L_b.out)) ?_
  try simp only [Act.put, List.getElem_toArray, List.getElem_cons_succ, List.getElem_cons_zero, List.setIfInBounds_toArray, List.set_cons_zero, List.set_cons_succ]
  refine wpAnyG_take (oi := _) (v := _) (fun _ _ hS_ hb_ => ⟨hS_.1.gr hb_, hS_.2.1.gr hb_, hS_.2.2.1.gr hb_, hS_.2.2.2.1.gr hb_, hS_.2.2.2.2.1.gr hb_, hS_.2.2.2.2.2.gr hb_⟩) (i := 21) rfl (by kernel_rfl) (fun _ _ _ h => h) (callG (by rfl) rfl Try.func18 (by kernel_rfl) (by kernel_rfl) (#[.agg (iv a).toArray, .agg (iv b).toArray, _]) (by simp [Act.eval]) (fun W_ _ => H18.out W_)) ?_
  try simp only [Act.put, List.getElem_toArray, List.getElem_cons_succ, List.getElem_cons_zero, List.setIfInBounds_toArray, List.set_cons_zero, List.set_cons_succ]
  refine wpAnyG_take (oi := _) (v := _) (fun _ _ hS_ hb_ => ⟨hS_.1.gr hb_, hS_.2.1.gr hb_, hS_.2.2.1.gr hb_, hS_.2.2.2.1.gr hb_, hS_.2.2.2.2.1.gr hb_, hS_.2.2.2.2.2.gr hb_⟩) (i := 22) rfl (by kernel_rfl) (fun _ _ _ h => h) (pureG (by rfl) (by intro w; have q := eqin23 sl sl L_sl.out L_sl.out w; go_simp; first | done | with_reducible rfl)) ?_
  try simp only [Act.put, List.getElem_toArray, List.getElem_cons_succ, List.getElem_cons_zero, List.setIfInBounds_toArray, List.set_cons_zero, List.set_cons_succ]
  refine wpAnyG_take (oi := _) (v := _) (fun _ _ hS_ hb_ => ⟨hS_.1.gr hb_, hS_.2.1.gr hb_, hS_.2.2.1.gr hb_, hS_.2.2.2.1.gr hb_, hS_.2.2.2.2.1.gr hb_, hS_.2.2.2.2.2.gr hb_⟩) (i := 23) rfl (by kernel_rfl) (fun _ _ _ h => h) (pureG (by rfl) (by intro w; go_simp; first | done | with_reducible rfl)) ?_
  try simp only [Act.put, List.getElem_toArray, List.getElem_cons_succ, List.getElem_cons_zero, List.setIfInBounds_toArray, List.set_cons_zero, List.set_cons_succ]
  refine wpAnyG_take (oi := _) (v := _) (fun _ _ hS_ hb_ => ⟨hS_.1.gr hb_, hS_.2.1.gr hb_, hS_.2.2.1.gr hb_, hS_.2.2.2.1.gr hb_, hS_.2.2.2.2.1.gr hb_, hS_.2.2.2.2.2.gr hb_⟩) (i := 24) rfl (by kernel_rfl) (fun _ _ _ h => h) (pureG (by rfl) (by intro w; go_simp; first | done | with_reducible rfl)) ?_
  try simp only [Act.put, List.getElem_toArray, List.getElem_cons_succ, List.getElem_cons_zero, List.setIfInBounds_toArray, List.set_cons_zero, List.set_cons_succ]
  refine wpAnyG_take (oi := _) (v := _) (fun _ _ hS_ hb_ => ⟨hS_.1.gr hb_, hS_.2.1.gr hb_, hS_.2.2.1.gr hb_, hS_.2.2.2.1.gr hb_, hS_.2.2.2.2.1.gr hb_, hS_.2.2.2.2.2.gr hb_⟩) (i := 25) rfl (by kernel_rfl) (fun _ _ _ h => h) (loadG (by rfl) _ _ rfl _ _ rfl (iv dl) _ (fun _ hS_ => blk_all (hS_.2.2.2.1)) Try.underlying23 rfl (i23 L_dl.out)) ?_
  try simp only [Act.put, List.getElem_toArray, List.getElem_cons_succ, List.getElem_cons_zero, List.setIfInBounds_toArray, List.set_cons_zero, List.set_cons_succ]
  refine wpAnyG_take (oi := _) (v := _) (fun _ _ hS_ hb_ => ⟨hS_.1.gr hb_, hS_.2.1.gr hb_, hS_.2.2.1.gr hb_, hS_.2.2.2.1.gr hb_, hS_.2.2.2.2.1.gr hb_, hS_.2.2.2.2.2.gr hb_⟩) (i := 26) rfl (by kernel_rfl) (fun _ _ _ h => h) (loadG (by rfl) _ _ rfl _ _ rfl (iv a) _ (fun _ hS_ => blk_all (hS_.2.1)) Try.underlying23 rfl (i23 L_a.out)) ?_
  try simp only [Act.put, List.getElem_toArray, List.getElem_cons_succ, List.getElem_cons_zero, List.setIfInBounds_toArray, List.set_cons_zero, List.set_cons_succ]
  refine wpAnyG_take (oi := _) (v := _) (fun _ _ hS_ hb_ => ⟨hS_.1.gr hb_, hS_.2.1.gr hb_, hS_.2.2.1.gr hb_, hS_.2.2.2.1.gr hb_, hS_.2.2.2.2.1.gr hb_, hS_.2.2.2.2.2.gr hb_⟩) (i := 27) rfl (by kernel_rfl) (fun _ _ _ h => h) (loadG (by rfl) _ _ rfl _ _ rfl (iv b) _ (fun _ hS_ => blk_all (hS_.2.2.1)) Try.underlying23 rfl (i23 L_b.out)) ?_
  try simp only [Act.put, List.getElem_toArray, List.getElem_cons_succ, List.getElem_cons_zero, List.setIfInBounds_toArray, List.set_cons_zero, List.set_cons_succ]
  refine wpAnyG_take (oi := _) (v := _) (fun _ _ hS_ hb_ => ⟨hS_.1.gr hb_, hS_.2.1.gr hb_, hS_.2.2.1.gr hb_, hS_.2.2.2.1.gr hb_, hS_.2.2.2.2.1.gr hb_, hS_.2.2.2.2.2.gr hb_⟩) (i := 28) rfl (by kernel_rfl) (fun _ _ _ h => h) (callG (by rfl) rfl Try.func18 (by kernel_rfl) (by kernel_rfl) (#[.agg (iv a).toArray, .agg (iv b).toArray, _]) (by simp [Act.eval]) (fun W_ _ => H18b.out W_)) ?_
  try simp only [Act.put, List.getElem_toArray, List.getElem_cons_succ, List.getElem_cons_zero, List.setIfInBounds_toArray, List.set_cons_zero, List.set_cons_succ]
  refine wpAnyG_take (oi := _) (v := _) (fun _ _ hS_ hb_ => ⟨hS_.1.gr hb_, hS_.2.1.gr hb_, hS_.2.2.1.gr hb_, hS_.2.2.2.1.gr hb_, hS_.2.2.2.2.1.gr hb_, hS_.2.2.2.2.2.gr hb_⟩) (i := 29) rfl (by kernel_rfl) (fun _ _ _ h => h) (pureG (by rfl) (by intro w; have q := eqin23 dl dl L_dl.out L_dl.out w; go_simp; first | done | with_reducible rfl)) ?_
  try simp only [Act.put, List.getElem_toArray, List.getElem_cons_succ, List.getElem_cons_zero, List.setIfInBounds_toArray, List.set_cons_zero, List.set_cons_succ]
  refine wpAnyG_take (oi := _) (v := _) (fun _ _ hS_ hb_ => ⟨hS_.1.gr hb_, hS_.2.1.gr hb_, hS_.2.2.1.gr hb_, hS_.2.2.2.1.gr hb_, hS_.2.2.2.2.1.gr hb_, hS_.2.2.2.2.2.gr hb_⟩) (i := 30) rfl (by kernel_rfl) (fun _ _ _ h => h) (pureG (by rfl) (by intro w; go_simp; first | done | with_reducible rfl)) ?_
  try simp only [Act.put, List.getElem_toArray, List.getElem_cons_succ, List.getElem_cons_zero, List.setIfInBounds_toArray, List.set_cons_zero, List.set_cons_succ]
  refine wpAnyG_take (oi := _) (v := _) (fun _ _ hS_ hb_ => ⟨hS_.1.gr hb_, hS_.2.1.gr hb_, hS_.2.2.1.gr hb_, hS_.2.2.2.1.gr hb_, hS_.2.2.2.2.1.gr hb_, hS_.2.2.2.2.2.gr hb_⟩) (i := 31) rfl (by kernel_rfl) (fun _ _ _ h => h) (pureG (by rfl) (by intro w; go_simp; first | done | with_reducible rfl)) ?_
  try simp only [Act.put, List.getElem_toArray, List.getElem_cons_succ, List.getElem_cons_zero, List.setIfInBounds_toArray, List.set_cons_zero, List.set_cons_succ]
  refine wpAnyG_take (oi := _) (v := _) (fun _ _ hS_ hb_ => ⟨hS_.1.gr hb_, hS_.2.1.gr hb_, hS_.2.2.1.gr hb_, hS_.2.2.2.1.gr hb_, hS_.2.2.2.2.1.gr hb_, hS_.2.2.2.2.2.gr hb_⟩) (i := 32) rfl (by kernel_rfl) (fun _ _ _ h => h) (loadG (by rfl) _ _ rfl _ _ rfl (iv pl) _ (fun _ hS_ => blk_all (hS_.2.2.2.2.1)) Try.underlying23 rfl (i23 L_pl.out)) ?_
  try simp only [Act.put, List.getElem_toArray, List.getElem_cons_succ, List.getElem_cons_zero, List.setIfInBounds_toArray, List.set_cons_zero, List.set_cons_succ]
  refine wpAnyG_take (oi := _) (v := _) (fun _ _ hS_ hb_ => ⟨hS_.1.gr hb_, hS_.2.1.gr hb_, hS_.2.2.1.gr hb_, hS_.2.2.2.1.gr hb_, hS_.2.2.2.2.1.gr hb_, hS_.2.2.2.2.2.gr hb_⟩) (i := 33) rfl (by kernel_rfl) (fun _ _ _ h => h) (loadG (by rfl) _ _ rfl _ _ rfl (iv a) _ (fun _ hS_ => blk_all (hS_.2.1)) Try.underlying23 rfl (i23 L_a.out)) ?_
  try simp only [Act.put, List.getElem_toArray, List.getElem_cons_succ, List.getElem_cons_zero, List.setIfInBounds_toArray, List.set_cons_zero, List.set_cons_succ]
  refine wpAnyG_take (oi := _) (v := _) (fun _ _ hS_ hb_ => ⟨hS_.1.gr hb_, hS_.2.1.gr hb_, hS_.2.2.1.gr hb_, hS_.2.2.2.1.gr hb_, hS_.2.2.2.2.1.gr hb_, hS_.2.2.2.2.2.gr hb_⟩) (i := 34) rfl (by kernel_rfl) (fun _ _ _ h => h) (loadG (by rfl) _ _ rfl _ _ rfl (iv b) _ (fun _ hS_ => blk_all (hS_.2.2.1)) Try.underlying23 rfl (i23 L_b.out)) ?_
  try simp only [Act.put, List.getElem_toArray, List.getElem_cons_succ, List.getElem_cons_zero, List.setIfInBounds_toArray, List.set_cons_zero, List.set_cons_succ]
  refine wpAnyG_take (oi := _) (v := _) (fun _ _ hS_ hb_ => ⟨hS_.1.gr hb_, hS_.2.1.gr hb_, hS_.2.2.1.gr hb_, hS_.2.2.2.1.gr hb_, hS_.2.2.2.2.1.gr hb_, hS_.2.2.2.2.2.gr hb_⟩) (i := 35) rfl (by kernel_rfl) (fun _ _ _ h => h) (callG (by rfl) rfl Try.func19 (by kernel_rfl) (by kernel_rfl) (#[.agg (iv a).toArray, .agg (iv b).toArray]) (by simp [Act.eval]) (fun W_ _ => H19.out W_)) ?_
  try simp only [Act.put, List.getElem_toArray, List.getElem_cons_succ, List.getElem_cons_zero, List.setIfInBounds_toArray, List.set_cons_zero, List.set_cons_succ]
  refine wpAnyG_take (oi := _) (v := _) (fun _ _ hS_ hb_ => ⟨hS_.1.gr hb_, hS_.2.1.gr hb_, hS_.2.2.1.gr hb_, hS_.2.2.2.1.gr hb_, hS_.2.2.2.2.1.gr hb_, hS_.2.2.2.2.2.gr hb_⟩) (i := 36) rfl (by kernel_rfl) (fun _ _ _ h => h) (pureG (by rfl) (by intro w; have q := eqin23 pl pl L_pl.out L_pl.out w; go_simp; first | done | with_reducible rfl)) ?_
  try simp only [Act.put, List.getElem_toArray, List.getElem_cons_succ, List.getElem_cons_zero, List.setIfInBounds_toArray, List.set_cons_zero, List.set_cons_succ]
  refine wpAnyG_take (oi := _) (v := _) (fun _ _ hS_ hb_ => ⟨hS_.1.gr hb_, hS_.2.1.gr hb_, hS_.2.2.1.gr hb_, hS_.2.2.2.1.gr hb_, hS_.2.2.2.2.1.gr hb_, hS_.2.2.2.2.2.gr hb_⟩) (i := 37) rfl (by kernel_rfl) (fun _ _ _ h => h) (pureG (by rfl) (by intro w; go_simp; first | done | with_reducible rfl)) ?_
  try simp only [Act.put, List.getElem_toArray, List.getElem_cons_succ, List.getElem_cons_zero, List.setIfInBounds_toArray, List.set_cons_zero, List.set_cons_succ]
  refine wpAnyG_take (oi := _) (v := _) (fun _ _ hS_ hb_ => ⟨hS_.1.gr hb_, hS_.2.1.gr hb_, hS_.2.2.1.gr hb_, hS_.2.2.2.1.gr hb_, hS_.2.2.2.2.1.gr hb_, hS_.2.2.2.2.2.gr hb_⟩) (i := 38) rfl (by kernel_rfl) (fun _ _ _ h => h) (pureG (by rfl) (by intro w; go_simp; first | done | with_reducible rfl)) ?_
  try simp only [Act.put, List.getElem_toArray, List.getElem_cons_succ, List.getElem_cons_zero, List.setIfInBounds_toArray, List.set_cons_zero, List.set_cons_succ]
  refine wpAnyG_take (oi := _) (v := _) (fun _ _ hS_ hb_ => ⟨hS_.1.gr hb_, hS_.2.1.gr hb_, hS_.2.2.1.gr hb_, hS_.2.2.2.1.gr hb_, hS_.2.2.2.2.1.gr hb_, hS_.2.2.2.2.2.gr hb_⟩) (i := 39) rfl (by kernel_rfl) (fun _ _ _ h => h) (loadG (by rfl) _ _ rfl _ _ rfl (iv tl) _ (fun _ hS_ => blk_all (hS_.2.2.2.2.2)) Try.underlying23 rfl (i23 L_tl.out)) ?_
  try simp only [Act.put, List.getElem_toArray, List.getElem_cons_succ, List.getElem_cons_zero, List.setIfInBounds_toArray, List.set_cons_zero, List.set_cons_succ]
  refine wpAnyG_take (oi := _) (v := _) (fun _ _ hS_ hb_ => ⟨hS_.1.gr hb_, hS_.2.1.gr hb_, hS_.2.2.1.gr hb_, hS_.2.2.2.1.gr hb_, hS_.2.2.2.2.1.gr hb_, hS_.2.2.2.2.2.gr hb_⟩) (i := 40) rfl (by kernel_rfl) (fun _ _ _ h => h) (loadG (by rfl) _ _ rfl _ _ rfl (iv a) _ (fun _ hS_ => blk_all (hS_.2.1)) Try.underlying23 rfl (i23 L_a.out)) ?_
  try simp only [Act.put, List.getElem_toArray, List.getElem_cons_succ, List.getElem_cons_zero, List.setIfInBounds_toArray, List.set_cons_zero, List.set_cons_succ]
  refine wpAnyG_take (oi := _) (v := _) (fun _ _ hS_ hb_ => ⟨hS_.1.gr hb_, hS_.2.1.gr hb_, hS_.2.2.1.gr hb_, hS_.2.2.2.1.gr hb_, hS_.2.2.2.2.1.gr hb_, hS_.2.2.2.2.2.gr hb_⟩) (i := 41) rfl (by kernel_rfl) (fun _ _ _ h => h) (loadG (by rfl) _ _ rfl _ _ rfl (iv b) _ (fun _ hS_ => blk_all (hS_.2.2.1)) Try.underlying23 rfl (i23 L_b.out)) ?_
  try simp only [Act.put, List.getElem_toArray, List.getElem_cons_succ, List.getElem_cons_zero, List.setIfInBounds_toArray, List.set_cons_zero, List.set_cons_succ]
  refine wpAnyG_take (oi := _) (v := _) (fun _ _ hS_ hb_ => ⟨hS_.1.gr hb_, hS_.2.1.gr hb_, hS_.2.2.1.gr hb_, hS_.2.2.2.1.gr hb_, hS_.2.2.2.2.1.gr hb_, hS_.2.2.2.2.2.gr hb_⟩) (i := 42) rfl (by kernel_rfl) (fun _ _ _ h => h) (callG (by rfl) rfl Try.func20 (by kernel_rfl) (by kernel_rfl) (#[.agg (iv a).toArray, .agg (iv b).toArray]) (by simp [Act.eval]) (fun W_ _ => H20.out W_)) ?_
  try simp only [Act.put, List.getElem_toArray, List.getElem_cons_succ, List.getElem_cons_zero, List.setIfInBounds_toArray, List.set_cons_zero, List.set_cons_succ]
  refine wpAnyG_take (oi := _) (v := _) (fun _ _ hS_ hb_ => ⟨hS_.1.gr hb_, hS_.2.1.gr hb_, hS_.2.2.1.gr hb_, hS_.2.2.2.1.gr hb_, hS_.2.2.2.2.1.gr hb_, hS_.2.2.2.2.2.gr hb_⟩) (i := 43) rfl (by kernel_rfl) (fun _ _ _ h => h) (pureG (by rfl) (by intro w; have q := eqin23 tl tl L_tl.out L_tl.out w; go_simp; first | done | with_reducible rfl)) ?_
  try simp only [Act.put, List.getElem_toArray, List.getElem_cons_succ, List.getElem_cons_zero, List.setIfInBounds_toArray, List.set_cons_zero, List.set_cons_succ]
  refine wpAnyG_take (oi := _) (v := _) (fun _ _ hS_ hb_ => ⟨hS_.1.gr hb_, hS_.2.1.gr hb_, hS_.2.2.1.gr hb_, hS_.2.2.2.1.gr hb_, hS_.2.2.2.2.1.gr hb_, hS_.2.2.2.2.2.gr hb_⟩) (i := 44) rfl (by kernel_rfl) (fun _ _ _ h => h) (pureG (by rfl) (by intro w; go_simp; first | done | with_reducible rfl)) ?_
  try simp only [Act.put, List.getElem_toArray, List.getElem_cons_succ, List.getElem_cons_zero, List.setIfInBounds_toArray, List.set_cons_zero, List.set_cons_succ]
  refine wpAnyG_take (oi := _) (v := _) (fun _ _ hS_ hb_ => ⟨hS_.1.gr hb_, hS_.2.1.gr hb_, hS_.2.2.1.gr hb_, hS_.2.2.2.1.gr hb_, hS_.2.2.2.2.1.gr hb_, hS_.2.2.2.2.2.gr hb_⟩) (i := 45) rfl (by kernel_rfl) (fun _ _ _ h => h) (pureG (by rfl) (by intro w; go_simp; first | done | with_reducible rfl)) ?_
  try simp only [Act.put, List.getElem_toArray, List.getElem_cons_succ, List.getElem_cons_zero, List.setIfInBounds_toArray, List.set_cons_zero, List.set_cons_succ]
  refine wpAnyG_done (by kernel_rfl) ?_ _
  intro w110 hgw110
  try simp only [Act.put, List.getElem_toArray, List.getElem_cons_succ, List.getElem_cons_zero, List.setIfInBounds_toArray, List.set_cons_zero, List.set_cons_succ]
  have E111 := Lib.hid (E102.out.drew.gr hgw110)
  clear E102
  have E112 := Lib.hid (E103.out.drew.gr hgw110)
  clear E103
  have E113 := Lib.hid (E104.out.drew.gr hgw110)
  clear E104
  have E114 := Lib.hid (E105.out.drew.gr hgw110)
  clear E105
  have E115 := Lib.hid (E106.out.drew.gr hgw110)
  clear E106
  have E116 := Lib.hid (E107.out.drew.gr hgw110)
  clear E107
  have E117 := Lib.hid (E108.out.drew.gr hgw110)
  clear E108
  have hbel118 := hbel109.drew.trans (Below.mono hgw110 hbel109.drew.size)
  clear hbel109
  clear hgw110
  as_aux_lemma =>
  go_wp2_with fail
  go_ret
  exact ⟨rfl, hbel118⟩
set_option maxRecDepth 100000 in
set_option maxHeartbeats 6400000 in
theorem sums_B (f : Nat → FQ) (b : List Int) (hb : IsP b) (hno : pln b = false) (w : World) : Calls Try.prog 3 #[.agg (iv (PL f)).toArray, .agg (iv b).toArray] w fun e w' => e = .returned (.bool true) ∧ Below w.heap.size w w' := by
  have HA := Lib.hid awake_any
  have hn := pln_two2 (PL f) hno
  have H9 := Lib.hid (Add_f (PL f) b (IsP_PL f) hb hn)
  have H10 := Lib.hid (Sub_f (PL f) b (IsP_PL f) hb hn)
  have H11 := Lib.hid (Mul_f (PL f) b (IsP_PL f) hb hn)
  have H12 := Lib.hid (Times_f (PL f) b (IsP_PL f) hb hn)
  have H13 := Lib.hid (Norm_t f)
  have H14 := Lib.hid (Reduce_any (PL f) (IsP_PL f))
  have H16 := Lib.hid (dReduce_any (PL f) (IsP_PL f))
  have H17 := Lib.hid (dNorm_any f)
  have HPA := Lib.hid (dPlain_any (PL f) (PL_length f))
  have HPB := Lib.hid (dPlain_any b hb.1)
  rw [pln_PL] at HPA
  rw [hno] at HPB
  have L_a := Lib.hid (PL_length f)
  have L_b := Lib.hid hb.1
  have L_rl := Lib.hid (PL_length (rdF (PL f)))
  clear hn hno hb
  generalize PL (rdF (PL f)) = rl at *
  generalize PL f = a at *
  generalize nrm f 256 = nn at *
  have z23 := zero23
  have heq := fun w => eqin23 zerI zerI zerI_length zerI_length w
  have B0_ := Lib.hid ((Blk.new w  23 (iv a)).alloc (.cells (iv b).toArray 23))
  have B1_ := Lib.hid (Blk.new2 w (.cells (iv a).toArray 23) 23 (iv b))
  have bel_ := (((Below.refl w.heap.size w).alloc (Nat.le_refl _) (.cells (iv a).toArray 23)).alloc (by simp) (.cells (iv b).toArray 23))
  go_enter Try.func3, Try.ntmps3
  go_wp2_with fail
  refine (HA.out _).mono ?_
  rintro e w1 ⟨rfl, hbw1⟩
  have C2 := Lib.hid (B0_.out.gr hbw1)
  clear B0_
  have C3 := Lib.hid (B1_.out.gr hbw1)
  clear B1_
  have hbel4 := bel_.trans (Below.mono hbw1 bel_.size)
  clear bel_
  clear hbw1
  go_wp2_with (first | (refine wpList_load_mid rfl 23 (.tmp 2) rfl w.heap.size 0 rfl (iv a) _ (blk_all (C2.out)) Try.underlying23 rfl (i23 L_a.out) ?_) | (refine wpList_load_mid rfl 23 (.tmp 3) rfl (w.heap.size + 1) 0 rfl (iv b) _ (blk_all (C3.out)) Try.underlying23 rfl (i23 L_b.out) ?_))
  refine (H9.out _).mono ?_
  rintro e w5 ⟨rfl, hbw5⟩
  have C6 := Lib.hid (C2.out.gr hbw5)
  clear C2
  have C7 := Lib.hid (C3.out.gr hbw5)
  clear C3
  have hbel8 := hbel4.trans (Below.mono hbw5 hbel4.size)
  clear hbel4
  clear hbw5
  go_wp2_with (first | (refine stB rfl 23 (.tmp 6) (.tmp 25) rfl w5.heap.size rfl (iv zerI) rfl 23 (iv zerI) (Blk.new w5 23 (iv zerI)) (i23 zerI_length) (lenEq (show (iv zerI).length = 256 by rw [iv_length, zerI_length]) (show (iv zerI).length = 256 by rw [iv_length, zerI_length])) (iv_one _) ?_; generalize hW : World.setRow _ _ _ = w9; obtain ⟨hgw9, hnw9⟩ := newfacts hW; clear hW; have C12 := Lib.hid (C6.out.gr hgw9); clear C6; have C13 := Lib.hid (C7.out.gr hgw9); clear C7; have hbel14 := hbel8.trans (Below.mono hgw9 hbel8.size); clear hbel8; have D11 := Lib.hid hnw9; have szw9 := hgw9.size; clear hnw9 hgw9 szw9; generalize w5.heap.size = G10 at *) | (refine wpList_load_mid rfl 23 (.tmp 2) rfl w.heap.size 0 rfl (iv a) _ (blk_all (C12.out)) Try.underlying23 rfl (i23 L_a.out) ?_) | (refine wpList_load_mid rfl 23 (.tmp 3) rfl (w.heap.size + 1) 0 rfl (iv b) _ (blk_all (C13.out)) Try.underlying23 rfl (i23 L_b.out) ?_))
  refine (H10.out _).mono ?_
  rintro e w15 ⟨rfl, hbw15⟩
  have C16 := Lib.hid (C12.out.gr hbw15)
  clear C12
  have C17 := Lib.hid (C13.out.gr hbw15)
  clear C13
  have C18 := Lib.hid (D11.out.gr hbw15)
  clear D11
  have hbel19 := hbel14.trans (Below.mono hbw15 hbel14.size)
  clear hbel14
  clear hbw15
  go_wp2_with (first | (refine stB rfl 23 (.tmp 8) (.tmp 31) rfl w15.heap.size rfl (iv zerI) rfl 23 (iv zerI) (Blk.new w15 23 (iv zerI)) (i23 zerI_length) (lenEq (show (iv zerI).length = 256 by rw [iv_length, zerI_length]) (show (iv zerI).length = 256 by rw [iv_length, zerI_length])) (iv_one _) ?_; generalize hW : World.setRow _ _ _ = w20; obtain ⟨hgw20, hnw20⟩ := newfacts hW; clear hW; have C23 := Lib.hid (C16.out.gr hgw20); clear C16; have C24 := Lib.hid (C17.out.gr hgw20); clear C17; have C25 := Lib.hid (C18.out.gr hgw20); clear C18; have hbel26 := hbel19.trans (Below.mono hgw20 hbel19.size); clear hbel19; have D22 := Lib.hid hnw20; have szw20 := hgw20.size; clear hnw20 hgw20 szw20; generalize w15.heap.size = G21 at *) | (refine wpList_load_mid rfl 23 (.tmp 2) rfl w.heap.size 0 rfl (iv a) _ (blk_all (C23.out)) Try.underlying23 rfl (i23 L_a.out) ?_) | (refine wpList_load_mid rfl 23 (.tmp 3) rfl (w.heap.size + 1) 0 rfl (iv b) _ (blk_all (C24.out)) Try.underlying23 rfl (i23 L_b.out) ?_))
  refine (H11.out _).mono ?_
  rintro e w27 ⟨rfl, hbw27⟩
  have C28 := Lib.hid (C23.out.gr hbw27)
  clear C23
  have C29 := Lib.hid (C24.out.gr hbw27)
  clear C24
  have C30 := Lib.hid (C25.out.gr hbw27)
  clear C25
  have C31 := Lib.hid (D22.out.gr hbw27)
  clear D22
  have hbel32 := hbel26.trans (Below.mono hbw27 hbel26.size)
  clear hbel26
  clear hbw27
  go_wp2_with (first | (refine stB rfl 23 (.tmp 10) (.tmp 37) rfl w27.heap.size rfl (iv zerI) rfl 23 (iv zerI) (Blk.new w27 23 (iv zerI)) (i23 zerI_length) (lenEq (show (iv zerI).length = 256 by rw [iv_length, zerI_length]) (show (iv zerI).length = 256 by rw [iv_length, zerI_length])) (iv_one _) ?_; generalize hW : World.setRow _ _ _ = w33; obtain ⟨hgw33, hnw33⟩ := newfacts hW; clear hW; have C36 := Lib.hid (C28.out.gr hgw33); clear C28; have C37 := Lib.hid (C29.out.gr hgw33); clear C29; have C38 := Lib.hid (C30.out.gr hgw33); clear C30; have C39 := Lib.hid (C31.out.gr hgw33); clear C31; have hbel40 := hbel32.trans (Below.mono hgw33 hbel32.size); clear hbel32; have D35 := Lib.hid hnw33; have szw33 := hgw33.size; clear hnw33 hgw33 szw33; generalize w27.heap.size = G34 at *) | (refine wpList_load_mid rfl 23 (.tmp 2) rfl w.heap.size 0 rfl (iv a) _ (blk_all (C36.out)) Try.underlying23 rfl (i23 L_a.out) ?_) | (refine wpList_load_mid rfl 23 (.tmp 3) rfl (w.heap.size + 1) 0 rfl (iv b) _ (blk_all (C37.out)) Try.underlying23 rfl (i23 L_b.out) ?_))
  refine (H12.out _).mono ?_
  rintro e w41 ⟨rfl, hbw41⟩
  have C42 := Lib.hid (C36.out.gr hbw41)
  clear C36
  have C43 := Lib.hid (C37.out.gr hbw41)
  clear C37
  have C44 := Lib.hid (C38.out.gr hbw41)
  clear C38
  have C45 := Lib.hid (C39.out.gr hbw41)
  clear C39
  have C46 := Lib.hid (D35.out.gr hbw41)
  clear D35
  have hbel47 := hbel40.trans (Below.mono hbw41 hbel40.size)
  clear hbel40
  clear hbw41
  go_wp2_with (first | (refine stB rfl 23 (.tmp 12) (.tmp 43) rfl w41.heap.size rfl (iv zerI) rfl 23 (iv zerI) (Blk.new w41 23 (iv zerI)) (i23 zerI_length) (lenEq (show (iv zerI).length = 256 by rw [iv_length, zerI_length]) (show (iv zerI).length = 256 by rw [iv_length, zerI_length])) (iv_one _) ?_; generalize hW : World.setRow _ _ _ = w48; obtain ⟨hgw48, hnw48⟩ := newfacts hW; clear hW; have C51 := Lib.hid (C42.out.gr hgw48); clear C42; have C52 := Lib.hid (C43.out.gr hgw48); clear C43; have C53 := Lib.hid (C44.out.gr hgw48); clear C44; have C54 := Lib.hid (C45.out.gr hgw48); clear C45; have C55 := Lib.hid (C46.out.gr hgw48); clear C46; have hbel56 := hbel47.trans (Below.mono hgw48 hbel47.size); clear hbel47; have D50 := Lib.hid hnw48; have szw48 := hgw48.size; clear hnw48 hgw48 szw48; generalize w41.heap.size = G49 at *) | (refine wpList_load_mid rfl 23 (.tmp 2) rfl w.heap.size 0 rfl (iv a) _ (blk_all (C51.out)) Try.underlying23 rfl (i23 L_a.out) ?_))
  refine (H13.out _).mono ?_
  rintro e w57 ⟨rfl, hbw57⟩
  have C58 := Lib.hid (C51.out.gr hbw57)
  clear C51
  have C59 := Lib.hid (C52.out.gr hbw57)
  clear C52
  have C60 := Lib.hid (C53.out.gr hbw57)
  clear C53
  have C61 := Lib.hid (C54.out.gr hbw57)
  clear C54
  have C62 := Lib.hid (C55.out.gr hbw57)
  clear C55
  have C63 := Lib.hid (D50.out.gr hbw57)
  clear D50
  have hbel64 := hbel56.trans (Below.mono hbw57 hbel56.size)
  clear hbel56
  clear hbw57
  go_wp2_with (first | (refine wpList_load_mid rfl 23 (.tmp 2) rfl w.heap.size 0 rfl (iv a) _ (blk_all (C58.out)) Try.underlying23 rfl (i23 L_a.out) ?_))
  refine (H14.out _).mono ?_
  rintro e w65 ⟨rfl, hbw65⟩
  have C66 := Lib.hid (C58.out.gr hbw65)
  clear C58
  have C67 := Lib.hid (C59.out.gr hbw65)
  clear C59
  have C68 := Lib.hid (C60.out.gr hbw65)
  clear C60
  have C69 := Lib.hid (C61.out.gr hbw65)
  clear C61
  have C70 := Lib.hid (C62.out.gr hbw65)
  clear C62
  have C71 := Lib.hid (C63.out.gr hbw65)
  clear C63
  have hbel72 := hbel64.trans (Below.mono hbw65 hbel64.size)
  clear hbel64
  clear hbw65
  go_wp2_with (first | (refine stB rfl 23 (.tmp 16) (.tmp 51) rfl w65.heap.size rfl (iv rl) rfl 23 (iv zerI) (Blk.new w65 23 (iv zerI)) (i23 L_rl.out) (lenEq (show (iv zerI).length = 256 by rw [iv_length, zerI_length]) (show (iv rl).length = 256 by rw [iv_length, L_rl.out])) (iv_one _) ?_; generalize hW : World.setRow _ _ _ = w73; obtain ⟨hgw73, hnw73⟩ := newfacts hW; clear hW; have C76 := Lib.hid (C66.out.gr hgw73); clear C66; have C77 := Lib.hid (C67.out.gr hgw73); clear C67; have C78 := Lib.hid (C68.out.gr hgw73); clear C68; have C79 := Lib.hid (C69.out.gr hgw73); clear C69; have C80 := Lib.hid (C70.out.gr hgw73); clear C70; have C81 := Lib.hid (C71.out.gr hgw73); clear C71; have hbel82 := hbel72.trans (Below.mono hgw73 hbel72.size); clear hbel72; have D75 := Lib.hid hnw73; have szw73 := hgw73.size; clear hnw73 hgw73 szw73; generalize w65.heap.size = G74 at *) | (refine wpList_load_mid rfl 23 (.tmp 2) rfl w.heap.size 0 rfl (iv a) _ (blk_all (C76.out)) Try.underlying23 rfl (i23 L_a.out) ?_))
  refine (HPA.out _).mono ?_
  rintro e w83 ⟨rfl, hbw83⟩
  have C84 := Lib.hid (C76.out.gr hbw83)
  clear C76
  have C85 := Lib.hid (C77.out.gr hbw83)
  clear C77
  have C86 := Lib.hid (C78.out.gr hbw83)
  clear C78
  have C87 := Lib.hid (C79.out.gr hbw83)
  clear C79
  have C88 := Lib.hid (C80.out.gr hbw83)
  clear C80
  have C89 := Lib.hid (C81.out.gr hbw83)
  clear C81
  have C90 := Lib.hid (D75.out.gr hbw83)
  clear D75
  have hbel91 := hbel82.trans (Below.mono hbw83 hbel82.size)
  clear hbel82
  clear hbw83
  go_wp2_with (first | (refine wpList_load_mid rfl 23 (.tmp 3) rfl (w.heap.size + 1) 0 rfl (iv b) _ (blk_all (C85.out)) Try.underlying23 rfl (i23 L_b.out) ?_))
  refine (HPB.out _).mono ?_
  rintro e w92 ⟨rfl, hbw92⟩
  have C93 := Lib.hid (C84.out.gr hbw92)
  clear C84
  have C94 := Lib.hid (C85.out.gr hbw92)
  clear C85
  have C95 := Lib.hid (C86.out.gr hbw92)
  clear C86
  have C96 := Lib.hid (C87.out.gr hbw92)
  clear C87
  have C97 := Lib.hid (C88.out.gr hbw92)
  clear C88
  have C98 := Lib.hid (C89.out.gr hbw92)
  clear C89
  have C99 := Lib.hid (C90.out.gr hbw92)
  clear C90
  have hbel100 := hbel91.trans (Below.mono hbw92 hbel91.size)
  clear hbel91
  clear hbw92
  go_wp2_with fail
  as_aux_lemma =>
  refine wp_region_G (fun w_ => Blk w_ G74 23 (iv rl) ∧ Blk w_ w.heap.size 23 (iv a)) 33 (by kernel_rfl) ⟨C99.out.drew, C93.out.drew⟩ ?_
  refine wpAnyG_take (oi := _) (v := _) (fun _ _ hS_ hb_ => ⟨hS_.1.gr hb_, hS_.2.gr hb_⟩) (i := 0) rfl (by kernel_rfl) (fun _ _ _ h => h) (pureG (by rfl) (by intro w; go_simp; first | done | with_reducible rfl)) ?_
  try simp only [Act.put, List.getElem_toArray, List.getElem_cons_succ, List.getElem_cons_zero, List.setIfInBounds_toArray, List.set_cons_zero, List.set_cons_succ]
  refine wpAnyG_take (oi := _) (v := _) (fun _ _ hS_ hb_ => ⟨hS_.1.gr hb_, hS_.2.gr hb_⟩) (i := 1) rfl (by kernel_rfl) (fun _ _ _ h => h) (pureG (by rfl) (by intro w; go_simp; first | done | with_reducible rfl)) ?_
  try simp only [Act.put, List.getElem_toArray, List.getElem_cons_succ, List.getElem_cons_zero, List.setIfInBounds_toArray, List.set_cons_zero, List.set_cons_succ]
  refine wpAnyG_take (oi := _) (v := _) (fun _ _ hS_ hb_ => ⟨hS_.1.gr hb_, hS_.2.gr hb_⟩) (i := 2) rfl (by kernel_rfl) (fun _ _ _ h => h) (pureG (by rfl) (by intro w; go_simp; first | done | with_reducible rfl)) ?_
  try simp only [Act.put, List.getElem_toArray, List.getElem_cons_succ, List.getElem_cons_zero, List.setIfInBounds_toArray, List.set_cons_zero, List.set_cons_succ]
  refine wpAnyG_take (oi := _) (v := _) (fun _ _ hS_ hb_ => ⟨hS_.1.gr hb_, hS_.2.gr hb_⟩) (i := 3) rfl (by kernel_rfl) (fun _ _ _ h => h) (loadG (by rfl) _ _ rfl _ _ rfl (iv rl) _ (fun _ hS_ => blk_all (hS_.1)) Try.underlying23 rfl (i23 L_rl.out)) ?_
  try simp only [Act.put, List.getElem_toArray, List.getElem_cons_succ, List.getElem_cons_zero, List.setIfInBounds_toArray, List.set_cons_zero, List.set_cons_succ]
  refine wpAnyG_take (oi := _) (v := _) (fun _ _ hS_ hb_ => ⟨hS_.1.gr hb_, hS_.2.gr hb_⟩) (i := 4) rfl (by kernel_rfl) (fun _ _ _ h => h) (loadG (by rfl) _ _ rfl _ _ rfl (iv a) _ (fun _ hS_ => blk_all (hS_.2)) Try.underlying23 rfl (i23 L_a.out)) ?_
  try simp only [Act.put, List.getElem_toArray, List.getElem_cons_succ, List.getElem_cons_zero, List.setIfInBounds_toArray, List.set_cons_zero, List.set_cons_succ]
  refine wpAnyG_take (oi := _) (v := _) (fun _ _ hS_ hb_ => ⟨hS_.1.gr hb_, hS_.2.gr hb_⟩) (i := 5) rfl (by kernel_rfl) (fun _ _ _ h => h) (callG (by rfl) rfl Try.func16 (by kernel_rfl) (by kernel_rfl) (#[.agg (iv a).toArray]) (by simp [Act.eval]) (fun W_ _ => H16.out W_)) ?_
  try simp only [Act.put, List.getElem_toArray, List.getElem_cons_succ, List.getElem_cons_zero, List.setIfInBounds_toArray, List.set_cons_zero, List.set_cons_succ]
  refine wpAnyG_take (oi := _) (v := _) (fun _ _ hS_ hb_ => ⟨hS_.1.gr hb_, hS_.2.gr hb_⟩) (i := 6) rfl (by kernel_rfl) (fun _ _ _ h => h) (pureG (by rfl) (by intro w; have q := eqin23 rl rl L_rl.out L_rl.out w; go_simp; first | done | with_reducible rfl)) ?_
  try simp only [Act.put, List.getElem_toArray, List.getElem_cons_succ, List.getElem_cons_zero, List.setIfInBounds_toArray, List.set_cons_zero, List.set_cons_succ]
  refine wpAnyG_take (oi := _) (v := _) (fun _ _ hS_ hb_ => ⟨hS_.1.gr hb_, hS_.2.gr hb_⟩) (i := 7) rfl (by kernel_rfl) (fun _ _ _ h => h) (pureG (by rfl) (by intro w; go_simp; first | done | with_reducible rfl)) ?_
  try simp only [Act.put, List.getElem_toArray, List.getElem_cons_succ, List.getElem_cons_zero, List.setIfInBounds_toArray, List.set_cons_zero, List.set_cons_succ]
  refine wpAnyG_take (oi := _) (v := _) (fun _ _ hS_ hb_ => ⟨hS_.1.gr hb_, hS_.2.gr hb_⟩) (i := 8) rfl (by kernel_rfl) (fun _ _ _ h => h) (pureG (by rfl) (by intro w; go_simp; first | done | with_reducible rfl)) ?_
  try simp only [Act.put, List.getElem_toArray, List.getElem_cons_succ, List.getElem_cons_zero, List.setIfInBounds_toArray, List.set_cons_zero, List.set_cons_succ]
  refine wpAnyG_take (oi := _) (v := _) (fun _ _ hS_ hb_ => ⟨hS_.1.gr hb_, hS_.2.gr hb_⟩) (i := 9) rfl (by kernel_rfl) (fun _ _ _ h => h) (pureG (by rfl) (by intro w; go_simp; first | done | with_reducible rfl)) ?_
  try simp only [Act.put, List.getElem_toArray, List.getElem_cons_succ, List.getElem_cons_zero, List.setIfInBounds_toArray, List.set_cons_zero, List.set_cons_succ]
  refine wpAnyG_take (oi := _) (v := _) (fun _ _ hS_ hb_ => ⟨hS_.1.gr hb_, hS_.2.gr hb_⟩) (i := 10) rfl (by kernel_rfl) (fun _ _ _ h => h) (pureG (by rfl) (by intro w; go_simp; first | done | with_reducible rfl)) ?_
  try simp only [Act.put, List.getElem_toArray, List.getElem_cons_succ, List.getElem_cons_zero, List.setIfInBounds_toArray, List.set_cons_zero, List.set_cons_succ]
  refine wpAnyG_take (oi := _) (v := _) (fun _ _ hS_ hb_ => ⟨hS_.1.gr hb_, hS_.2.gr hb_⟩) (i := 11) rfl (by kernel_rfl) (fun _ _ _ h => h) (pureG (by rfl) (by intro w; go_simp; first | done | with_reducible rfl)) ?_
  try simp only [Act.put, List.getElem_toArray, List.getElem_cons_succ, List.getElem_cons_zero, List.setIfInBounds_toArray, List.set_cons_zero, List.set_cons_succ]
  refine wpAnyG_take (oi := _) (v := _) (fun _ _ hS_ hb_ => ⟨hS_.1.gr hb_, hS_.2.gr hb_⟩) (i := 12) rfl (by kernel_rfl) (fun _ _ _ h => h) (pureG (by rfl) (by intro w; go_simp; first | done | with_reducible rfl)) ?_
  try simp only [Act.put, List.getElem_toArray, List.getElem_cons_succ, List.getElem_cons_zero, List.setIfInBounds_toArray, List.set_cons_zero, List.set_cons_succ]
  refine wpAnyG_take (oi := _) (v := _) (fun _ _ hS_ hb_ => ⟨hS_.1.gr hb_, hS_.2.gr hb_⟩) (i := 13) rfl (by kernel_rfl) (fun _ _ _ h => h) (pureG (by rfl) (by intro w; go_simp; first | done | with_reducible rfl)) ?_
  try simp only [Act.put, List.getElem_toArray, List.getElem_cons_succ, List.getElem_cons_zero, List.setIfInBounds_toArray, List.set_cons_zero, List.set_cons_succ]
  refine wpAnyG_take (oi := _) (v := _) (fun _ _ hS_ hb_ => ⟨hS_.1.gr hb_, hS_.2.gr hb_⟩) (i := 14) rfl (by kernel_rfl) (fun _ _ _ h => h) (pureG (by rfl) (by intro w; go_simp; first | done | with_reducible rfl)) ?_
  try simp only [Act.put, List.getElem_toArray, List.getElem_cons_succ, List.getElem_cons_zero, List.setIfInBounds_toArray, List.set_cons_zero, List.set_cons_succ]
  refine wpAnyG_take (oi := _) (v := _) (fun _ _ hS_ hb_ => ⟨hS_.1.gr hb_, hS_.2.gr hb_⟩) (i := 15) rfl (by kernel_rfl) (fun _ _ _ h => h) (loadG (by rfl) _ _ rfl _ _ rfl (iv a) _ (fun _ hS_ => blk_all (hS_.2)) Try.underlying23 rfl (i23 L_a.out)) ?_
  try simp only [Act.put, List.getElem_toArray, List.getElem_cons_succ, List.getElem_cons_zero, List.setIfInBounds_toArray, List.set_cons_zero, List.set_cons_succ]
  refine wpAnyG_take (oi := _) (v := _) (fun _ _ hS_ hb_ => ⟨hS_.1.gr hb_, hS_.2.gr hb_⟩) (i := 16) rfl (by kernel_rfl) (fun _ _ _ h => h) (callG (by rfl) rfl Try.func17 (by kernel_rfl) (by kernel_rfl) (#[.agg (iv a).toArray]) (by simp [Act.eval]) (fun W_ _ => H17.out W_)) ?_
  try simp only [Act.put, List.getElem_toArray, List.getElem_cons_succ, List.getElem_cons_zero, List.setIfInBounds_toArray, List.set_cons_zero, List.set_cons_succ]
  refine wpAnyG_take (oi := _) (v := _) (fun _ _ hS_ hb_ => ⟨hS_.1.gr hb_, hS_.2.gr hb_⟩) (i := 17) rfl (by kernel_rfl) (fun _ _ _ h => h) (pureG (by rfl) (by intro w; go_simp; first | done | with_reducible rfl)) ?_
  try simp only [Act.put, List.getElem_toArray, List.getElem_cons_succ, List.getElem_cons_zero, List.setIfInBounds_toArray, List.set_cons_zero, List.set_cons_succ]
  refine wpAnyG_take (oi := _) (v := _) (fun _ _ hS_ hb_ => ⟨hS_.1.gr hb_, hS_.2.gr hb_⟩) (i := 18) rfl (by kernel_rfl) (fun _ _ _ h => h) (pureG (by rfl) (by intro w; go_simp; first | done | with_reducible rfl)) ?_
  try simp only [Act.put, List.getElem_toArray, List.getElem_cons_succ, List.getElem_cons_zero, List.setIfInBounds_toArray, List.set_cons_zero, List.set_cons_succ]
  refine wpAnyG_take (oi := _) (v := _) (fun _ _ hS_ hb_ => ⟨hS_.1.gr hb_, hS_.2.gr hb_⟩) (i := 19) rfl (by kernel_rfl) (fun _ _ _ h => h) (pureG (by rfl) (by intro w; go_simp; first | done | with_reducible rfl)) ?_
  try simp only [Act.put, List.getElem_toArray, List.getElem_cons_succ, List.getElem_cons_zero, List.setIfInBounds_toArray, List.set_cons_zero, List.set_cons_succ]
  refine wpAnyG_take (oi := _) (v := _) (fun _ _ hS_ hb_ => ⟨hS_.1.gr hb_, hS_.2.gr hb_⟩) (i := 20) rfl (by kernel_rfl) (fun _ _ _ h => h) (pureG (by rfl) (by intro w; go_simp; first | done | with_reducible rfl)) ?_
  try simp only [Act.put, List.getElem_toArray, List.getElem_cons_succ, List.getElem_cons_zero, List.setIfInBounds_toArray, List.set_cons_zero, List.set_cons_succ]
  refine wpAnyG_take (oi := _) (v := _) (fun _ _ hS_ hb_ => ⟨hS_.1.gr hb_, hS_.2.gr hb_⟩) (i := 21) rfl (by kernel_rfl) (fun _ _ _ h => h) (pureG (by rfl) (by intro w; go_simp; first | done | with_reducible rfl)) ?_
  try simp only [Act.put, List.getElem_toArray, List.getElem_cons_succ, List.getElem_cons_zero, List.setIfInBounds_toArray, List.set_cons_zero, List.set_cons_succ]
  refine wpAnyG_take (oi := _) (v := _) (fun _ _ hS_ hb_ => ⟨hS_.1.gr hb_, hS_.2.gr hb_⟩) (i := 22) rfl (by kernel_rfl) (fun _ _ _ h => h) (pureG (by rfl) (by intro w; go_simp; first | done | with_reducible rfl)) ?_
  try simp only [Act.put, List.getElem_toArray, List.getElem_cons_succ, List.getElem_cons_zero, List.setIfInBounds_toArray, List.set_cons_zero, List.set_cons_succ]
  refine wpAnyG_take (oi := _) (v := _) (fun _ _ hS_ hb_ => ⟨hS_.1.gr hb_, hS_.2.gr hb_⟩) (i := 23) rfl (by kernel_rfl) (fun _ _ _ h => h) (pureG (by rfl) (by intro w; go_simp; first | done | with_reducible rfl)) ?_
  try simp only [Act.put, List.getElem_toArray, List.getElem_cons_succ, List.getElem_cons_zero, List.setIfInBounds_toArray, List.set_cons_zero, List.set_cons_succ]
  refine wpAnyG_take (oi := _) (v := _) (fun _ _ hS_ hb_ => ⟨hS_.1.gr hb_, hS_.2.gr hb_⟩) (i := 24) rfl (by kernel_rfl) (fun _ _ _ h => h) (pureG (by rfl) (by intro w; go_simp; first | done | with_reducible rfl)) ?_
  try simp only [Act.put, List.getElem_toArray, List.getElem_cons_succ, List.getElem_cons_zero, List.setIfInBounds_toArray, List.set_cons_zero, List.set_cons_succ]
  refine wpAnyG_take (oi := _) (v := _) (fun _ _ hS_ hb_ => ⟨hS_.1.gr hb_, hS_.2.gr hb_⟩) (i := 25) rfl (by kernel_rfl) (fun _ _ _ h => h) (skipG (by rfl)) ?_
  try simp only [Act.put, List.getElem_toArray, List.getElem_cons_succ, List.getElem_cons_zero, List.setIfInBounds_toArray, List.set_cons_zero, List.set_cons_succ]
  refine wpAnyG_take (oi := _) (v := _) (fun _ _ hS_ hb_ => ⟨hS_.1.gr hb_, hS_.2.gr hb_⟩) (i := 26) rfl (by kernel_rfl) (fun _ _ _ h => h) (skipG (by rfl)) ?_
  try simp only [Act.put, List.getElem_toArray, List.getElem_cons_succ, List.getElem_cons_zero, List.setIfInBounds_toArray, List.set_cons_zero, List.set_cons_succ]
  refine wpAnyG_take (oi := _) (v := _) (fun _ _ hS_ hb_ => ⟨hS_.1.gr hb_, hS_.2.gr hb_⟩) (i := 27) rfl (by kernel_rfl) (fun _ _ _ h => h) (skipG (by rfl)) ?_
  try simp only [Act.put, List.getElem_toArray, List.getElem_cons_succ, List.getElem_cons_zero, List.setIfInBounds_toArray, List.set_cons_zero, List.set_cons_succ]
  refine wpAnyG_take (oi := _) (v := _) (fun _ _ hS_ hb_ => ⟨hS_.1.gr hb_, hS_.2.gr hb_⟩) (i := 28) rfl (by kernel_rfl) (fun _ _ _ h => h) (skipG (by rfl)) ?_
  try simp only [Act.put, List.getElem_toArray, List.getElem_cons_succ, List.getElem_cons_zero, List.setIfInBounds_toArray, List.set_cons_zero, List.set_cons_succ]
  refine wpAnyG_take (oi := _) (v := _) (fun _ _ hS_ hb_ => ⟨hS_.1.gr hb_, hS_.2.gr hb_⟩) (i := 29) rfl (by kernel_rfl) (fun _ _ _ h => h) (skipG (by rfl)) ?_
  try simp only [Act.put, List.getElem_toArray, List.getElem_cons_succ, List.getElem_cons_zero, List.setIfInBounds_toArray, List.set_cons_zero, List.set_cons_succ]
  refine wpAnyG_take (oi := _) (v := _) (fun _ _ hS_ hb_ => ⟨hS_.1.gr hb_, hS_.2.gr hb_⟩) (i := 30) rfl (by kernel_rfl) (fun _ _ _ h => h) (skipG (by rfl)) ?_
  try simp only [Act.put, List.getElem_toArray, List.getElem_cons_succ, List.getElem_cons_zero, List.setIfInBounds_toArray, List.set_cons_zero, List.set_cons_succ]
  refine wpAnyG_take (oi := _) (v := _) (fun _ _ hS_ hb_ => ⟨hS_.1.gr hb_, hS_.2.gr hb_⟩) (i := 31) rfl (by kernel_rfl) (fun _ _ _ h => h) (pureG (by rfl) (by intro w; go_simp; first | done | with_reducible rfl)) ?_
  try simp only [Act.put, List.getElem_toArray, List.getElem_cons_succ, List.getElem_cons_zero, List.setIfInBounds_toArray, List.set_cons_zero, List.set_cons_succ]
  refine wpAnyG_take (oi := _) (v := _) (fun _ _ hS_ hb_ => ⟨hS_.1.gr hb_, hS_.2.gr hb_⟩) (i := 32) rfl (by kernel_rfl) (fun _ _ _ h => h) (pureG (by rfl) (by intro w; go_simp; first | done | with_reducible rfl)) ?_
  try simp only [Act.put, List.getElem_toArray, List.getElem_cons_succ, List.getElem_cons_zero, List.setIfInBounds_toArray, List.set_cons_zero, List.set_cons_succ]
  refine wpAnyG_done (by kernel_rfl) ?_ _
  intro w101 hgw101
  try simp only [Act.put, List.getElem_toArray, List.getElem_cons_succ, List.getElem_cons_zero, List.setIfInBounds_toArray, List.set_cons_zero, List.set_cons_succ]
  have E102 := Lib.hid (C93.out.drew.gr hgw101)
  clear C93
  have E103 := Lib.hid (C94.out.drew.gr hgw101)
  clear C94
  have E104 := Lib.hid (C95.out.drew.gr hgw101)
  clear C95
  have E105 := Lib.hid (C96.out.drew.gr hgw101)
  clear C96
  have E106 := Lib.hid (C97.out.drew.gr hgw101)
  clear C97
  have E107 := Lib.hid (C98.out.drew.gr hgw101)
  clear C98
  have E108 := Lib.hid (C99.out.drew.gr hgw101)
  clear C99
  have hbel109 := hbel100.drew.trans (Below.mono hgw101 hbel100.drew.size)
  clear hbel100
  clear hgw101
  as_aux_lemma =>
  go_wp2_with (first | (refine wpList_build_is rfl 23 _ rfl (iv zerI).toArray built0 ?_) | (refine stB rfl 23 (.tmp 19) (.tmp 95) rfl w101.heap.size rfl (iv zerI) rfl 23 (iv zerI) (Blk.new w101 23 (iv zerI)) (i23 zerI_length) (lenEq (show (iv zerI).length = 256 by rw [iv_length, zerI_length]) (show (iv zerI).length = 256 by rw [iv_length, zerI_length])) (iv_one _) ?_; generalize hW : World.setRow _ _ _ = w110; obtain ⟨hgw110, hnw110⟩ := newfacts hW; clear hW; have C113 := Lib.hid (E102.out.gr hgw110); clear E102; have C114 := Lib.hid (E103.out.gr hgw110); clear E103; have C115 := Lib.hid (E104.out.gr hgw110); clear E104; have C116 := Lib.hid (E105.out.gr hgw110); clear E105; have C117 := Lib.hid (E106.out.gr hgw110); clear E106; have C118 := Lib.hid (E107.out.gr hgw110); clear E107; have C119 := Lib.hid (E108.out.gr hgw110); clear E108; have hbel120 := hbel109.trans (Below.mono hgw110 hbel109.size); clear hbel109; have D112 := Lib.hid hnw110; have szw110 := hgw110.size; clear hnw110 hgw110 szw110; generalize w101.heap.size = G111 at *) | (refine ldwM 23 (.tmp 6) rfl G10 0 rfl (iv zerI) _ (blk_all (C115.out)) Try.underlying23 rfl (i23 zerI_length) 17 true rfl 113 rfl rfl ?_) | (refine ldwM 23 (.tmp 19) rfl G111 0 rfl (iv zerI) _ (blk_all (D112.out)) Try.underlying23 rfl (i23 zerI_length) 17 true rfl 113 rfl rfl ?_) | (refine ldwM 23 (.tmp 8) rfl G21 0 rfl (iv zerI) _ (blk_all (C116.out)) Try.underlying23 rfl (i23 zerI_length) 22 true rfl 118 rfl rfl ?_) | (refine ldwM 23 (.tmp 19) rfl G111 0 rfl (iv zerI) _ (blk_all (D112.out)) Try.underlying23 rfl (i23 zerI_length) 22 true rfl 118 rfl rfl ?_) | (refine ldwM 23 (.tmp 10) rfl G34 0 rfl (iv zerI) _ (blk_all (C117.out)) Try.underlying23 rfl (i23 zerI_length) 27 true rfl 123 rfl rfl ?_) | (refine ldwM 23 (.tmp 19) rfl G111 0 rfl (iv zerI) _ (blk_all (D112.out)) Try.underlying23 rfl (i23 zerI_length) 27 true rfl 123 rfl rfl ?_) | (refine ldwM 23 (.tmp 12) rfl G49 0 rfl (iv zerI) _ (blk_all (C118.out)) Try.underlying23 rfl (i23 zerI_length) 32 true rfl 128 rfl rfl ?_) | (refine ldwM 23 (.tmp 19) rfl G111 0 rfl (iv zerI) _ (blk_all (D112.out)) Try.underlying23 rfl (i23 zerI_length) 32 true rfl 128 rfl rfl ?_))
  go_ret
  exact ⟨rfl, hbel120⟩
set_option maxRecDepth 100000 in
set_option maxHeartbeats 6400000 in
theorem sums_C (a b : List Int) (ha : IsP a) (hb : IsP b) (hno : pln a = false) (w : World) : Calls Try.prog 3 #[.agg (iv a).toArray, .agg (iv b).toArray] w fun e w' => e = .returned (.bool true) ∧ Below w.heap.size w w' := by
  have HA := Lib.hid awake_any
  have hn := pln_two1 b hno
  have H9 := Lib.hid (Add_f a b ha hb hn)
  have H10 := Lib.hid (Sub_f a b ha hb hn)
  have H11 := Lib.hid (Mul_f a b ha hb hn)
  have H12 := Lib.hid (Times_f a b ha hb hn)
  have H13 := Lib.hid (Norm_f a ha (pln_one hno))
  have H14 := Lib.hid (Reduce_any a ha)
  have H16 := Lib.hid (dReduce_any a ha)
  have HPA := Lib.hid (dPlain_any a ha.1)
  have HPB := Lib.hid (dPlain_any b hb.1)
  rw [hno] at HPA
  have L_a := Lib.hid ha.1
  have L_b := Lib.hid hb.1
  have L_rl := Lib.hid (PL_length (rdF a))
  clear hn hno hb ha
  generalize PL (rdF a) = rl at *
  generalize pln b = pb at *
  have z23 := zero23
  have heq := fun w => eqin23 zerI zerI zerI_length zerI_length w
  have B0_ := Lib.hid ((Blk.new w  23 (iv a)).alloc (.cells (iv b).toArray 23))
  have B1_ := Lib.hid (Blk.new2 w (.cells (iv a).toArray 23) 23 (iv b))
  have bel_ := (((Below.refl w.heap.size w).alloc (Nat.le_refl _) (.cells (iv a).toArray 23)).alloc (by simp) (.cells (iv b).toArray 23))
  go_enter Try.func3, Try.ntmps3
  go_wp2_with fail
  refine (HA.out _).mono ?_
  rintro e w1 ⟨rfl, hbw1⟩
  have C2 := Lib.hid (B0_.out.gr hbw1)
  clear B0_
  have C3 := Lib.hid (B1_.out.gr hbw1)
  clear B1_
  have hbel4 := bel_.trans (Below.mono hbw1 bel_.size)
  clear bel_
  clear hbw1
  go_wp2_with (first | (refine wpList_load_mid rfl 23 (.tmp 2) rfl w.heap.size 0 rfl (iv a) _ (blk_all (C2.out)) Try.underlying23 rfl (i23 L_a.out) ?_) | (refine wpList_load_mid rfl 23 (.tmp 3) rfl (w.heap.size + 1) 0 rfl (iv b) _ (blk_all (C3.out)) Try.underlying23 rfl (i23 L_b.out) ?_))
  refine (H9.out _).mono ?_
  rintro e w5 ⟨rfl, hbw5⟩
  have C6 := Lib.hid (C2.out.gr hbw5)
  clear C2
  have C7 := Lib.hid (C3.out.gr hbw5)
  clear C3
  have hbel8 := hbel4.trans (Below.mono hbw5 hbel4.size)
  clear hbel4
  clear hbw5
  go_wp2_with (first | (refine stB rfl 23 (.tmp 6) (.tmp 25) rfl w5.heap.size rfl (iv zerI) rfl 23 (iv zerI) (Blk.new w5 23 (iv zerI)) (i23 zerI_length) (lenEq (show (iv zerI).length = 256 by rw [iv_length, zerI_length]) (show (iv zerI).length = 256 by rw [iv_length, zerI_length])) (iv_one _) ?_; generalize hW : World.setRow _ _ _ = w9; obtain ⟨hgw9, hnw9⟩ := newfacts hW; clear hW; have C12 := Lib.hid (C6.out.gr hgw9); clear C6; have C13 := Lib.hid (C7.out.gr hgw9); clear C7; have hbel14 := hbel8.trans (Below.mono hgw9 hbel8.size); clear hbel8; have D11 := Lib.hid hnw9; have szw9 := hgw9.size; clear hnw9 hgw9 szw9; generalize w5.heap.size = G10 at *) | (refine wpList_load_mid rfl 23 (.tmp 2) rfl w.heap.size 0 rfl (iv a) _ (blk_all (C12.out)) Try.underlying23 rfl (i23 L_a.out) ?_) | (refine wpList_load_mid rfl 23 (.tmp 3) rfl (w.heap.size + 1) 0 rfl (iv b) _ (blk_all (C13.out)) Try.underlying23 rfl (i23 L_b.out) ?_))
  refine (H10.out _).mono ?_
  rintro e w15 ⟨rfl, hbw15⟩
  have C16 := Lib.hid (C12.out.gr hbw15)
  clear C12
  have C17 := Lib.hid (C13.out.gr hbw15)
  clear C13
  have C18 := Lib.hid (D11.out.gr hbw15)
  clear D11
  have hbel19 := hbel14.trans (Below.mono hbw15 hbel14.size)
  clear hbel14
  clear hbw15
  go_wp2_with (first | (refine stB rfl 23 (.tmp 8) (.tmp 31) rfl w15.heap.size rfl (iv zerI) rfl 23 (iv zerI) (Blk.new w15 23 (iv zerI)) (i23 zerI_length) (lenEq (show (iv zerI).length = 256 by rw [iv_length, zerI_length]) (show (iv zerI).length = 256 by rw [iv_length, zerI_length])) (iv_one _) ?_; generalize hW : World.setRow _ _ _ = w20; obtain ⟨hgw20, hnw20⟩ := newfacts hW; clear hW; have C23 := Lib.hid (C16.out.gr hgw20); clear C16; have C24 := Lib.hid (C17.out.gr hgw20); clear C17; have C25 := Lib.hid (C18.out.gr hgw20); clear C18; have hbel26 := hbel19.trans (Below.mono hgw20 hbel19.size); clear hbel19; have D22 := Lib.hid hnw20; have szw20 := hgw20.size; clear hnw20 hgw20 szw20; generalize w15.heap.size = G21 at *) | (refine wpList_load_mid rfl 23 (.tmp 2) rfl w.heap.size 0 rfl (iv a) _ (blk_all (C23.out)) Try.underlying23 rfl (i23 L_a.out) ?_) | (refine wpList_load_mid rfl 23 (.tmp 3) rfl (w.heap.size + 1) 0 rfl (iv b) _ (blk_all (C24.out)) Try.underlying23 rfl (i23 L_b.out) ?_))
  refine (H11.out _).mono ?_
  rintro e w27 ⟨rfl, hbw27⟩
  have C28 := Lib.hid (C23.out.gr hbw27)
  clear C23
  have C29 := Lib.hid (C24.out.gr hbw27)
  clear C24
  have C30 := Lib.hid (C25.out.gr hbw27)
  clear C25
  have C31 := Lib.hid (D22.out.gr hbw27)
  clear D22
  have hbel32 := hbel26.trans (Below.mono hbw27 hbel26.size)
  clear hbel26
  clear hbw27
  go_wp2_with (first | (refine stB rfl 23 (.tmp 10) (.tmp 37) rfl w27.heap.size rfl (iv zerI) rfl 23 (iv zerI) (Blk.new w27 23 (iv zerI)) (i23 zerI_length) (lenEq (show (iv zerI).length = 256 by rw [iv_length, zerI_length]) (show (iv zerI).length = 256 by rw [iv_length, zerI_length])) (iv_one _) ?_; generalize hW : World.setRow _ _ _ = w33; obtain ⟨hgw33, hnw33⟩ := newfacts hW; clear hW; have C36 := Lib.hid (C28.out.gr hgw33); clear C28; have C37 := Lib.hid (C29.out.gr hgw33); clear C29; have C38 := Lib.hid (C30.out.gr hgw33); clear C30; have C39 := Lib.hid (C31.out.gr hgw33); clear C31; have hbel40 := hbel32.trans (Below.mono hgw33 hbel32.size); clear hbel32; have D35 := Lib.hid hnw33; have szw33 := hgw33.size; clear hnw33 hgw33 szw33; generalize w27.heap.size = G34 at *) | (refine wpList_load_mid rfl 23 (.tmp 2) rfl w.heap.size 0 rfl (iv a) _ (blk_all (C36.out)) Try.underlying23 rfl (i23 L_a.out) ?_) | (refine wpList_load_mid rfl 23 (.tmp 3) rfl (w.heap.size + 1) 0 rfl (iv b) _ (blk_all (C37.out)) Try.underlying23 rfl (i23 L_b.out) ?_))
  refine (H12.out _).mono ?_
  rintro e w41 ⟨rfl, hbw41⟩
  have C42 := Lib.hid (C36.out.gr hbw41)
  clear C36
  have C43 := Lib.hid (C37.out.gr hbw41)
  clear C37
  have C44 := Lib.hid (C38.out.gr hbw41)
  clear C38
  have C45 := Lib.hid (C39.out.gr hbw41)
  clear C39
  have C46 := Lib.hid (D35.out.gr hbw41)
  clear D35
  have hbel47 := hbel40.trans (Below.mono hbw41 hbel40.size)
  clear hbel40
  clear hbw41
  go_wp2_with (first | (refine stB rfl 23 (.tmp 12) (.tmp 43) rfl w41.heap.size rfl (iv zerI) rfl 23 (iv zerI) (Blk.new w41 23 (iv zerI)) (i23 zerI_length) (lenEq (show (iv zerI).length = 256 by rw [iv_length, zerI_length]) (show (iv zerI).length = 256 by rw [iv_length, zerI_length])) (iv_one _) ?_; generalize hW : World.setRow _ _ _ = w48; obtain ⟨hgw48, hnw48⟩ := newfacts hW; clear hW; have C51 := Lib.hid (C42.out.gr hgw48); clear C42; have C52 := Lib.hid (C43.out.gr hgw48); clear C43; have C53 := Lib.hid (C44.out.gr hgw48); clear C44; have C54 := Lib.hid (C45.out.gr hgw48); clear C45; have C55 := Lib.hid (C46.out.gr hgw48); clear C46; have hbel56 := hbel47.trans (Below.mono hgw48 hbel47.size); clear hbel47; have D50 := Lib.hid hnw48; have szw48 := hgw48.size; clear hnw48 hgw48 szw48; generalize w41.heap.size = G49 at *) | (refine wpList_load_mid rfl 23 (.tmp 2) rfl w.heap.size 0 rfl (iv a) _ (blk_all (C51.out)) Try.underlying23 rfl (i23 L_a.out) ?_))
  refine (H13.out _).mono ?_
  rintro e w57 ⟨rfl, hbw57⟩
  have C58 := Lib.hid (C51.out.gr hbw57)
  clear C51
  have C59 := Lib.hid (C52.out.gr hbw57)
  clear C52
  have C60 := Lib.hid (C53.out.gr hbw57)
  clear C53
  have C61 := Lib.hid (C54.out.gr hbw57)
  clear C54
  have C62 := Lib.hid (C55.out.gr hbw57)
  clear C55
  have C63 := Lib.hid (D50.out.gr hbw57)
  clear D50
  have hbel64 := hbel56.trans (Below.mono hbw57 hbel56.size)
  clear hbel56
  clear hbw57
  go_wp2_with (first | (refine wpList_load_mid rfl 23 (.tmp 2) rfl w.heap.size 0 rfl (iv a) _ (blk_all (C58.out)) Try.underlying23 rfl (i23 L_a.out) ?_))
  refine (H14.out _).mono ?_
  rintro e w65 ⟨rfl, hbw65⟩
  have C66 := Lib.hid (C58.out.gr hbw65)
  clear C58
  have C67 := Lib.hid (C59.out.gr hbw65)
  clear C59
  have C68 := Lib.hid (C60.out.gr hbw65)
  clear C60
  have C69 := Lib.hid (C61.out.gr hbw65)
  clear C61
  have C70 := Lib.hid (C62.out.gr hbw65)
  clear C62
  have C71 := Lib.hid (C63.out.gr hbw65)
  clear C63
  have hbel72 := hbel64.trans (Below.mono hbw65 hbel64.size)
  clear hbel64
  clear hbw65
  go_wp2_with (first | (refine stB rfl 23 (.tmp 16) (.tmp 51) rfl w65.heap.size rfl (iv rl) rfl 23 (iv zerI) (Blk.new w65 23 (iv zerI)) (i23 L_rl.out) (lenEq (show (iv zerI).length = 256 by rw [iv_length, zerI_length]) (show (iv rl).length = 256 by rw [iv_length, L_rl.out])) (iv_one _) ?_; generalize hW : World.setRow _ _ _ = w73; obtain ⟨hgw73, hnw73⟩ := newfacts hW; clear hW; have C76 := Lib.hid (C66.out.gr hgw73); clear C66; have C77 := Lib.hid (C67.out.gr hgw73); clear C67; have C78 := Lib.hid (C68.out.gr hgw73); clear C68; have C79 := Lib.hid (C69.out.gr hgw73); clear C69; have C80 := Lib.hid (C70.out.gr hgw73); clear C70; have C81 := Lib.hid (C71.out.gr hgw73); clear C71; have hbel82 := hbel72.trans (Below.mono hgw73 hbel72.size); clear hbel72; have D75 := Lib.hid hnw73; have szw73 := hgw73.size; clear hnw73 hgw73 szw73; generalize w65.heap.size = G74 at *) | (refine wpList_load_mid rfl 23 (.tmp 2) rfl w.heap.size 0 rfl (iv a) _ (blk_all (C76.out)) Try.underlying23 rfl (i23 L_a.out) ?_))
  refine (HPA.out _).mono ?_
  rintro e w83 ⟨rfl, hbw83⟩
  have C84 := Lib.hid (C76.out.gr hbw83)
  clear C76
  have C85 := Lib.hid (C77.out.gr hbw83)
  clear C77
  have C86 := Lib.hid (C78.out.gr hbw83)
  clear C78
  have C87 := Lib.hid (C79.out.gr hbw83)
  clear C79
  have C88 := Lib.hid (C80.out.gr hbw83)
  clear C80
  have C89 := Lib.hid (C81.out.gr hbw83)
  clear C81
  have C90 := Lib.hid (D75.out.gr hbw83)
  clear D75
  have hbel91 := hbel82.trans (Below.mono hbw83 hbel82.size)
  clear hbel82
  clear hbw83
  go_wp2_with (first | (refine wpList_load_mid rfl 23 (.tmp 3) rfl (w.heap.size + 1) 0 rfl (iv b) _ (blk_all (C85.out)) Try.underlying23 rfl (i23 L_b.out) ?_))
  refine (HPB.out _).mono ?_
  rintro e w92 ⟨rfl, hbw92⟩
  have C93 := Lib.hid (C84.out.gr hbw92)
  clear C84
  have C94 := Lib.hid (C85.out.gr hbw92)
  clear C85
  have C95 := Lib.hid (C86.out.gr hbw92)
  clear C86
  have C96 := Lib.hid (C87.out.gr hbw92)
  clear C87
  have C97 := Lib.hid (C88.out.gr hbw92)
  clear C88
  have C98 := Lib.hid (C89.out.gr hbw92)
  clear C89
  have C99 := Lib.hid (C90.out.gr hbw92)
  clear C90
  have hbel100 := hbel91.trans (Below.mono hbw92 hbel91.size)
  clear hbel91
  clear hbw92
  go_wp2_with fail
  as_aux_lemma =>
  refine wp_region_G (fun w_ => Blk w_ G74 23 (iv rl) ∧ Blk w_ w.heap.size 23 (iv a)) 33 (by kernel_rfl) ⟨C99.out.drew, C93.out.drew⟩ ?_
  refine wpAnyG_take (oi := _) (v := _) (fun _ _ hS_ hb_ => ⟨hS_.1.gr hb_, hS_.2.gr hb_⟩) (i := 0) rfl (by kernel_rfl) (fun _ _ _ h => h) (pureG (by rfl) (by intro w; go_simp; first | done | with_reducible rfl)) ?_
  try simp only [Act.put, List.getElem_toArray, List.getElem_cons_succ, List.getElem_cons_zero, List.setIfInBounds_toArray, List.set_cons_zero, List.set_cons_succ]
  refine wpAnyG_take (oi := _) (v := _) (fun _ _ hS_ hb_ => ⟨hS_.1.gr hb_, hS_.2.gr hb_⟩) (i := 1) rfl (by kernel_rfl) (fun _ _ _ h => h) (pureG (by rfl) (by intro w; go_simp; first | done | with_reducible rfl)) ?_
  try simp only [Act.put, List.getElem_toArray, List.getElem_cons_succ, List.getElem_cons_zero, List.setIfInBounds_toArray, List.set_cons_zero, List.set_cons_succ]
  refine wpAnyG_take (oi := _) (v := _) (fun _ _ hS_ hb_ => ⟨hS_.1.gr hb_, hS_.2.gr hb_⟩) (i := 2) rfl (by kernel_rfl) (fun _ _ _ h => h) (pureG (by rfl) (by intro w; go_simp; first | done | with_reducible rfl)) ?_
  try simp only [Act.put, List.getElem_toArray, List.getElem_cons_succ, List.getElem_cons_zero, List.setIfInBounds_toArray, List.set_cons_zero, List.set_cons_succ]
  refine wpAnyG_take (oi := _) (v := _) (fun _ _ hS_ hb_ => ⟨hS_.1.gr hb_, hS_.2.gr hb_⟩) (i := 3) rfl (by kernel_rfl) (fun _ _ _ h => h) (loadG (by rfl) _ _ rfl _ _ rfl (iv rl) _ (fun _ hS_ => blk_all (hS_.1)) Try.underlying23 rfl (i23 L_rl.out)) ?_
  try simp only [Act.put, List.getElem_toArray, List.getElem_cons_succ, List.getElem_cons_zero, List.setIfInBounds_toArray, List.set_cons_zero, List.set_cons_succ]
  refine wpAnyG_take (oi := _) (v := _) (fun _ _ hS_ hb_ => ⟨hS_.1.gr hb_, hS_.2.gr hb_⟩) (i := 4) rfl (by kernel_rfl) (fun _ _ _ h => h) (loadG (by rfl) _ _ rfl _ _ rfl (iv a) _ (fun _ hS_ => blk_all (hS_.2)) Try.underlying23 rfl (i23 L_a.out)) ?_
  try simp only [Act.put, List.getElem_toArray, List.getElem_cons_succ, List.getElem_cons_zero, List.setIfInBounds_toArray, List.set_cons_zero, List.set_cons_succ]
  refine wpAnyG_take (oi := _) (v := _) (fun _ _ hS_ hb_ => ⟨hS_.1.gr hb_, hS_.2.gr hb_⟩) (i := 5) rfl (by kernel_rfl) (fun _ _ _ h => h) (callG (by rfl) rfl Try.func16 (by kernel_rfl) (by kernel_rfl) (#[.agg (iv a).toArray]) (by simp [Act.eval]) (fun W_ _ => H16.out W_)) ?_
  try simp only [Act.put, List.getElem_toArray, List.getElem_cons_succ, List.getElem_cons_zero, List.setIfInBounds_toArray, List.set_cons_zero, List.set_cons_succ]
  refine wpAnyG_take (oi := _) (v := _) (fun _ _ hS_ hb_ => ⟨hS_.1.gr hb_, hS_.2.gr hb_⟩) (i := 6) rfl (by kernel_rfl) (fun _ _ _ h => h) (pureG (by rfl) (by intro w; have q := eqin23 rl rl L_rl.out L_rl.out w; go_simp; first | done | with_reducible rfl)) ?_
  try simp only [Act.put, List.getElem_toArray, List.getElem_cons_succ, List.getElem_cons_zero, List.setIfInBounds_toArray, List.set_cons_zero, List.set_cons_succ]
  refine wpAnyG_take (oi := _) (v := _) (fun _ _ hS_ hb_ => ⟨hS_.1.gr hb_, hS_.2.gr hb_⟩) (i := 7) rfl (by kernel_rfl) (fun _ _ _ h => h) (pureG (by rfl) (by intro w; go_simp; first | done | with_reducible rfl)) ?_
  try simp only [Act.put, List.getElem_toArray, List.getElem_cons_succ, List.getElem_cons_zero, List.setIfInBounds_toArray, List.set_cons_zero, List.set_cons_succ]
  refine wpAnyG_take (oi := _) (v := _) (fun _ _ hS_ hb_ => ⟨hS_.1.gr hb_, hS_.2.gr hb_⟩) (i := 8) rfl (by kernel_rfl) (fun _ _ _ h => h) (pureG (by rfl) (by intro w; go_simp; first | done | with_reducible rfl)) ?_
  try simp only [Act.put, List.getElem_toArray, List.getElem_cons_succ, List.getElem_cons_zero, List.setIfInBounds_toArray, List.set_cons_zero, List.set_cons_succ]
  refine wpAnyG_take (oi := _) (v := _) (fun _ _ hS_ hb_ => ⟨hS_.1.gr hb_, hS_.2.gr hb_⟩) (i := 9) rfl (by kernel_rfl) (fun _ _ _ h => h) (pureG (by rfl) (by intro w; go_simp; first | done | with_reducible rfl)) ?_
  try simp only [Act.put, List.getElem_toArray, List.getElem_cons_succ, List.getElem_cons_zero, List.setIfInBounds_toArray, List.set_cons_zero, List.set_cons_succ]
  refine wpAnyG_take (oi := _) (v := _) (fun _ _ hS_ hb_ => ⟨hS_.1.gr hb_, hS_.2.gr hb_⟩) (i := 10) rfl (by kernel_rfl) (fun _ _ _ h => h) (pureG (by rfl) (by intro w; go_simp; first | done | with_reducible rfl)) ?_
  try simp only [Act.put, List.getElem_toArray, List.getElem_cons_succ, List.getElem_cons_zero, List.setIfInBounds_toArray, List.set_cons_zero, List.set_cons_succ]
  refine wpAnyG_take (oi := _) (v := _) (fun _ _ hS_ hb_ => ⟨hS_.1.gr hb_, hS_.2.gr hb_⟩) (i := 11) rfl (by kernel_rfl) (fun _ _ _ h => h) (skipG (by rfl)) ?_
  try simp only [Act.put, List.getElem_toArray, List.getElem_cons_succ, List.getElem_cons_zero, List.setIfInBounds_toArray, List.set_cons_zero, List.set_cons_succ]
  refine wpAnyG_take (oi := _) (v := _) (fun _ _ hS_ hb_ => ⟨hS_.1.gr hb_, hS_.2.gr hb_⟩) (i := 12) rfl (by kernel_rfl) (fun _ _ _ h => h) (skipG (by rfl)) ?_
  try simp only [Act.put, List.getElem_toArray, List.getElem_cons_succ, List.getElem_cons_zero, List.setIfInBounds_toArray, List.set_cons_zero, List.set_cons_succ]
  refine wpAnyG_take (oi := _) (v := _) (fun _ _ hS_ hb_ => ⟨hS_.1.gr hb_, hS_.2.gr hb_⟩) (i := 13) rfl (by kernel_rfl) (fun _ _ _ h => h) (skipG (by rfl)) ?_
  try simp only [Act.put, List.getElem_toArray, List.getElem_cons_succ, List.getElem_cons_zero, List.setIfInBounds_toArray, List.set_cons_zero, List.set_cons_succ]
  refine wpAnyG_take (oi := _) (v := _) (fun _ _ hS_ hb_ => ⟨hS_.1.gr hb_, hS_.2.gr hb_⟩) (i := 14) rfl (by kernel_rfl) (fun _ _ _ h => h) (skipG (by rfl)) ?_
  try simp only [Act.put, List.getElem_toArray, List.getElem_cons_succ, List.getElem_cons_zero, List.setIfInBounds_toArray, List.set_cons_zero, List.set_cons_succ]
  refine wpAnyG_take (oi := _) (v := _) (fun _ _ hS_ hb_ => ⟨hS_.1.gr hb_, hS_.2.gr hb_⟩) (i := 15) rfl (by kernel_rfl) (fun _ _ _ h => h) (skipG (by rfl)) ?_
  try simp only [Act.put, List.getElem_toArray, List.getElem_cons_succ, List.getElem_cons_zero, List.setIfInBounds_toArray, List.set_cons_zero, List.set_cons_succ]
  refine wpAnyG_take (oi := _) (v := _) (fun _ _ hS_ hb_ => ⟨hS_.1.gr hb_, hS_.2.gr hb_⟩) (i := 16) rfl (by kernel_rfl) (fun _ _ _ h => h) (skipG (by rfl)) ?_
  try simp only [Act.put, List.getElem_toArray, List.getElem_cons_succ, List.getElem_cons_zero, List.setIfInBounds_toArray, List.set_cons_zero, List.set_cons_succ]
  refine wpAnyG_take (oi := _) (v := _) (fun _ _ hS_ hb_ => ⟨hS_.1.gr hb_, hS_.2.gr hb_⟩) (i := 17) rfl (by kernel_rfl) (fun _ _ _ h => h) (skipG (by rfl)) ?_
  try simp only [Act.put, List.getElem_toArray, List.getElem_cons_succ, List.getElem_cons_zero, List.setIfInBounds_toArray, List.set_cons_zero, List.set_cons_succ]
  refine wpAnyG_take (oi := _) (v := _) (fun _ _ hS_ hb_ => ⟨hS_.1.gr hb_, hS_.2.gr hb_⟩) (i := 18) rfl (by kernel_rfl) (fun _ _ _ h => h) (skipG (by rfl)) ?_
  try simp only [Act.put, List.getElem_toArray, List.getElem_cons_succ, List.getElem_cons_zero, List.setIfInBounds_toArray, List.set_cons_zero, List.set_cons_succ]
  refine wpAnyG_take (oi := _) (v := _) (fun _ _ hS_ hb_ => ⟨hS_.1.gr hb_, hS_.2.gr hb_⟩) (i := 19) rfl (by kernel_rfl) (fun _ _ _ h => h) (pureG (by rfl) (by intro w; go_simp; first | done | with_reducible rfl)) ?_
  try simp only [Act.put, List.getElem_toArray, List.getElem_cons_succ, List.getElem_cons_zero, List.setIfInBounds_toArray, List.set_cons_zero, List.set_cons_succ]
  refine wpAnyG_take (oi := _) (v := _) (fun _ _ hS_ hb_ => ⟨hS_.1.gr hb_, hS_.2.gr hb_⟩) (i := 20) rfl (by kernel_rfl) (fun _ _ _ h => h) (pureG (by rfl) (by intro w; go_simp; first | done | with_reducible rfl)) ?_
  try simp only [Act.put, List.getElem_toArray, List.getElem_cons_succ, List.getElem_cons_zero, List.setIfInBounds_toArray, List.set_cons_zero, List.set_cons_succ]
  refine wpAnyG_take (oi := _) (v := _) (fun _ _ hS_ hb_ => ⟨hS_.1.gr hb_, hS_.2.gr hb_⟩) (i := 21) rfl (by kernel_rfl) (fun _ _ _ h => h) (pureG (by rfl) (by intro w; go_simp; first | done | with_reducible rfl)) ?_
  try simp only [Act.put, List.getElem_toArray, List.getElem_cons_succ, List.getElem_cons_zero, List.setIfInBounds_toArray, List.set_cons_zero, List.set_cons_succ]
  refine wpAnyG_take (oi := _) (v := _) (fun _ _ hS_ hb_ => ⟨hS_.1.gr hb_, hS_.2.gr hb_⟩) (i := 22) rfl (by kernel_rfl) (fun _ _ _ h => h) (pureG (by rfl) (by intro w; go_simp; first | done | with_reducible rfl)) ?_
  try simp only [Act.put, List.getElem_toArray, List.getElem_cons_succ, List.getElem_cons_zero, List.setIfInBounds_toArray, List.set_cons_zero, List.set_cons_succ]
  refine wpAnyG_take (oi := _) (v := _) (fun _ _ hS_ hb_ => ⟨hS_.1.gr hb_, hS_.2.gr hb_⟩) (i := 23) rfl (by kernel_rfl) (fun _ _ _ h => h) (pureG (by rfl) (by intro w; go_simp; first | done | with_reducible rfl)) ?_
  try simp only [Act.put, List.getElem_toArray, List.getElem_cons_succ, List.getElem_cons_zero, List.setIfInBounds_toArray, List.set_cons_zero, List.set_cons_succ]
  refine wpAnyG_take (oi := _) (v := _) (fun _ _ hS_ hb_ => ⟨hS_.1.gr hb_, hS_.2.gr hb_⟩) (i := 24) rfl (by kernel_rfl) (fun _ _ _ h => h) (pureG (by rfl) (by intro w; go_simp; first | done | with_reducible rfl)) ?_
  try simp only [Act.put, List.getElem_toArray, List.getElem_cons_succ, List.getElem_cons_zero, List.setIfInBounds_toArray, List.set_cons_zero, List.set_cons_succ]
  refine wpAnyG_take (oi := _) (v := _) (fun _ _ hS_ hb_ => ⟨hS_.1.gr hb_, hS_.2.gr hb_⟩) (i := 25) rfl (by kernel_rfl) (fun _ _ _ h => h) (pureG (by rfl) (by intro w; go_simp; first | done | with_reducible rfl)) ?_
  try simp only [Act.put, List.getElem_toArray, List.getElem_cons_succ, List.getElem_cons_zero, List.setIfInBounds_toArray, List.set_cons_zero, List.set_cons_succ]
  refine wpAnyG_take (oi := _) (v := _) (fun _ _ hS_ hb_ => ⟨hS_.1.gr hb_, hS_.2.gr hb_⟩) (i := 26) rfl (by kernel_rfl) (fun _ _ _ h => h) (pureG (by rfl) (by intro w; go_simp; first | done | with_reducible rfl)) ?_
  try simp only [Act.put, List.getElem_toArray, List.getElem_cons_succ, List.getElem_cons_zero, List.setIfInBounds_toArray, List.set_cons_zero, List.set_cons_succ]
  refine wpAnyG_take (oi := _) (v := _) (fun _ _ hS_ hb_ => ⟨hS_.1.gr hb_, hS_.2.gr hb_⟩) (i := 27) rfl (by kernel_rfl) (fun _ _ _ h => h) (pureG (by rfl) (by intro w; go_simp; first | done | with_reducible rfl)) ?_
  try simp only [Act.put, List.getElem_toArray, List.getElem_cons_succ, List.getElem_cons_zero, List.setIfInBounds_toArray, List.set_cons_zero, List.set_cons_succ]
  refine wpAnyG_take (oi := _) (v := _) (fun _ _ hS_ hb_ => ⟨hS_.1.gr hb_, hS_.2.gr hb_⟩) (i := 28) rfl (by kernel_rfl) (fun _ _ _ h => h) (pureG (by rfl) (by intro w; go_simp; first | done | with_reducible rfl)) ?_
  try simp only [Act.put, List.getElem_toArray, List.getElem_cons_succ, List.getElem_cons_zero, List.setIfInBounds_toArray, List.set_cons_zero, List.set_cons_succ]
  refine wpAnyG_take (oi := _) (v := _) (fun _ _ hS_ hb_ => ⟨hS_.1.gr hb_, hS_.2.gr hb_⟩) (i := 29) rfl (by kernel_rfl) (fun _ _ _ h => h) (pureG (by rfl) (by intro w; go_simp; first | done | with_reducible rfl)) ?_
  try simp only [Act.put, List.getElem_toArray, List.getElem_cons_succ, List.getElem_cons_zero, List.setIfInBounds_toArray, List.set_cons_zero, List.set_cons_succ]
  refine wpAnyG_take (oi := _) (v := _) (fun _ _ hS_ hb_ => ⟨hS_.1.gr hb_, hS_.2.gr hb_⟩) (i := 30) rfl (by kernel_rfl) (fun _ _ _ h => h) (pureG (by rfl) (by intro w; go_simp; first | done | with_reducible rfl)) ?_
  try simp only [Act.put, List.getElem_toArray, List.getElem_cons_succ, List.getElem_cons_zero, List.setIfInBounds_toArray, List.set_cons_zero, List.set_cons_succ]
  refine wpAnyG_take (oi := _) (v := _) (fun _ _ hS_ hb_ => ⟨hS_.1.gr hb_, hS_.2.gr hb_⟩) (i := 31) rfl (by kernel_rfl) (fun _ _ _ h => h) (pureG (by rfl) (by intro w; go_simp; first | done | with_reducible rfl)) ?_
  try simp only [Act.put, List.getElem_toArray, List.getElem_cons_succ, List.getElem_cons_zero, List.setIfInBounds_toArray, List.set_cons_zero, List.set_cons_succ]
  refine wpAnyG_take (oi := _) (v := _) (fun _ _ hS_ hb_ => ⟨hS_.1.gr hb_, hS_.2.gr hb_⟩) (i := 32) rfl (by kernel_rfl) (fun _ _ _ h => h) (pureG (by rfl) (by intro w; go_simp; first | done | with_reducible rfl)) ?_
  try simp only [Act.put, List.getElem_toArray, List.getElem_cons_succ, List.getElem_cons_zero, List.setIfInBounds_toArray, List.set_cons_zero, List.set_cons_succ]
  refine wpAnyG_done (by kernel_rfl) ?_ _
  intro w101 hgw101
  try simp only [Act.put, List.getElem_toArray, List.getElem_cons_succ, List.getElem_cons_zero, List.setIfInBounds_toArray, List.set_cons_zero, List.set_cons_succ]
  have E102 := Lib.hid (C93.out.drew.gr hgw101)
  clear C93
  have E103 := Lib.hid (C94.out.drew.gr hgw101)
  clear C94
  have E104 := Lib.hid (C95.out.drew.gr hgw101)
  clear C95
  have E105 := Lib.hid (C96.out.drew.gr hgw101)
  clear C96
  have E106 := Lib.hid (C97.out.drew.gr hgw101)
  clear C97
  have E107 := Lib.hid (C98.out.drew.gr hgw101)
  clear C98
  have E108 := Lib.hid (C99.out.drew.gr hgw101)
  clear C99
  have hbel109 := hbel100.drew.trans (Below.mono hgw101 hbel100.drew.size)
  clear hbel100
  clear hgw101
  as_aux_lemma =>
  go_wp2_with (first | (refine wpList_build_is rfl 23 _ rfl (iv zerI).toArray built0 ?_) | (refine stB rfl 23 (.tmp 19) (.tmp 95) rfl w101.heap.size rfl (iv zerI) rfl 23 (iv zerI) (Blk.new w101 23 (iv zerI)) (i23 zerI_length) (lenEq (show (iv zerI).length = 256 by rw [iv_length, zerI_length]) (show (iv zerI).length = 256 by rw [iv_length, zerI_length])) (iv_one _) ?_; generalize hW : World.setRow _ _ _ = w110; obtain ⟨hgw110, hnw110⟩ := newfacts hW; clear hW; have C113 := Lib.hid (E102.out.gr hgw110); clear E102; have C114 := Lib.hid (E103.out.gr hgw110); clear E103; have C115 := Lib.hid (E104.out.gr hgw110); clear E104; have C116 := Lib.hid (E105.out.gr hgw110); clear E105; have C117 := Lib.hid (E106.out.gr hgw110); clear E106; have C118 := Lib.hid (E107.out.gr hgw110); clear E107; have C119 := Lib.hid (E108.out.gr hgw110); clear E108; have hbel120 := hbel109.trans (Below.mono hgw110 hbel109.size); clear hbel109; have D112 := Lib.hid hnw110; have szw110 := hgw110.size; clear hnw110 hgw110 szw110; generalize w101.heap.size = G111 at *) | (refine ldwM 23 (.tmp 6) rfl G10 0 rfl (iv zerI) _ (blk_all (C115.out)) Try.underlying23 rfl (i23 zerI_length) 17 true rfl 113 rfl rfl ?_) | (refine ldwM 23 (.tmp 19) rfl G111 0 rfl (iv zerI) _ (blk_all (D112.out)) Try.underlying23 rfl (i23 zerI_length) 17 true rfl 113 rfl rfl ?_) | (refine ldwM 23 (.tmp 8) rfl G21 0 rfl (iv zerI) _ (blk_all (C116.out)) Try.underlying23 rfl (i23 zerI_length) 22 true rfl 118 rfl rfl ?_) | (refine ldwM 23 (.tmp 19) rfl G111 0 rfl (iv zerI) _ (blk_all (D112.out)) Try.underlying23 rfl (i23 zerI_length) 22 true rfl 118 rfl rfl ?_) | (refine ldwM 23 (.tmp 10) rfl G34 0 rfl (iv zerI) _ (blk_all (C117.out)) Try.underlying23 rfl (i23 zerI_length) 27 true rfl 123 rfl rfl ?_) | (refine ldwM 23 (.tmp 19) rfl G111 0 rfl (iv zerI) _ (blk_all (D112.out)) Try.underlying23 rfl (i23 zerI_length) 27 true rfl 123 rfl rfl ?_) | (refine ldwM 23 (.tmp 12) rfl G49 0 rfl (iv zerI) _ (blk_all (C118.out)) Try.underlying23 rfl (i23 zerI_length) 32 true rfl 128 rfl rfl ?_) | (refine ldwM 23 (.tmp 19) rfl G111 0 rfl (iv zerI) _ (blk_all (D112.out)) Try.underlying23 rfl (i23 zerI_length) 32 true rfl 128 rfl rfl ?_))
  go_ret
  exact ⟨rfl, hbel120⟩
end Go.Proofs.Ytbhhpopckchibaa
