/- Products and quotients: a modulus that is 0, and the rest of a product. No condition but 256 bits. -/
import Derived.Test.YtfffmoolkgheaaaWp2
import Derived.Test.YtfffmoolkgheaaaWp4
import Derived.Test.YtfffmoolkgheaaaDr
import Derived.Test.YtfffmoolkgheaaaG1
namespace Go.Proofs.Ytfffmoolkgheaaa
open Go.RowKit
set_option linter.unusedVariables false
set_option linter.unusedSimpArgs false
theorem alloc26 (w : World) : (Instr.alloc 26 true (.tuple #[])).run Try.prog w = .ok (.pointer (some ⟨w.heap.size, 0, none⟩)) (w.alloc (.cells (natsV .u64 (zeros 8)).toArray 26)) := by go_simp; rfl
theorem neq26 (a b : List Nat) (ha : a.length = 8) (hb : b.length = 8) (w : World) : (binOp .neq 26 (.agg (natsV .u64 a).toArray) (.agg (natsV .u64 b).toArray)).run Try.prog w = .ok (.bool (!decide (a = b))) w := by
  cases hq : Try.prog.info? 22 with
  | none => have := info22; simp [hq] at this
  | some ti =>
    have hs : ti.size = 1 := by have := info22; simpa [hq] using this
    rw [run_neq_struct, run_equalIn_array w 9999 _ _ Try.underlying26 hq, cells23, eqItems_nats w 9998 22 .u64 Try.underlying22 (by rw [hq]; simp [hs]) a b (List.range 8) (fun i hi => by have := List.mem_range.1 hi; omega), items_eq a b 8 ha hb]
    rfl
set_option maxRecDepth 100000 in
set_option maxHeartbeats 1600000 in
theorem DivRem_zero {l8 : List Nat} (hl8 : l8.length = 8) (w : World) :
    Calls Try.prog 12 #[.agg (natsV .u64 l8).toArray, .agg (natsV .u64 (zeros 4)).toArray] w fun e w' => e = .returned (.tuple #[.agg (natsV .u64 (zeros 8)).toArray, .agg (natsV .u64 (zeros 4)).toArray, .int .i64 42]) ∧ Below w.heap.size w w' := by
  have L_l8 := Lib.hid hl8
  clear hl8
  have q := fun w => (eqZ24 (zeros 4) rfl w).trans (by rw [decide_eq_true rfl])
  have B0_ := Lib.hid ((((Blk.new w  26 (natsV .u64 l8)).alloc (.cells (natsV .u64 (zeros 4)).toArray 24)).alloc (.cells (natsV .u64 (zeros 8)).toArray 26)).alloc (.cells (natsV .u64 (zeros 4)).toArray 24))
  have B1_ := Lib.hid (((Blk.new2 w (.cells (natsV .u64 l8).toArray 26) 24 (natsV .u64 (zeros 4))).alloc (.cells (natsV .u64 (zeros 8)).toArray 26)).alloc (.cells (natsV .u64 (zeros 4)).toArray 24))
  have B2_ := Lib.hid ((Blk.new3 w (.cells (natsV .u64 l8).toArray 26) (.cells (natsV .u64 (zeros 4)).toArray 24) 26 (natsV .u64 (zeros 8))).alloc (.cells (natsV .u64 (zeros 4)).toArray 24))
  have B3_ := Lib.hid (Blk.new4 w (.cells (natsV .u64 l8).toArray 26) (.cells (natsV .u64 (zeros 4)).toArray 24) (.cells (natsV .u64 (zeros 8)).toArray 26) 24 (natsV .u64 (zeros 4)))
  have bel_ := (((((Below.refl w.heap.size w).alloc (Nat.le_refl _) (.cells (natsV .u64 l8).toArray 26)).alloc (by simp) (.cells (natsV .u64 (zeros 4)).toArray 24)).alloc (by simp; omega) (.cells (natsV .u64 (zeros 8)).toArray 26)).alloc (by simp; omega) (.cells (natsV .u64 (zeros 4)).toArray 24))
  go_enter Try.func12, Try.ntmps12
  go_wp2_with (first | (refine wpList_load_mid rfl 24 (.tmp 3) rfl (w.heap.size + 1) 0 rfl (natsV .u64 (zeros 4)) _ (blk_all (B1_.out)) Try.underlying24 rfl (i24 (show (zeros 4).length = 4 from rfl)) ?_) | (refine stB rfl 26 (.tmp 4) (.tmp 12) rfl (w.heap.size + 1 + 1) rfl (natsV .u64 (zeros 8)) rfl 26 (natsV .u64 (zeros 8)) B2_.out (i26 (show (zeros 8).length = 8 from rfl)) (lenEq (by rw [natsV_length, (show (zeros 8).length = 8 from rfl)]) (by rw [natsV_length, (show (zeros 8).length = 8 from rfl)])) (natsV_one _ _) ?_; generalize hW : World.setRow _ _ _ = w1; obtain ⟨hgw1, hnw1⟩ := setfacts hW B2_.out; clear hW; have E2 := Lib.hid (B0_.out.grown hgw1 (fun e => (show w.heap.size ≠ (w.heap.size + 1 + 1) by omega) (Option.some.inj e))); clear B0_; have E3 := Lib.hid (B1_.out.grown hgw1 (fun e => (show (w.heap.size + 1) ≠ (w.heap.size + 1 + 1) by omega) (Option.some.inj e))); clear B1_; have E4 := Lib.hid (B3_.out.grown hgw1 (fun e => (show (w.heap.size + 1 + 1 + 1) ≠ (w.heap.size + 1 + 1) by omega) (Option.some.inj e))); clear B3_; have D5 := Lib.hid hnw1; clear hnw1 B2_; have hbel6 := belStore bel_ hgw1 (show w.heap.size ≤ (w.heap.size + 1 + 1) by omega); clear hgw1; clear bel_) | (refine stB rfl 24 (.tmp 5) (.tmp 13) rfl (w.heap.size + 1 + 1 + 1) rfl (natsV .u64 (zeros 4)) rfl 24 (natsV .u64 (zeros 4)) E4.out (i24 (show (zeros 4).length = 4 from rfl)) (lenEq (show (natsV .u64 (zeros 4)).length = 4 from rfl) (by rw [natsV_length, (show (zeros 4).length = 4 from rfl)])) (natsV_one _ _) ?_))
  refine bodyPost_ret (v := .tuple #[.agg (natsV .u64 (zeros 8)).toArray, .agg (natsV .u64 (zeros 4)).toArray, .int .i64 42]) ?_ rfl ⟨rfl, below_setRow' hbel6 (by first | exact Nat.le_refl _ | omega) _⟩
  exact results_three Try.results12 _ _ (w.heap.size + 1 + 1) (w.heap.size + 1 + 1 + 1) 26 24 _ _ (0, 0) (0, 0) _ _ _ rfl rfl rfl (D5.out.row _ (show (w.heap.size + 1 + 1) ≠ (w.heap.size + 1 + 1 + 1) by omega)) (E4.out.setRow _) Try.underlying26 rfl (by simpa using (i26 (show (zeros 8).length = 8 from rfl))) Try.underlying24 rfl (by simpa using (i24 (show (zeros 4).length = 4 from rfl)))
set_option maxRecDepth 100000 in
set_option maxHeartbeats 1600000 in
theorem mulmod_w {ee : Int} {la lb lm l8 q8 lr : List Nat} (hla : la.length = 4) (hlb : lb.length = 4) (hlm : lm.length = 4) (hl8 : l8.length = 8) (hq8 : q8.length = 8) (hlr : lr.length = 4)
    (c1 : ∀ w, Calls Try.prog 11 #[.agg (natsV .u64 la).toArray, .agg (natsV .u64 lb).toArray] w fun e w' => e = .returned (.agg (natsV .u64 l8).toArray) ∧ Below w.heap.size w w')
    (c2 : ∀ w, Calls Try.prog 12 #[.agg (natsV .u64 l8).toArray, .agg (natsV .u64 lm).toArray] w fun e w' => e = .returned (.tuple #[.agg (natsV .u64 q8).toArray, .agg (natsV .u64 lr).toArray, .int .i64 ee]) ∧ Below w.heap.size w w') (w : World) :
    Calls Try.prog 13 #[.agg (natsV .u64 la).toArray, .agg (natsV .u64 lb).toArray, .agg (natsV .u64 lm).toArray] w fun e w' => e = .returned (.tuple #[.agg (natsV .u64 lr).toArray, .int .i64 ee]) ∧ Below w.heap.size w w' := by
  have L_la := Lib.hid hla
  clear hla
  have L_lb := Lib.hid hlb
  clear hlb
  have L_lm := Lib.hid hlm
  clear hlm
  have L_l8 := Lib.hid hl8
  clear hl8
  have L_q8 := Lib.hid hq8
  clear hq8
  have L_lr := Lib.hid hlr
  clear hlr
  have Hc1 := Lib.hid c1
  clear c1
  have Hc2 := Lib.hid c2
  clear c2
  have B0_ := Lib.hid ((((Blk.new w  24 (natsV .u64 la)).alloc (.cells (natsV .u64 lb).toArray 24)).alloc (.cells (natsV .u64 lm).toArray 24)).alloc (.cells (natsV .u64 (zeros 4)).toArray 24))
  have B1_ := Lib.hid (((Blk.new2 w (.cells (natsV .u64 la).toArray 24) 24 (natsV .u64 lb)).alloc (.cells (natsV .u64 lm).toArray 24)).alloc (.cells (natsV .u64 (zeros 4)).toArray 24))
  have B2_ := Lib.hid ((Blk.new3 w (.cells (natsV .u64 la).toArray 24) (.cells (natsV .u64 lb).toArray 24) 24 (natsV .u64 lm)).alloc (.cells (natsV .u64 (zeros 4)).toArray 24))
  have B3_ := Lib.hid (Blk.new4 w (.cells (natsV .u64 la).toArray 24) (.cells (natsV .u64 lb).toArray 24) (.cells (natsV .u64 lm).toArray 24) 24 (natsV .u64 (zeros 4)))
  have bel_ := (((((Below.refl w.heap.size w).alloc (Nat.le_refl _) (.cells (natsV .u64 la).toArray 24)).alloc (by simp) (.cells (natsV .u64 lb).toArray 24)).alloc (by simp; omega) (.cells (natsV .u64 lm).toArray 24)).alloc (by simp; omega) (.cells (natsV .u64 (zeros 4)).toArray 24))
  go_enter Try.func13, Try.ntmps13
  go_wp2_with fail
  as_aux_lemma =>
  refine wp_region_G (fun w_ => Blk w_ w.heap.size 24 (natsV .u64 la) ∧ Blk w_ (w.heap.size + 1) 24 (natsV .u64 lb) ∧ Blk w_ (w.heap.size + 1 + 1) 24 (natsV .u64 lm)) 14 (by kernel_rfl) ⟨B0_.out.drew, B1_.out.drew, B2_.out.drew⟩ ?_
  refine wpAnyG_take (oi := _) (v := _) (fun _ _ hS_ hb_ => ⟨hS_.1.gr hb_, hS_.2.1.gr hb_, hS_.2.2.gr hb_⟩) (i := 0) rfl (by kernel_rfl) (fun _ _ _ h => h) (loadG (by rfl) _ _ rfl _ _ rfl (natsV .u64 la) _ (fun _ hS_ => blk_all (hS_.1)) Try.underlying24 rfl (i24 L_la.out)) ?_
  try simp only [Act.put, List.getElem_toArray, List.getElem_cons_succ, List.getElem_cons_zero, List.setIfInBounds_toArray, List.set_cons_zero, List.set_cons_succ]
  refine wpAnyG_take (oi := _) (v := _) (fun _ _ hS_ hb_ => ⟨hS_.1.gr hb_, hS_.2.1.gr hb_, hS_.2.2.gr hb_⟩) (i := 1) rfl (by kernel_rfl) (fun _ _ _ h => h) (loadG (by rfl) _ _ rfl _ _ rfl (natsV .u64 lb) _ (fun _ hS_ => blk_all (hS_.2.1)) Try.underlying24 rfl (i24 L_lb.out)) ?_
  try simp only [Act.put, List.getElem_toArray, List.getElem_cons_succ, List.getElem_cons_zero, List.setIfInBounds_toArray, List.set_cons_zero, List.set_cons_succ]
  refine wpAnyG_take (oi := _) (v := _) (fun _ _ hS_ hb_ => ⟨hS_.1.gr hb_, hS_.2.1.gr hb_, hS_.2.2.gr hb_⟩) (i := 2) rfl (by kernel_rfl) (fun _ _ _ h => h) (callG (by rfl) rfl Try.func11 (by kernel_rfl) (by kernel_rfl) (#[.agg (natsV .u64 la).toArray, .agg (natsV .u64 lb).toArray]) (by simp [Act.eval]) (fun W_ _ => Hc1.out W_)) ?_
  try simp only [Act.put, List.getElem_toArray, List.getElem_cons_succ, List.getElem_cons_zero, List.setIfInBounds_toArray, List.set_cons_zero, List.set_cons_succ]
  refine wpAnyG_take (oi := _) (v := _) (fun _ _ hS_ hb_ => ⟨hS_.1.gr hb_, hS_.2.1.gr hb_, hS_.2.2.gr hb_⟩) (i := 3) rfl (by kernel_rfl) (fun _ _ _ h => h) (loadG (by rfl) _ _ rfl _ _ rfl (natsV .u64 lm) _ (fun _ hS_ => blk_all (hS_.2.2)) Try.underlying24 rfl (i24 L_lm.out)) ?_
  try simp only [Act.put, List.getElem_toArray, List.getElem_cons_succ, List.getElem_cons_zero, List.setIfInBounds_toArray, List.set_cons_zero, List.set_cons_succ]
  refine wpAnyG_take (oi := _) (v := _) (fun _ _ hS_ hb_ => ⟨hS_.1.gr hb_, hS_.2.1.gr hb_, hS_.2.2.gr hb_⟩) (i := 4) rfl (by kernel_rfl) (fun _ _ _ h => h) (callG (by rfl) rfl Try.func12 (by kernel_rfl) (by kernel_rfl) (#[.agg (natsV .u64 l8).toArray, .agg (natsV .u64 lm).toArray]) (by simp [Act.eval]) (fun W_ _ => Hc2.out W_)) ?_
  try simp only [Act.put, List.getElem_toArray, List.getElem_cons_succ, List.getElem_cons_zero, List.setIfInBounds_toArray, List.set_cons_zero, List.set_cons_succ]
  refine wpAnyG_take (oi := _) (v := _) (fun _ _ hS_ hb_ => ⟨hS_.1.gr hb_, hS_.2.1.gr hb_, hS_.2.2.gr hb_⟩) (i := 5) rfl (by kernel_rfl) (fun _ _ _ h => h) (pureG (by rfl) (by intro w; go_simp; first | done | with_reducible rfl)) ?_
  try simp only [Act.put, List.getElem_toArray, List.getElem_cons_succ, List.getElem_cons_zero, List.setIfInBounds_toArray, List.set_cons_zero, List.set_cons_succ]
  refine wpAnyG_take (oi := _) (v := _) (fun _ _ hS_ hb_ => ⟨hS_.1.gr hb_, hS_.2.1.gr hb_, hS_.2.2.gr hb_⟩) (i := 6) rfl (by kernel_rfl) (fun _ _ _ h => h) (pureG (by rfl) (by intro w; go_simp; first | done | with_reducible rfl)) ?_
  try simp only [Act.put, List.getElem_toArray, List.getElem_cons_succ, List.getElem_cons_zero, List.setIfInBounds_toArray, List.set_cons_zero, List.set_cons_succ]
  refine wpAnyG_take (oi := _) (v := _) (fun _ _ hS_ hb_ => ⟨hS_.1.gr hb_, hS_.2.1.gr hb_, hS_.2.2.gr hb_⟩) (i := 7) rfl (by kernel_rfl) (fun _ _ _ h => h) (pureG (by rfl) (by intro w; go_simp; first | done | with_reducible rfl)) ?_
  try simp only [Act.put, List.getElem_toArray, List.getElem_cons_succ, List.getElem_cons_zero, List.setIfInBounds_toArray, List.set_cons_zero, List.set_cons_succ]
  refine wpAnyG_take (oi := _) (v := _) (fun _ _ hS_ hb_ => ⟨hS_.1.gr hb_, hS_.2.1.gr hb_, hS_.2.2.gr hb_⟩) (i := 8) rfl (by kernel_rfl) (fun _ _ _ h => h) (pureG (by rfl) (by intro w; go_simp; first | done | with_reducible rfl)) ?_
  try simp only [Act.put, List.getElem_toArray, List.getElem_cons_succ, List.getElem_cons_zero, List.setIfInBounds_toArray, List.set_cons_zero, List.set_cons_succ]
  refine wpAnyG_alloc2 (i := 9) (j := 10) (fun _ _ hS_ hb_ => ⟨hS_.1.gr hb_, hS_.2.1.gr hb_, hS_.2.2.gr hb_⟩) (by kernel_rfl) (by kernel_rfl) (by kernel_rfl) (by decide) rfl rfl (allocG (by rfl) rfl _ alloc26) (allocG (by rfl) rfl _ alloc24) (fun _ => allocG (by rfl) rfl _ alloc26) (fun _ => allocG (by rfl) rfl _ alloc24) (fun _ _ => rfl) ?_
  intro w1 G2 G3 hgw1 hz_ hz2_ hne_ hn_ hn2_
  try simp only [Act.put, List.getElem_toArray, List.getElem_cons_succ, List.getElem_cons_zero, List.setIfInBounds_toArray, List.set_cons_zero, List.set_cons_succ]
  have NG4 := Lib.hid (Nat.ne_of_lt (Nat.lt_of_lt_of_le B0_.out.drew.lt hz_))
  have NG8 := Lib.hid (Nat.ne_of_lt (Nat.lt_of_lt_of_le B0_.out.drew.lt hz2_))
  have NG5 := Lib.hid (Nat.ne_of_lt (Nat.lt_of_lt_of_le B1_.out.drew.lt hz_))
  have NG9 := Lib.hid (Nat.ne_of_lt (Nat.lt_of_lt_of_le B1_.out.drew.lt hz2_))
  have NG6 := Lib.hid (Nat.ne_of_lt (Nat.lt_of_lt_of_le B2_.out.drew.lt hz_))
  have NG10 := Lib.hid (Nat.ne_of_lt (Nat.lt_of_lt_of_le B2_.out.drew.lt hz2_))
  have NG7 := Lib.hid (Nat.ne_of_lt (Nat.lt_of_lt_of_le B3_.out.drew.lt hz_))
  have NG11 := Lib.hid (Nat.ne_of_lt (Nat.lt_of_lt_of_le B3_.out.drew.lt hz2_))
  have GE12 := Lib.hid (Nat.le_trans bel_.drew.size hz_)
  have GE13 := Lib.hid (Nat.le_trans bel_.drew.size hz2_)
  have E14 := Lib.hid (B0_.out.drew.gr hgw1)
  clear B0_
  have E15 := Lib.hid (B1_.out.drew.gr hgw1)
  clear B1_
  have E16 := Lib.hid (B2_.out.drew.gr hgw1)
  clear B2_
  have E17 := Lib.hid (B3_.out.drew.gr hgw1)
  clear B3_
  have hbel18 := bel_.drew.trans (Below.mono hgw1 bel_.drew.size)
  clear bel_
  clear hz_ hz2_ hgw1
  refine wpAnyG_store (i := 11) (by kernel_rfl) rfl hn_ (lenEq (show (natsV .u64 (zeros 8)).length = 8 from rfl) (by rw [natsV_length, L_q8.out])) (StoresG.mk (cs := (natsV .u64 q8)) (by rfl) 26 _ _ rfl rfl rfl (i26 L_q8.out) (natsV_one _ _)) (.inr (fun _ hS_ => ⟨hS_.1.row _ NG4.out, hS_.2.1.row _ NG5.out, hS_.2.2.row _ NG6.out⟩)) ?_
  intro w19 hgw19 hn20
  try simp only [Act.put, List.getElem_toArray, List.getElem_cons_succ, List.getElem_cons_zero, List.setIfInBounds_toArray, List.set_cons_zero, List.set_cons_succ]
  have E21 := Lib.hid (E14.out.grown hgw19 (fun e => NG4.out (Option.some.inj e)))
  clear E14
  have E22 := Lib.hid (E15.out.grown hgw19 (fun e => NG5.out (Option.some.inj e)))
  clear E15
  have E23 := Lib.hid (E16.out.grown hgw19 (fun e => NG6.out (Option.some.inj e)))
  clear E16
  have E24 := Lib.hid (E17.out.grown hgw19 (fun e => NG7.out (Option.some.inj e)))
  clear E17
  have hn25 := hn2_.grown hgw19 (fun e => hne_.symm (Option.some.inj e))
  clear hn2_
  have hbel26 := belStore hbel18 hgw19 GE12.out
  clear hgw19
  refine wpAnyG_store (i := 12) (by kernel_rfl) rfl hn25 (lenEq (show (natsV .u64 (zeros 4)).length = 4 from rfl) (by rw [natsV_length, L_lr.out])) (StoresG.mk (cs := (natsV .u64 lr)) (by rfl) 24 _ _ rfl rfl rfl (i24 L_lr.out) (natsV_one _ _)) (.inr (fun _ hS_ => ⟨hS_.1.row _ NG8.out, hS_.2.1.row _ NG9.out, hS_.2.2.row _ NG10.out⟩)) ?_
  intro w27 hgw27 hn28
  try simp only [Act.put, List.getElem_toArray, List.getElem_cons_succ, List.getElem_cons_zero, List.setIfInBounds_toArray, List.set_cons_zero, List.set_cons_succ]
  have E29 := Lib.hid (E21.out.grown hgw27 (fun e => NG8.out (Option.some.inj e)))
  clear E21
  have E30 := Lib.hid (E22.out.grown hgw27 (fun e => NG9.out (Option.some.inj e)))
  clear E22
  have E31 := Lib.hid (E23.out.grown hgw27 (fun e => NG10.out (Option.some.inj e)))
  clear E23
  have E32 := Lib.hid (E24.out.grown hgw27 (fun e => NG11.out (Option.some.inj e)))
  clear E24
  have hn33 := hn20.grown hgw27 (fun e => hne_ (Option.some.inj e))
  clear hn20
  have hbel34 := belStore hbel26 hgw27 GE13.out
  clear hgw27
  have D35 := Lib.hid hn33
  have D36 := Lib.hid hn28
  clear hn33 hn28
  refine wpAnyG_take (oi := _) (v := _) (fun _ _ hS_ hb_ => ⟨hS_.1.gr hb_, hS_.2.1.gr hb_, hS_.2.2.gr hb_⟩) (i := 13) rfl (by kernel_rfl) (fun _ _ _ h => h) (pureG (by rfl) (by intro w; go_simp; first | done | with_reducible rfl)) ?_
  try simp only [Act.put, List.getElem_toArray, List.getElem_cons_succ, List.getElem_cons_zero, List.setIfInBounds_toArray, List.set_cons_zero, List.set_cons_succ]
  refine wpAnyG_done (by kernel_rfl) ?_ _
  intro w37 hgw37
  try simp only [Act.put, List.getElem_toArray, List.getElem_cons_succ, List.getElem_cons_zero, List.setIfInBounds_toArray, List.set_cons_zero, List.set_cons_succ]
  have C38 := Lib.hid (E29.out.gr hgw37)
  clear E29
  have C39 := Lib.hid (E30.out.gr hgw37)
  clear E30
  have C40 := Lib.hid (E31.out.gr hgw37)
  clear E31
  have C41 := Lib.hid (E32.out.gr hgw37)
  clear E32
  have C42 := Lib.hid (D35.out.gr hgw37)
  clear D35
  have C43 := Lib.hid (D36.out.gr hgw37)
  clear D36
  have hbel44 := hbel34.trans (Below.mono hgw37 hbel34.size)
  clear hbel34
  clear hgw37 hne_
  as_aux_lemma =>
  go_wp2_with (first | (refine wpList_load_mid rfl 24 (.tmp 9) rfl G3 0 rfl (natsV .u64 lr) _ (blk_all (C43.out)) Try.underlying24 rfl (i24 L_lr.out) ?_) | (refine stB rfl 24 (.tmp 6) (.tmp 20) rfl (w.heap.size + 1 + 1 + 1) rfl (natsV .u64 lr) rfl 24 (natsV .u64 (zeros 4)) C41.out (i24 L_lr.out) (lenEq (show (natsV .u64 (zeros 4)).length = 4 from rfl) (by rw [natsV_length, L_lr.out])) (natsV_one _ _) ?_))
  refine bodyPost_ret (v := .tuple #[.agg (natsV .u64 lr).toArray, .int .i64 ee]) ?_ rfl ⟨rfl, below_setRow' hbel44 (by first | exact Nat.le_refl _ | omega) _⟩
  exact results_two Try.results13 _ _ (w.heap.size + 1 + 1 + 1) 24 _ (0, 0) _ _ rfl rfl (C41.out.setRow _) Try.underlying24 rfl (by simpa using (i24 L_lr.out))
end Go.Proofs.Ytfffmoolkgheaaa
