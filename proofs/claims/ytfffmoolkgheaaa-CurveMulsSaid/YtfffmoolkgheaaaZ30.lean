/- Parts of proofs of statements, each text behind those that it stands on. No condition of its own. -/
import Derived.Test.YtfffmoolkgheaaaZ29
namespace Go.Proofs.Ytfffmoolkgheaaa
open Go.RowKit
set_option linter.unusedVariables false
set_option linter.unusedSimpArgs false
set_option maxRecDepth 100000 in
set_option maxHeartbeats 1600000 in
theorem dwrap_87 {la lb lp lc : List Nat} (hla : la.length = 4) (hlb : lb.length = 4) (hlp : lp.length = 4) (hlc : lc.length = 4)
    (c1 : ∀ w, Calls Try.prog 56 #[] w fun e w' => e = .returned (.agg (natsV .u64 lp).toArray) ∧ Below w.heap.size w w')
    (c2 : ∀ w, Calls Try.prog 65 #[.agg (natsV .u64 la).toArray, .agg (natsV .u64 lb).toArray, .agg (natsV .u64 lp).toArray] w fun e w' => e = .returned (.agg (natsV .u64 lc).toArray) ∧ Below w.heap.size w w') (w : World) :
    Calls Try.prog 87 #[.agg (natsV .u64 la).toArray, .agg (natsV .u64 lb).toArray] w fun e w' => e = .returned (.agg (natsV .u64 lc).toArray) ∧ Below w.heap.size w w' := by
  have L_la := Lib.hid hla
  clear hla
  have L_lb := Lib.hid hlb
  clear hlb
  have L_lp := Lib.hid hlp
  clear hlp
  have L_lc := Lib.hid hlc
  clear hlc
  have Hc1 := Lib.hid c1
  clear c1
  have Hc2 := Lib.hid c2
  clear c2
  have B0_ := Lib.hid (((Blk.new w  24 (natsV .u64 la)).alloc (.cells (natsV .u64 lb).toArray 24)).alloc (.cells (natsV .u64 (zeros 4)).toArray 24))
  have B1_ := Lib.hid ((Blk.new2 w (.cells (natsV .u64 la).toArray 24) 24 (natsV .u64 lb)).alloc (.cells (natsV .u64 (zeros 4)).toArray 24))
  have B2_ := Lib.hid (Blk.new3 w (.cells (natsV .u64 la).toArray 24) (.cells (natsV .u64 lb).toArray 24) 24 (natsV .u64 (zeros 4)))
  have bel_ := ((((Below.refl w.heap.size w).alloc (Nat.le_refl _) (.cells (natsV .u64 la).toArray 24)).alloc (by simp) (.cells (natsV .u64 lb).toArray 24)).alloc (by simp; omega) (.cells (natsV .u64 (zeros 4)).toArray 24))
  go_enter Try.func87, Try.ntmps87
  go_wp2_with fail
  as_aux_lemma =>
  refine wp_region_G (fun w_ => Blk w_ w.heap.size 24 (natsV .u64 la) ∧ Blk w_ (w.heap.size + 1) 24 (natsV .u64 lb)) 4 (by kernel_rfl) ⟨B0_.out.drew, B1_.out.drew⟩ ?_
  refine wpAnyG_take (fun _ _ hS_ hb_ => ⟨hS_.1.gr hb_, hS_.2.gr hb_⟩) (i := 0) rfl (by kernel_rfl) (fun _ _ _ h => h) (loadG (by rfl) _ _ rfl _ _ rfl (natsV .u64 la) _ (fun _ hS_ => blk_all (hS_.1)) Try.underlying24 rfl (i24 L_la.out)) ?_
  try simp only [Act.put, zq1, zq2, zq3, zq4, zq5, zq6]
  refine wpAnyG_take (fun _ _ hS_ hb_ => ⟨hS_.1.gr hb_, hS_.2.gr hb_⟩) (i := 1) rfl (by kernel_rfl) (fun _ _ _ h => h) (loadG (by rfl) _ _ rfl _ _ rfl (natsV .u64 lb) _ (fun _ hS_ => blk_all (hS_.2)) Try.underlying24 rfl (i24 L_lb.out)) ?_
  try simp only [Act.put, zq1, zq2, zq3, zq4, zq5, zq6]
  refine wpAnyG_take (fun _ _ hS_ hb_ => ⟨hS_.1.gr hb_, hS_.2.gr hb_⟩) (i := 2) rfl (by kernel_rfl) (fun _ _ _ h => h) (callG (by rfl) rfl Try.func56 (by kernel_rfl) (by kernel_rfl) (#[]) (by simp [Act.eval]) (fun w _ => Hc1.out w)) ?_
  try simp only [Act.put, zq1, zq2, zq3, zq4, zq5, zq6]
  refine wpAnyG_take (fun _ _ hS_ hb_ => ⟨hS_.1.gr hb_, hS_.2.gr hb_⟩) (i := 3) rfl (by kernel_rfl) (fun _ _ _ h => h) (callG (by rfl) rfl Try.func65 (by kernel_rfl) (by kernel_rfl) (#[.agg (natsV .u64 la).toArray, .agg (natsV .u64 lb).toArray, .agg (natsV .u64 lp).toArray]) (by simp [Act.eval]) (fun w _ => Hc2.out w)) ?_
  try simp only [Act.put, zq1, zq2, zq3, zq4, zq5, zq6]
  refine wpAnyG_set (i := 4) (by kernel_rfl) (by kernel_rfl) rfl rfl B2_.out.drew (lenEq (show (natsV .u64 (zeros 4)).length = 4 from rfl) (by rw [natsV_length, L_lc.out])) (StoresG.mk (cs := (natsV .u64 lc)) (by rfl) 24 _ _ rfl rfl rfl (i24 L_lc.out) (natsV_one _ _)) ?_
  intro w1 hgw1 hn_
  try simp only [Act.put, zq1, zq2, zq3, zq4, zq5, zq6]
  have hbel2 := belStore bel_.drew hgw1 (show w.heap.size ≤ (w.heap.size + 1 + 1) by omega)
  have D3 := Lib.hid hn_
  go_wp2_with fail
  refine bodyPost_ret (v := .agg (natsV .u64 lc).toArray) ?_ rfl ⟨rfl, hbel2⟩
  exact results_cell_row Try.results87 _ _ (w.heap.size + 1 + 1) 24 _ (0, 0) _ rfl D3.out Try.underlying24 rfl (by simpa using (i24 L_lc.out))
set_option maxRecDepth 100000 in
set_option maxHeartbeats 1600000 in
theorem dwrap_119 {la lb lp lc : List Nat} (hla : la.length = 4) (hlb : lb.length = 4) (hlp : lp.length = 4) (hlc : lc.length = 4)
    (c1 : ∀ w, Calls Try.prog 56 #[] w fun e w' => e = .returned (.agg (natsV .u64 lp).toArray) ∧ Below w.heap.size w w')
    (c2 : ∀ w, Calls Try.prog 74 #[.agg (natsV .u64 la).toArray, .agg (natsV .u64 lb).toArray, .agg (natsV .u64 lp).toArray] w fun e w' => e = .returned (.agg (natsV .u64 lc).toArray) ∧ Below w.heap.size w w') (w : World) :
    Calls Try.prog 119 #[.agg (natsV .u64 la).toArray, .agg (natsV .u64 lb).toArray] w fun e w' => e = .returned (.agg (natsV .u64 lc).toArray) ∧ Below w.heap.size w w' := by
  have L_la := Lib.hid hla
  clear hla
  have L_lb := Lib.hid hlb
  clear hlb
  have L_lp := Lib.hid hlp
  clear hlp
  have L_lc := Lib.hid hlc
  clear hlc
  have Hc1 := Lib.hid c1
  clear c1
  have Hc2 := Lib.hid c2
  clear c2
  have B0_ := Lib.hid (((Blk.new w  24 (natsV .u64 la)).alloc (.cells (natsV .u64 lb).toArray 24)).alloc (.cells (natsV .u64 (zeros 4)).toArray 24))
  have B1_ := Lib.hid ((Blk.new2 w (.cells (natsV .u64 la).toArray 24) 24 (natsV .u64 lb)).alloc (.cells (natsV .u64 (zeros 4)).toArray 24))
  have B2_ := Lib.hid (Blk.new3 w (.cells (natsV .u64 la).toArray 24) (.cells (natsV .u64 lb).toArray 24) 24 (natsV .u64 (zeros 4)))
  have bel_ := ((((Below.refl w.heap.size w).alloc (Nat.le_refl _) (.cells (natsV .u64 la).toArray 24)).alloc (by simp) (.cells (natsV .u64 lb).toArray 24)).alloc (by simp; omega) (.cells (natsV .u64 (zeros 4)).toArray 24))
  go_enter Try.func119, Try.ntmps119
  go_wp2_with fail
  as_aux_lemma =>
  refine wp_region_G (fun w_ => Blk w_ w.heap.size 24 (natsV .u64 la) ∧ Blk w_ (w.heap.size + 1) 24 (natsV .u64 lb)) 4 (by kernel_rfl) ⟨B0_.out.drew, B1_.out.drew⟩ ?_
  refine wpAnyG_take (fun _ _ hS_ hb_ => ⟨hS_.1.gr hb_, hS_.2.gr hb_⟩) (i := 0) rfl (by kernel_rfl) (fun _ _ _ h => h) (loadG (by rfl) _ _ rfl _ _ rfl (natsV .u64 la) _ (fun _ hS_ => blk_all (hS_.1)) Try.underlying24 rfl (i24 L_la.out)) ?_
  try simp only [Act.put, zq1, zq2, zq3, zq4, zq5, zq6]
  refine wpAnyG_take (fun _ _ hS_ hb_ => ⟨hS_.1.gr hb_, hS_.2.gr hb_⟩) (i := 1) rfl (by kernel_rfl) (fun _ _ _ h => h) (loadG (by rfl) _ _ rfl _ _ rfl (natsV .u64 lb) _ (fun _ hS_ => blk_all (hS_.2)) Try.underlying24 rfl (i24 L_lb.out)) ?_
  try simp only [Act.put, zq1, zq2, zq3, zq4, zq5, zq6]
  refine wpAnyG_take (fun _ _ hS_ hb_ => ⟨hS_.1.gr hb_, hS_.2.gr hb_⟩) (i := 2) rfl (by kernel_rfl) (fun _ _ _ h => h) (callG (by rfl) rfl Try.func56 (by kernel_rfl) (by kernel_rfl) (#[]) (by simp [Act.eval]) (fun w _ => Hc1.out w)) ?_
  try simp only [Act.put, zq1, zq2, zq3, zq4, zq5, zq6]
  refine wpAnyG_take (fun _ _ hS_ hb_ => ⟨hS_.1.gr hb_, hS_.2.gr hb_⟩) (i := 3) rfl (by kernel_rfl) (fun _ _ _ h => h) (callG (by rfl) rfl Try.func74 (by kernel_rfl) (by kernel_rfl) (#[.agg (natsV .u64 la).toArray, .agg (natsV .u64 lb).toArray, .agg (natsV .u64 lp).toArray]) (by simp [Act.eval]) (fun w _ => Hc2.out w)) ?_
  try simp only [Act.put, zq1, zq2, zq3, zq4, zq5, zq6]
  refine wpAnyG_set (i := 4) (by kernel_rfl) (by kernel_rfl) rfl rfl B2_.out.drew (lenEq (show (natsV .u64 (zeros 4)).length = 4 from rfl) (by rw [natsV_length, L_lc.out])) (StoresG.mk (cs := (natsV .u64 lc)) (by rfl) 24 _ _ rfl rfl rfl (i24 L_lc.out) (natsV_one _ _)) ?_
  intro w1 hgw1 hn_
  try simp only [Act.put, zq1, zq2, zq3, zq4, zq5, zq6]
  have hbel2 := belStore bel_.drew hgw1 (show w.heap.size ≤ (w.heap.size + 1 + 1) by omega)
  have D3 := Lib.hid hn_
  go_wp2_with fail
  refine bodyPost_ret (v := .agg (natsV .u64 lc).toArray) ?_ rfl ⟨rfl, hbel2⟩
  exact results_cell_row Try.results119 _ _ (w.heap.size + 1 + 1) 24 _ (0, 0) _ rfl D3.out Try.underlying24 rfl (by simpa using (i24 L_lc.out))
set_option maxRecDepth 100000 in
set_option maxHeartbeats 1600000 in
theorem dwrap_120 {la lb lp lc : List Nat} (hla : la.length = 4) (hlb : lb.length = 4) (hlp : lp.length = 4) (hlc : lc.length = 4)
    (c1 : ∀ w, Calls Try.prog 56 #[] w fun e w' => e = .returned (.agg (natsV .u64 lp).toArray) ∧ Below w.heap.size w w')
    (c2 : ∀ w, Calls Try.prog 46 #[.agg (natsV .u64 la).toArray, .agg (natsV .u64 lb).toArray, .agg (natsV .u64 lp).toArray] w fun e w' => e = .returned (.agg (natsV .u64 lc).toArray) ∧ Below w.heap.size w w') (w : World) :
    Calls Try.prog 120 #[.agg (natsV .u64 la).toArray, .agg (natsV .u64 lb).toArray] w fun e w' => e = .returned (.agg (natsV .u64 lc).toArray) ∧ Below w.heap.size w w' := by
  have L_la := Lib.hid hla
  clear hla
  have L_lb := Lib.hid hlb
  clear hlb
  have L_lp := Lib.hid hlp
  clear hlp
  have L_lc := Lib.hid hlc
  clear hlc
  have Hc1 := Lib.hid c1
  clear c1
  have Hc2 := Lib.hid c2
  clear c2
  have B0_ := Lib.hid (((Blk.new w  24 (natsV .u64 la)).alloc (.cells (natsV .u64 lb).toArray 24)).alloc (.cells (natsV .u64 (zeros 4)).toArray 24))
  have B1_ := Lib.hid ((Blk.new2 w (.cells (natsV .u64 la).toArray 24) 24 (natsV .u64 lb)).alloc (.cells (natsV .u64 (zeros 4)).toArray 24))
  have B2_ := Lib.hid (Blk.new3 w (.cells (natsV .u64 la).toArray 24) (.cells (natsV .u64 lb).toArray 24) 24 (natsV .u64 (zeros 4)))
  have bel_ := ((((Below.refl w.heap.size w).alloc (Nat.le_refl _) (.cells (natsV .u64 la).toArray 24)).alloc (by simp) (.cells (natsV .u64 lb).toArray 24)).alloc (by simp; omega) (.cells (natsV .u64 (zeros 4)).toArray 24))
  go_enter Try.func120, Try.ntmps120
  go_wp2_with fail
  as_aux_lemma =>
  refine wp_region_G (fun w_ => Blk w_ w.heap.size 24 (natsV .u64 la) ∧ Blk w_ (w.heap.size + 1) 24 (natsV .u64 lb)) 4 (by kernel_rfl) ⟨B0_.out.drew, B1_.out.drew⟩ ?_
  refine wpAnyG_take (fun _ _ hS_ hb_ => ⟨hS_.1.gr hb_, hS_.2.gr hb_⟩) (i := 0) rfl (by kernel_rfl) (fun _ _ _ h => h) (loadG (by rfl) _ _ rfl _ _ rfl (natsV .u64 la) _ (fun _ hS_ => blk_all (hS_.1)) Try.underlying24 rfl (i24 L_la.out)) ?_
  try simp only [Act.put, zq1, zq2, zq3, zq4, zq5, zq6]
  refine wpAnyG_take (fun _ _ hS_ hb_ => ⟨hS_.1.gr hb_, hS_.2.gr hb_⟩) (i := 1) rfl (by kernel_rfl) (fun _ _ _ h => h) (loadG (by rfl) _ _ rfl _ _ rfl (natsV .u64 lb) _ (fun _ hS_ => blk_all (hS_.2)) Try.underlying24 rfl (i24 L_lb.out)) ?_
  try simp only [Act.put, zq1, zq2, zq3, zq4, zq5, zq6]
  refine wpAnyG_take (fun _ _ hS_ hb_ => ⟨hS_.1.gr hb_, hS_.2.gr hb_⟩) (i := 2) rfl (by kernel_rfl) (fun _ _ _ h => h) (callG (by rfl) rfl Try.func56 (by kernel_rfl) (by kernel_rfl) (#[]) (by simp [Act.eval]) (fun w _ => Hc1.out w)) ?_
  try simp only [Act.put, zq1, zq2, zq3, zq4, zq5, zq6]
  refine wpAnyG_take (fun _ _ hS_ hb_ => ⟨hS_.1.gr hb_, hS_.2.gr hb_⟩) (i := 3) rfl (by kernel_rfl) (fun _ _ _ h => h) (callG (by rfl) rfl Try.func46 (by kernel_rfl) (by kernel_rfl) (#[.agg (natsV .u64 la).toArray, .agg (natsV .u64 lb).toArray, .agg (natsV .u64 lp).toArray]) (by simp [Act.eval]) (fun w _ => Hc2.out w)) ?_
  try simp only [Act.put, zq1, zq2, zq3, zq4, zq5, zq6]
  refine wpAnyG_set (i := 4) (by kernel_rfl) (by kernel_rfl) rfl rfl B2_.out.drew (lenEq (show (natsV .u64 (zeros 4)).length = 4 from rfl) (by rw [natsV_length, L_lc.out])) (StoresG.mk (cs := (natsV .u64 lc)) (by rfl) 24 _ _ rfl rfl rfl (i24 L_lc.out) (natsV_one _ _)) ?_
  intro w1 hgw1 hn_
  try simp only [Act.put, zq1, zq2, zq3, zq4, zq5, zq6]
  have hbel2 := belStore bel_.drew hgw1 (show w.heap.size ≤ (w.heap.size + 1 + 1) by omega)
  have D3 := Lib.hid hn_
  go_wp2_with fail
  refine bodyPost_ret (v := .agg (natsV .u64 lc).toArray) ?_ rfl ⟨rfl, hbel2⟩
  exact results_cell_row Try.results120 _ _ (w.heap.size + 1 + 1) 24 _ (0, 0) _ rfl D3.out Try.underlying24 rfl (by simpa using (i24 L_lc.out))
set_option maxRecDepth 100000 in
set_option maxHeartbeats 1600000 in
theorem dwrap_84 {la lp le lc : List Nat} (hla : la.length = 4) (hlp : lp.length = 4) (hle : le.length = 4) (hlc : lc.length = 4)
    (c1 : ∀ w, Calls Try.prog 88 #[.agg (natsV .u64 lp).toArray, .agg #[.int .u64 2, .int .u64 0, .int .u64 0, .int .u64 0]] w fun e w' => e = .returned (.agg (natsV .u64 le).toArray) ∧ Below w.heap.size w w')
    (c2 : ∀ w, Calls Try.prog 115 #[.agg (natsV .u64 la).toArray, .agg (natsV .u64 le).toArray, .agg (natsV .u64 lp).toArray] w fun e w' => e = .returned (.agg (natsV .u64 lc).toArray) ∧ Below w.heap.size w w') (w : World) :
    Calls Try.prog 84 #[.agg (natsV .u64 la).toArray, .agg (natsV .u64 lp).toArray] w fun e w' => e = .returned (.agg (natsV .u64 lc).toArray) ∧ Below w.heap.size w w' := by
  have L_la := Lib.hid hla
  clear hla
  have L_lp := Lib.hid hlp
  clear hlp
  have L_le := Lib.hid hle
  clear hle
  have L_lc := Lib.hid hlc
  clear hlc
  have Hc1 := Lib.hid c1
  clear c1
  have Hc2 := Lib.hid c2
  clear c2
  have B0_ := Lib.hid (((Blk.new w  24 (natsV .u64 la)).alloc (.cells (natsV .u64 lp).toArray 24)).alloc (.cells (natsV .u64 (zeros 4)).toArray 24))
  have B1_ := Lib.hid ((Blk.new2 w (.cells (natsV .u64 la).toArray 24) 24 (natsV .u64 lp)).alloc (.cells (natsV .u64 (zeros 4)).toArray 24))
  have B2_ := Lib.hid (Blk.new3 w (.cells (natsV .u64 la).toArray 24) (.cells (natsV .u64 lp).toArray 24) 24 (natsV .u64 (zeros 4)))
  have bel_ := ((((Below.refl w.heap.size w).alloc (Nat.le_refl _) (.cells (natsV .u64 la).toArray 24)).alloc (by simp) (.cells (natsV .u64 lp).toArray 24)).alloc (by simp; omega) (.cells (natsV .u64 (zeros 4)).toArray 24))
  go_enter Try.func84, Try.ntmps84
  go_wp2_with fail
  as_aux_lemma =>
  refine wp_region_G (fun w_ => Blk w_ w.heap.size 24 (natsV .u64 la) ∧ Blk w_ (w.heap.size + 1) 24 (natsV .u64 lp)) 6 (by kernel_rfl) ⟨B0_.out.drew, B1_.out.drew⟩ ?_
  refine wpAnyG_take (fun _ _ hS_ hb_ => ⟨hS_.1.gr hb_, hS_.2.gr hb_⟩) (i := 0) rfl (by kernel_rfl) (fun _ _ _ h => h) (loadG (by rfl) _ _ rfl _ _ rfl (natsV .u64 la) _ (fun _ hS_ => blk_all (hS_.1)) Try.underlying24 rfl (i24 L_la.out)) ?_
  try simp only [Act.put, zq1, zq2, zq3, zq4, zq5, zq6]
  refine wpAnyG_take (fun _ _ hS_ hb_ => ⟨hS_.1.gr hb_, hS_.2.gr hb_⟩) (i := 1) rfl (by kernel_rfl) (fun _ _ _ h => h) (loadG (by rfl) _ _ rfl _ _ rfl (natsV .u64 lp) _ (fun _ hS_ => blk_all (hS_.2)) Try.underlying24 rfl (i24 L_lp.out)) ?_
  try simp only [Act.put, zq1, zq2, zq3, zq4, zq5, zq6]
  refine wpAnyG_take (fun _ _ hS_ hb_ => ⟨hS_.1.gr hb_, hS_.2.gr hb_⟩) (i := 2) rfl (by kernel_rfl) (fun _ _ _ h => h) (pureG (by rfl) (by intro w; go_simp; first | done | with_reducible rfl)) ?_
  try simp only [Act.put, zq1, zq2, zq3, zq4, zq5, zq6]
  refine wpAnyG_take (fun _ _ hS_ hb_ => ⟨hS_.1.gr hb_, hS_.2.gr hb_⟩) (i := 3) rfl (by kernel_rfl) (fun _ _ _ h => h) (callG (by rfl) rfl Try.func88 (by kernel_rfl) (by kernel_rfl) (#[.agg (natsV .u64 lp).toArray, .agg #[.int .u64 2, .int .u64 0, .int .u64 0, .int .u64 0]]) (by simp [Act.eval]) (fun w _ => Hc1.out w)) ?_
  try simp only [Act.put, zq1, zq2, zq3, zq4, zq5, zq6]
  refine wpAnyG_take (fun _ _ hS_ hb_ => ⟨hS_.1.gr hb_, hS_.2.gr hb_⟩) (i := 4) rfl (by kernel_rfl) (fun _ _ _ h => h) (loadG (by rfl) _ _ rfl _ _ rfl (natsV .u64 lp) _ (fun _ hS_ => blk_all (hS_.2)) Try.underlying24 rfl (i24 L_lp.out)) ?_
  try simp only [Act.put, zq1, zq2, zq3, zq4, zq5, zq6]
  refine wpAnyG_take (fun _ _ hS_ hb_ => ⟨hS_.1.gr hb_, hS_.2.gr hb_⟩) (i := 5) rfl (by kernel_rfl) (fun _ _ _ h => h) (callG (by rfl) rfl Try.func115 (by kernel_rfl) (by kernel_rfl) (#[.agg (natsV .u64 la).toArray, .agg (natsV .u64 le).toArray, .agg (natsV .u64 lp).toArray]) (by simp [Act.eval]) (fun w _ => Hc2.out w)) ?_
  try simp only [Act.put, zq1, zq2, zq3, zq4, zq5, zq6]
  refine wpAnyG_set (i := 6) (by kernel_rfl) (by kernel_rfl) rfl rfl B2_.out.drew (lenEq (show (natsV .u64 (zeros 4)).length = 4 from rfl) (by rw [natsV_length, L_lc.out])) (StoresG.mk (cs := (natsV .u64 lc)) (by rfl) 24 _ _ rfl rfl rfl (i24 L_lc.out) (natsV_one _ _)) ?_
  intro w1 hgw1 hn_
  try simp only [Act.put, zq1, zq2, zq3, zq4, zq5, zq6]
  have hbel2 := belStore bel_.drew hgw1 (show w.heap.size ≤ (w.heap.size + 1 + 1) by omega)
  have D3 := Lib.hid hn_
  go_wp2_with fail
  refine bodyPost_ret (v := .agg (natsV .u64 lc).toArray) ?_ rfl ⟨rfl, hbel2⟩
  exact results_cell_row Try.results84 _ _ (w.heap.size + 1 + 1) 24 _ (0, 0) _ rfl D3.out Try.underlying24 rfl (by simpa using (i24 L_lc.out))
theorem d_mod (f g : FP) (w : World) : Calls Try.prog 65 #[.agg (natsV .u64 (nw f)).toArray, .agg (natsV .u64 (nw g)).toArray, .agg (natsV .u64 (wds 4 mP)).toArray] w fun e w' => e = .returned (.agg (natsV .u64 (nw (f * g))).toArray) ∧ Below w.heap.size w w' := by
  have h := Mul5_any f.val g.val mP w (lt256 f) (lt256 g) fld_P.lt fld_P.gt
  rw [← Fin.val_mul] at h; exact h
theorem d_modA (f g : FP) (w : World) : Calls Try.prog 46 #[.agg (natsV .u64 (nw f)).toArray, .agg (natsV .u64 (nw g)).toArray, .agg (natsV .u64 (wds 4 mP)).toArray] w fun e w' => e = .returned (.agg (natsV .u64 (nw (f + g))).toArray) ∧ Below w.heap.size w w' := by
  have h := DAdd_any f.val g.val mP w fld_P.lt f.isLt g.isLt
  rw [← Fin.val_add] at h; exact h
theorem d_modS (f g : FP) (w : World) : Calls Try.prog 74 #[.agg (natsV .u64 (nw f)).toArray, .agg (natsV .u64 (nw g)).toArray, .agg (natsV .u64 (wds 4 mP)).toArray] w fun e w' => e = .returned (.agg (natsV .u64 (nw (f - g))).toArray) ∧ Below w.heap.size w w' := by
  have h := DSub_any f.val g.val mP w fld_P.lt f.isLt g.isLt
  rw [← sub_val] at h; exact h
theorem d_mul (f g : FP) (w : World) : Calls Try.prog 87 #[.agg (natsV .u64 (nw f)).toArray, .agg (natsV .u64 (nw g)).toArray] w fun e w' => e = .returned (.agg (natsV .u64 (nw (f * g))).toArray) ∧ Below w.heap.size w w' :=
  dwrap_87 (nw_len f) (nw_len g) (wds_len 4 mP) (nw_len _) DP_any (d_mod f g) w
theorem d_sub (f g : FP) (w : World) : Calls Try.prog 119 #[.agg (natsV .u64 (nw f)).toArray, .agg (natsV .u64 (nw g)).toArray] w fun e w' => e = .returned (.agg (natsV .u64 (nw (f - g))).toArray) ∧ Below w.heap.size w w' :=
  dwrap_119 (nw_len f) (nw_len g) (wds_len 4 mP) (nw_len _) DP_any (d_modS f g) w
theorem d_add (f g : FP) (w : World) : Calls Try.prog 120 #[.agg (natsV .u64 (nw f)).toArray, .agg (natsV .u64 (nw g)).toArray] w fun e w' => e = .returned (.agg (natsV .u64 (nw (f + g))).toArray) ∧ Below w.heap.size w w' :=
  dwrap_120 (nw_len f) (nw_len g) (wds_len 4 mP) (nw_len _) DP_any (d_modA f g) w
theorem d_inv (f : FP) (h0 : f ≠ 0) (w : World) : Calls Try.prog 84 #[.agg (natsV .u64 (nw f)).toArray, .agg (natsV .u64 (wds 4 mP)).toArray] w fun e w' => e = .returned (.agg (natsV .u64 (nw (EC.iv f))).toArray) ∧ Below w.heap.size w w' := by
  refine dwrap_84 (nw_len f) (wds_len 4 mP) (wds_len 4 (mP - 2)) (nw_len _) (fun w => ?_) (fun w => ?_) w
  · have h := dminus_any mP 2 w fld_P.lt (by decide)
    rw [less_two mP (by have := fld_P.gt; omega), ← num_lit2] at h; exact h
  · have h := Pow5_any f.val (mP - 2) mP w (lt256 f) (Nat.lt_of_le_of_lt (Nat.sub_le _ _) fld_P.lt) fld_P.lt fld_P.gt
    have e : f.val ^ (mP - 2) % mP = (EC.iv f).val := by rw [iv_fp f h0, fv_val]
    rw [e] at h; exact h
end Go.Proofs.Ytfffmoolkgheaaa
