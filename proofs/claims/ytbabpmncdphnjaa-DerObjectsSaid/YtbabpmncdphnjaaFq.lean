/- Objects' items the document's way. No condition. -/
import Derived.Test.YtbabpmncdphnjaaFp
namespace Go.Proofs.Ytbabpmncdphnjaa
open Go.RowKit
set_option linter.unusedVariables false
set_option maxRecDepth 100000
set_option linter.unusedSimpArgs false

theorem ofE_no {l : List Nat} (h : oidOk l = false) : ofE l = .error 127 := by unfold ofE; rw [if_neg (by simp [h])]
set_option maxHeartbeats 4000000 in
theorem refOfOID_any (w : World) (a : Option Addr) (n c : Nat) (l : List Nat) (hin : WIn w a n c l) : Calls Try.prog 30 #[.slice a n c] w (OfIs (ofE l) w) := by
  have B0 := Lib.hid (Blk.new w 25 [.int .u8 0, .slice none 0 0, .slice none 0 0])
  have BEL := Lib.hid ((Below.refl w.heap.size w).alloc (Nat.le_refl _) (.cells #[.int .u8 0, .slice none 0 0, .slice none 0 0] 25))
  have hs1 : (w.alloc (.cells #[.int .u8 0, .slice none 0 0, .slice none 0 0] 25)).heap.size = w.heap.size + 1 := by simp
  have hln : l.length = n := hin.1
  have HIN := Lib.hid (hin.below BEL.out)
  by_cases h2 : n < 2
  · have hX := Lib.hid (ofE_no (oid_no (l := l) (fun h => by omega)))
    have hi : decide ((n : Int) < 2) = true := decide_eq_true (by omega)
    clear hin hln
    go_enter Try.func30, Try.ntmps30
    go_wp2_with fail
    generalize w.alloc (.cells #[.int .u8 0, .slice none 0 0, .slice none 0 0] 25) = W1 at *
    go_quiet (fail)
    have B2 := Lib.hid (B0.out.drewN nq)
    have H2 := Lib.hid (below_drewN BEL.out nq)
    generalize W1.drewN nq = W2 at *
    go_wp2_with (first | (refine wpList_store_row (P := Try.prog) rfl 25 (.tmp 2) (.tmp 43) rfl w.heap.size #[.int .u8 0, .slice none 0 0, .slice none 0 0] rfl rfl 25 _ B2.out info25 rfl (all_item _ _ _ _ _ _ _) ?_))
    have D3 := B2.out.setRow [.int .u8 0, .slice none 0 0, .slice none 0 0]
    refine bodyPost_ret (results_two Try.results30 _ _ w.heap.size 25 _ (0, 0) _ _ rfl rfl D3 Try.underlying25 rfl info25) rfl ?_
    exact OfIs.err hX.out (below_setRow' H2.out (Nat.le_refl _) _)
  by_cases h20 : 20 < n
  · have hX := Lib.hid (ofE_no (oid_no (l := l) (fun h => by omega)))
    have hi : decide ((n : Int) < 2) = false := decide_eq_false (by omega)
    have hi2 : decide ((20 : Int) < (n : Int)) = true := decide_eq_true (by omega)
    clear hin hln
    go_enter Try.func30, Try.ntmps30
    go_wp2_with fail
    generalize w.alloc (.cells #[.int .u8 0, .slice none 0 0, .slice none 0 0] 25) = W1 at *
    go_quiet (fail)
    have B2 := Lib.hid (B0.out.drewN nq)
    have H2 := Lib.hid (below_drewN BEL.out nq)
    generalize W1.drewN nq = W2 at *
    go_wp2_with (first | (refine wpList_store_row (P := Try.prog) rfl 25 (.tmp 2) (.tmp 43) rfl w.heap.size #[.int .u8 0, .slice none 0 0, .slice none 0 0] rfl rfl 25 _ B2.out info25 rfl (all_item _ _ _ _ _ _ _) ?_))
    have D3 := B2.out.setRow [.int .u8 0, .slice none 0 0, .slice none 0 0]
    refine bodyPost_ret (results_two Try.results30 _ _ w.heap.size 25 _ (0, 0) _ _ rfl rfl D3 Try.underlying25 rfl info25) rfl ?_
    exact OfIs.err hX.out (below_setRow' H2.out (Nat.le_refl _) _)
  obtain ⟨B, o, rfl, hc⟩ := hin.2.2.2.2.2.2.resolve_left (by omega)
  have hcn := hin.2.1
  have hw64 := hin.2.2.2.1
  have i1 : decide ((n : Int) < 2) = false := decide_eq_false (by omega)
  have i2 : decide ((20 : Int) < (n : Int)) = false := decide_eq_false (by omega)
  have i3 : (0 : Int) < (n : Int) := by omega
  have i4 : (1 : Int) < (n : Int) := by omega
  have i5 : 0 < n := by omega
  have i6 : 1 < n := by omega
  have c0 := hc 0 (by omega)
  have c1 := hc 1 (by omega)
  rw [Nat.add_zero] at c0
  have HC := Lib.hid (fun wx (h : Below w.heap.size w wx) i hi => (h.cell (World.block_lt_of_cell? w _ (hc i hi))).trans (hc i hi))
  obtain ⟨x0, hx0⟩ : ∃ x, l.getD 0 0 = x := ⟨_, rfl⟩
  obtain ⟨x1, hx1⟩ : ∃ x, l.getD 1 0 = x := ⟨_, rfl⟩
  have hb1 : x1 < 18446744073709551616 := by rw [← hx1]; exact getD_ltw hw64 1
  have hb0 : x0 < 18446744073709551616 := by rw [← hx0]; exact getD_ltw hw64 0
  rw [hx0] at c0
  rw [hx1] at c1
  have d0 : ∀ ob, (w.alloc ob).cell? ⟨B, o, none⟩ = some (.int .u64 (x0 : Nat)) := fun ob => (((Below.refl w.heap.size w).alloc (Nat.le_refl _) ob).cell (World.block_lt_of_cell? w _ c0)).trans c0
  have d1 : ∀ ob, (w.alloc ob).cell? ⟨B, o + 1, none⟩ = some (.int .u64 (x1 : Nat)) := fun ob => (((Below.refl w.heap.size w).alloc (Nat.le_refl _) ob).cell (World.block_lt_of_cell? w _ c1)).trans c1
  have g0 := d0 (.cells #[.int .u8 0, .slice none 0 0, .slice none 0 0] 25)
  have g1 := d1 (.cells #[.int .u8 0, .slice none 0 0, .slice none 0 0] 25)
  have HX0 := Lib.hid hx0
  have HX1 := Lib.hid hx1
  have HLN := Lib.hid hln
  have HW64 := Lib.hid hw64
  clear hin hc hx0 hx1 hln hw64 c0 c1 d0 d1
  by_cases hg : 2 < x0
  · have hX := Lib.hid (ofE_no (oid_no (l := l) (fun h => by have := HX0.out; omega)))
    have hgi : decide ((2 : Int) < (x0 : Int)) = true := decide_eq_true (by omega)
    go_enter Try.func30, Try.ntmps30
    go_wp2_with fail
    generalize w.alloc (.cells #[.int .u8 0, .slice none 0 0, .slice none 0 0] 25) = W1 at *
    go_quiet (fail)
    have B2 := Lib.hid (B0.out.drewN nq)
    have H2 := Lib.hid (below_drewN BEL.out nq)
    generalize W1.drewN nq = W2 at *
    go_wp2_with (first | (refine wpList_store_row (P := Try.prog) rfl 25 (.tmp 2) (.tmp 43) rfl w.heap.size #[.int .u8 0, .slice none 0 0, .slice none 0 0] rfl rfl 25 _ B2.out info25 rfl (all_item _ _ _ _ _ _ _) ?_))
    have D3 := B2.out.setRow [.int .u8 0, .slice none 0 0, .slice none 0 0]
    refine bodyPost_ret (results_two Try.results30 _ _ w.heap.size 25 _ (0, 0) _ _ rfl rfl D3 Try.underlying25 rfl info25) rfl ?_
    exact OfIs.err hX.out (below_setRow' H2.out (Nat.le_refl _) _)
  have hgi : decide ((2 : Int) < (x0 : Int)) = false := decide_eq_false (by omega)
  by_cases hd : x0 < 2 ∧ 39 < x1
  · have hX := Lib.hid (ofE_no (oid_no (l := l) (fun h => by have := HX0.out; have := HX1.out; omega)))
    have hd1 : decide ((x0 : Int) < 2) = true := decide_eq_true (by omega)
    have hd2 : decide ((39 : Int) < (x1 : Int)) = true := decide_eq_true (by omega)
    clear hd
    go_enter Try.func30, Try.ntmps30
    go_wp2_with fail
    generalize w.alloc (.cells #[.int .u8 0, .slice none 0 0, .slice none 0 0] 25) = W1 at *
    go_quiet (fail)
    have B2 := Lib.hid (B0.out.drewN nq)
    have H2 := Lib.hid (below_drewN BEL.out nq)
    generalize W1.drewN nq = W2 at *
    go_wp2_with (first | (refine wpList_store_row (P := Try.prog) rfl 25 (.tmp 2) (.tmp 43) rfl w.heap.size #[.int .u8 0, .slice none 0 0, .slice none 0 0] rfl rfl 25 _ B2.out info25 rfl (all_item _ _ _ _ _ _ _) ?_))
    have D3 := B2.out.setRow [.int .u8 0, .slice none 0 0, .slice none 0 0]
    refine bodyPost_ret (results_two Try.results30 _ _ w.heap.size 25 _ (0, 0) _ _ rfl rfl D3 Try.underlying25 rfl info25) rfl ?_
    exact OfIs.err hX.out (below_setRow' H2.out (Nat.le_refl _) _)
  have HD := Lib.hid hd
  obtain ⟨p0, hp0⟩ : ∃ p, 40 * x0 = p := ⟨_, rfl⟩
  obtain ⟨r0, hr0⟩ : ∃ r, 4294967295 - p0 = r := ⟨_, rfl⟩
  have hwm : IntKind.u64.wrap (40 * (x0 : Int)) = (p0 : Int) := by rw [show 40 * (x0 : Int) = ((p0 : Nat) : Int) by omega]; exact wrapu (by omega)
  have hws : IntKind.u64.wrap (4294967295 - (p0 : Int)) = (r0 : Int) := by rw [show 4294967295 - (p0 : Int) = ((r0 : Nat) : Int) by omega]; exact wrapu (by omega)
  have HP0 := Lib.hid hp0
  have HR0 := Lib.hid hr0
  have hp8 : p0 ≤ 80 := by omega
  clear hr0 hp0
  by_cases hm : r0 < x1
  · have hX := Lib.hid (ofE_no (oid_no (l := l) (fun h => by have := HX0.out; have := HX1.out; have := HP0.out; have := HR0.out; omega)))
    have hmi : decide ((r0 : Int) < (x1 : Int)) = true := decide_eq_true (by omega)
    by_cases hx2 : x0 < 2
    · have hxi : decide ((x0 : Int) < 2) = true := decide_eq_true (by omega)
      have hxj : decide ((39 : Int) < (x1 : Int)) = false := decide_eq_false (by omega)
      clear hd
      go_enter Try.func30, Try.ntmps30
      go_wp2_with fail
      generalize w.alloc (.cells #[.int .u8 0, .slice none 0 0, .slice none 0 0] 25) = W1 at *
      go_quiet (fail)
      have B2 := Lib.hid (B0.out.drewN nq)
      have H2 := Lib.hid (below_drewN BEL.out nq)
      generalize W1.drewN nq = W2 at *
      go_wp2_with (first | (refine wpList_store_row (P := Try.prog) rfl 25 (.tmp 2) (.tmp 43) rfl w.heap.size #[.int .u8 0, .slice none 0 0, .slice none 0 0] rfl rfl 25 _ B2.out info25 rfl (all_item _ _ _ _ _ _ _) ?_))
      have D3 := B2.out.setRow [.int .u8 0, .slice none 0 0, .slice none 0 0]
      refine bodyPost_ret (results_two Try.results30 _ _ w.heap.size 25 _ (0, 0) _ _ rfl rfl D3 Try.underlying25 rfl info25) rfl ?_
      exact OfIs.err hX.out (below_setRow' H2.out (Nat.le_refl _) _)
    · have hxi : decide ((x0 : Int) < 2) = false := decide_eq_false (by omega)
      clear hd
      go_enter Try.func30, Try.ntmps30
      go_wp2_with fail
      generalize w.alloc (.cells #[.int .u8 0, .slice none 0 0, .slice none 0 0] 25) = W1 at *
      go_quiet (fail)
      have B2 := Lib.hid (B0.out.drewN nq)
      have H2 := Lib.hid (below_drewN BEL.out nq)
      generalize W1.drewN nq = W2 at *
      go_wp2_with (first | (refine wpList_store_row (P := Try.prog) rfl 25 (.tmp 2) (.tmp 43) rfl w.heap.size #[.int .u8 0, .slice none 0 0, .slice none 0 0] rfl rfl 25 _ B2.out info25 rfl (all_item _ _ _ _ _ _ _) ?_))
      have D3 := B2.out.setRow [.int .u8 0, .slice none 0 0, .slice none 0 0]
      refine bodyPost_ret (results_two Try.results30 _ _ w.heap.size 25 _ (0, 0) _ _ rfl rfl D3 Try.underlying25 rfl info25) rfl ?_
      exact OfIs.err hX.out (below_setRow' H2.out (Nat.le_refl _) _)
  have hmi : decide ((r0 : Int) < (x1 : Int)) = false := decide_eq_false (by omega)
  have hwa : IntKind.u64.wrap ((p0 : Int) + (x1 : Int)) = ((p0 + x1 : Nat) : Int) := by rw [show (p0 : Int) + (x1 : Int) = ((p0 + x1 : Nat) : Int) by omega]; exact wrapu (by have := HR0.out; omega)
  obtain ⟨f0, hf0⟩ : ∃ f, p0 + x1 = f := ⟨_, rfl⟩
  have hf8 : f0 ≤ 4294967295 := by have := HR0.out; omega
  have HF0 := Lib.hid (show 40 * x0 + x1 = f0 by have := HP0.out; omega)
  have HFL := Lib.hid (show fl l = f0 :: l.drop 2 by unfold fl; rw [HX0.out, HX1.out, HF0.out])
  have HOK := Lib.hid (show (∀ x ∈ l.drop 2, x ≤ 4294967295) → oidOk l = true from fun h => decide_eq_true ⟨by rw [HLN.out]; omega, by rw [HLN.out]; omega, by rw [HX0.out]; omega, by rw [HX0.out, HX1.out]; have := HD.out; omega, by rw [HX0.out, HX1.out, HF0.out]; exact hf8, h⟩)
  have HNO := Lib.hid (show ∀ x ∈ l.drop 2, ¬ x ≤ 4294967295 → ofE l = .error 127 from fun x hx hn => ofE_no (oid_no (fun hh => hn (hh.2.2.2.2.2 x hx))))
  rw [hf0] at hwa
  have HG := Lib.hid (fun W => figure_any W f0 hf8)
  have H88 := Lib.hid (fig_lt f0)
  have h55 := fig_len hf8
  clear hf0 hd
  have HC0 := Lib.hid (show w.cell? ⟨B, o, none⟩ = some (.int .u64 (x0 : Nat)) by have := HC.out w (Below.refl _ _) 0 (by omega); rwa [Nat.add_zero, HX0.out] at this)
  have HC1 := Lib.hid (show w.cell? ⟨B, o + 1, none⟩ = some (.int .u64 (x1 : Nat)) by have := HC.out w (Below.refl _ _) 1 (by omega); rwa [HX1.out] at this)
  by_cases hx2 : x0 < 2
  · have hxi : decide ((x0 : Int) < 2) = true := decide_eq_true (by omega)
    have hxj : decide ((39 : Int) < (x1 : Int)) = false := decide_eq_false (by have := HD.out; omega)
    go_enter Try.func30, Try.ntmps30
    go_wp2_with fail
    generalize w.alloc (.cells #[.int .u8 0, .slice none 0 0, .slice none 0 0] 25) = W1 at *
    go_quiet (fail)
    have B2 := Lib.hid (B0.out.drewN nq)
    have H2 := Lib.hid (below_drewN BEL.out nq)
    generalize W1.drewN nq = W2 at *
    have k0 : W2.cell? ⟨B, o, none⟩ = some (.int .u64 (x0 : Nat)) := (H2.out.cell (World.block_lt_of_cell? w _ HC0.out)).trans HC0.out
    have k1 : W2.cell? ⟨B, o + 1, none⟩ = some (.int .u64 (x1 : Nat)) := (H2.out.cell (World.block_lt_of_cell? w _ HC1.out)).trans HC1.out
    clear g0 g1
    go_wp2_with fail
    refine wp_region_L (fun w_ => Below W2.heap.size W2 w_) [] [0, 1, 3, 4, 5, 7, 9] (by kernel_rfl) (Below.refl _ _).drew ?_
    refine wpAnyL_pure (fun _ _ hS_ hb_ => gr_bel hS_ hb_) (i := 0) rfl (by kernel_rfl) (fun _ _ _ h => h) (pureG (by rfl) (by intro w_; go_simp; first | done | with_reducible rfl)) ?_
    try simp only [Act.put, List.getElem_toArray, List.getElem_cons_succ, List.getElem_cons_zero, List.setIfInBounds_toArray, List.set_cons_zero, List.set_cons_succ]
    refine wpAnyL_pure (fun _ _ hS_ hb_ => gr_bel hS_ hb_) (i := 1) rfl (by kernel_rfl) (fun _ _ _ h => h) (pureG (by rfl) (by intro w_; go_simp; first | done | with_reducible rfl)) ?_
    try simp only [Act.put, List.getElem_toArray, List.getElem_cons_succ, List.getElem_cons_zero, List.setIfInBounds_toArray, List.set_cons_zero, List.set_cons_succ]
    refine wpAnyL_take (fun _ _ hS_ hb_ => gr_bel hS_ hb_) (i := 2) rfl (by kernel_rfl) (fun _ _ _ h => h) (worldG (by rfl) (by intro w_ hS_; have q := (hS_.cell (World.block_lt_of_cell? W2 _ k0)).trans k0; go_simp; first | done | with_reducible rfl)) ?_
    try simp only [Act.put, List.getElem_toArray, List.getElem_cons_succ, List.getElem_cons_zero, List.setIfInBounds_toArray, List.set_cons_zero, List.set_cons_succ]
    refine wpAnyL_pure (fun _ _ hS_ hb_ => gr_bel hS_ hb_) (i := 3) rfl (by kernel_rfl) (fun _ _ _ h => h) (pureG (by rfl) (by intro w_; go_simp; first | done | with_reducible rfl)) ?_
    try simp only [Act.put, List.getElem_toArray, List.getElem_cons_succ, List.getElem_cons_zero, List.setIfInBounds_toArray, List.set_cons_zero, List.set_cons_succ]
    refine wpAnyL_pure (fun _ _ hS_ hb_ => gr_bel hS_ hb_) (i := 4) rfl (by kernel_rfl) (fun _ _ _ h => h) (pureG (by rfl) (by intro w_; go_simp; first | done | with_reducible rfl)) ?_
    try simp only [Act.put, List.getElem_toArray, List.getElem_cons_succ, List.getElem_cons_zero, List.setIfInBounds_toArray, List.set_cons_zero, List.set_cons_succ]
    refine wpAnyL_pure (fun _ _ hS_ hb_ => gr_bel hS_ hb_) (i := 5) rfl (by kernel_rfl) (fun _ _ _ h => h) (pureG (by rfl) (by intro w_; go_simp; first | done | with_reducible rfl)) ?_
    try simp only [Act.put, List.getElem_toArray, List.getElem_cons_succ, List.getElem_cons_zero, List.setIfInBounds_toArray, List.set_cons_zero, List.set_cons_succ]
    refine wpAnyL_take (fun _ _ hS_ hb_ => gr_bel hS_ hb_) (i := 6) rfl (by kernel_rfl) (fun _ _ _ h => h) (worldG (by rfl) (by intro w_ hS_; have q := (hS_.cell (World.block_lt_of_cell? W2 _ k1)).trans k1; go_simp; first | done | with_reducible rfl)) ?_
    try simp only [Act.put, List.getElem_toArray, List.getElem_cons_succ, List.getElem_cons_zero, List.setIfInBounds_toArray, List.set_cons_zero, List.set_cons_succ]
    refine wpAnyL_pure (fun _ _ hS_ hb_ => gr_bel hS_ hb_) (i := 7) rfl (by kernel_rfl) (fun _ _ _ h => h) (pureG (by rfl) (by intro w_; go_simp; first | done | with_reducible rfl)) ?_
    try simp only [Act.put, List.getElem_toArray, List.getElem_cons_succ, List.getElem_cons_zero, List.setIfInBounds_toArray, List.set_cons_zero, List.set_cons_succ]
    refine wpAnyL_one (i := 8) (by kernel_rfl) (by decide) fun W3 hgW3 hSW3 => ?_
    refine wpOp_callE (i := 8) rfl (by rfl) rfl Try.func62 (by kernel_rfl) (by kernel_rfl) #[.int .u64 (f0 : Nat)] (by simp [Act.eval]) ((HG.out W3).mono ?_)
    rintro e w4 ⟨v4, rfl, ho4, hb4⟩
    refine ⟨_, rfl, Gr.trans hSW3 hb4, ?_⟩
    try simp only [Act.put, List.getElem_toArray, List.getElem_cons_succ, List.getElem_cons_zero, List.setIfInBounds_toArray, List.set_cons_zero, List.set_cons_succ]
    obtain ⟨a4, c4, rfl⟩ := own_slice ho4
    refine wpAnyL_pure (fun _ _ hS_ hb_ => gr_bel hS_ hb_) (i := 9) rfl (by kernel_rfl) (fun _ _ _ h => h) (pureG (by rfl) (by intro w_; go_simp; first | done | with_reducible rfl)) ?_
    try simp only [Act.put, List.getElem_toArray, List.getElem_cons_succ, List.getElem_cons_zero, List.setIfInBounds_toArray, List.set_cons_zero, List.set_cons_succ]
    refine wpAnyL_done (by kernel_rfl) ?_ _
    intro W5 hgW5
    have hb5 : Below W2.heap.size W2 W5 := Gr.trans (Gr.trans hSW3 hb4) hgW5
    have ho5 := own_below (ownsMono ho4 hSW3.size) hgW5
    have HO5 := Lib.hid ho5
    have B5 := Lib.hid (B2.out.below' hb5)
    have H5 := Lib.hid (H2.out.trans (hb5.mono H2.out.size))
    have HB5 := Lib.hid hb5
    have hs2 : w.heap.size + 1 ≤ W2.heap.size := B2.out.lt
    have HS2 := Lib.hid hs2
    obtain ⟨T, hT⟩ : ∃ T, l.drop 2 = T := ⟨_, rfl⟩
    rw [hT] at HFL HOK HNO
    have HTL := Lib.hid (show T.length = n - 2 by rw [← hT, List.length_drop, HLN.out])
    have HTG := Lib.hid (show ∀ q, T.getD q 0 = l.getD (q + 2) 0 from fun q => by rw [← hT]; simp [List.getD_eq_getElem?_getD, List.getElem?_drop, Nat.add_comm])
    obtain ⟨m, hm2⟩ : ∃ m, n = m + 2 := ⟨n - 2, by omega⟩
    have HM := Lib.hid hm2
    clear hT ho4 ho5 hb4 hb5 hgW5 hgW3 hSW3 hs2 hs1 hm2
    go_wp2_with fail
    go_loopw [4, 5] (fun b i wr => ∃ q, q ≤ m ∧ i = .int .i64 ((q : Int) + 2) ∧ wr.ownsRow W2.heap.size 5 1 b (fig f0 ++ figs (T.take q)).length (bytesV (fig f0 ++ figs (T.take q))) ∧ (∀ x, x < q → T.getD x 0 ≤ 4294967295) ∧ Below W2.heap.size W2 wr) (fun _ i _ => n - (intOf i).toNat)
    case atStart => exact ⟨0, Nat.zero_le _, rfl, by simpa [figs] using HO5.out, fun x hx => by omega, HB5.out⟩
    case round =>
      obtain ⟨q, hq, rfl, hown, hall, hbel⟩ := hrel
      have HO := Lib.hid hown
      have HBL := Lib.hid hbel
      have HA := Lib.hid hall
      have BR := Lib.hid (B2.out.below' hbel)
      have HR := Lib.hid (H2.out.trans (hbel.mono H2.out.size))
      have hlq : (fig f0 ++ figs (T.take q)).length ≤ 200 := by
        have h1 : (figs (T.take q)).length ≤ 5 * (T.take q).length := figs_len (fun v hv => by
          obtain ⟨j, hj, rfl⟩ := List.getElem_of_mem hv
          have hj2 : j < q := by rw [List.length_take] at hj; omega
          have := hall j hj2
          rw [List.getElem_take]
          rwa [List.getD_eq_getElem?_getD, List.getElem?_eq_getElem (by rw [List.length_take] at hj; omega)] at this)
        have h2 : (T.take q).length ≤ q := by rw [List.length_take]; omega
        have := HM.out; rw [List.length_append]; omega
      obtain ⟨ab, cb, rfl⟩ := own_slice hown
      clear hown hbel hall
      by_cases hqm : q < m
      · have hqi : (q : Int) + 2 < (n : Int) := by have := HM.out; omega
        have cq := HC.out wr HR.out (q + 2) (by have := HM.out; omega)
        rw [← HTG.out q] at cq
        have hcast : ((q : Int) + 2).toNat = q + 2 := by omega
        have hqn : q + 2 < n := by have := HM.out; omega
        have hx8 := getD_ltw (l := T) (fun x hx => by obtain ⟨j, hj, rfl⟩ := List.getElem_of_mem hx; have := HTG.out j; rw [List.getD_eq_getElem?_getD, List.getElem?_eq_getElem hj] at this; simp only [Option.getD_some] at this; rw [this]; exact getD_ltw HW64.out _) q
        have HMEM := Lib.hid (show T.getD q 0 ∈ T by rw [List.getD_eq_getElem?_getD, List.getElem?_eq_getElem (by have := HM.out; rw [HTL.out]; omega)]; exact List.getElem_mem _)
        by_cases hbig : 4294967295 < T.getD q 0
        · have hX := Lib.hid (HNO.out _ HMEM.out (by omega))
          have hbi : (4294967295 : Int) < ((T.getD q 0 : Nat) : Int) := by omega
          generalize T.getD q 0 = y at *
          go_wp2_with (first | (refine wpList_store_row (P := Try.prog) rfl 25 (.tmp 2) (.tmp 64) rfl w.heap.size #[.int .u8 0, .slice none 0 0, .slice none 0 0] rfl rfl 25 _ BR.out info25 rfl (all_item _ _ _ _ _ _ _) ?_))
          have D3 := BR.out.setRow [.int .u8 0, .slice none 0 0, .slice none 0 0]
          refine bodyPost_ret (results_two Try.results30 _ _ w.heap.size 25 _ (0, 0) _ _ rfl rfl D3 Try.underlying25 rfl info25) rfl ?_
          exact OfIs.err hX.out (below_setRow' HR.out (Nat.le_refl _) _)
        · have hbi : ¬ (4294967295 : Int) < ((T.getD q 0 : Nat) : Int) := by omega
          have HA2 := Lib.hid (show ∀ x, x < q + 1 → T.getD x 0 ≤ 4294967295 from fun x hx => by rcases Nat.lt_or_ge x q with h | h; exact HA.out x h; (obtain rfl : x = q := by omega); omega)
          have HT := Lib.hid (figs_take T q (by have := HM.out; rw [HTL.out]; omega))
          have H8 := Lib.hid (fig_lt (T.getD q 0))
          have h5 := fig_len (v := T.getD q 0) (by omega)
          have HG2 := Lib.hid (fun W => figure_any W (T.getD q 0) (by omega))
          generalize T.getD q 0 = y at *
          obtain ⟨k, hk⟩ : ∃ k, (fig f0 ++ figs (T.take q)).length = k := ⟨_, rfl⟩
          have HK := Lib.hid hk
          rw [hk] at HO hlq ⊢
          clear hk
          go_wp2_with (first | (go_at_call 62; (refine (HG2.out _).mono ?_); rintro e w3 ⟨v3, rfl, ho3, hb3⟩; obtain ⟨a3, c3, rfl⟩ := own_slice ho3; obtain ⟨a3', c3', e3, hi3, _⟩ := own_in ho3 H8.out (by omega); injection e3 with e31 e32 e33; subst e31 e33; have HI3 := Lib.hid hi3; have HB3 := Lib.hid (HBL.out.trans (hb3.mono HBL.out.size)); have HO3 := Lib.hid (own_below HO.out hb3); clear ho3 hi3) | (at_builtin; refine wpList_append_bytes _ rfl (.tmp 65) (.tmp 70) rfl W2.heap.size (.slice ab k cb) k (fig f0 ++ figs (T.take q)) rfl HO3.out a3 (fig y).length c3 (fig y) rfl HI3.out (by omega) HB3.out.size ?_; intro v4 w4 ho4 hg4))
          have hb4 : Below W2.heap.size W2 w4 := HB3.out.grown hg4 HB3.out.size (fun x hx => (HO3.out.lt x hx).1)
          have e5 : k + (fig y).length = (fig f0 ++ figs (T.take (q + 1))).length := by rw [HT.out, ← HK.out]; simp; omega
          have e6 : fig f0 ++ figs (T.take q) ++ fig y = fig f0 ++ figs (T.take (q + 1)) := by rw [HT.out]; simp
          rw [e5, e6] at ho4
          go_roundw
          case rel => exact ⟨q + 1, by omega, by first | (congr 1; done) | (congr 1; omega), ho4, HA2.out, hb4⟩
          case measure => simp [intOf]; omega
      · have hqi : ¬ (q : Int) + 2 < (n : Int) := by have := HM.out; omega
        have HE := Lib.hid (show fig f0 ++ figs (T.take q) = figs (fl l) by rw [HFL.out, List.take_of_length_le (by have := HM.out; rw [HTL.out]; omega)]; rfl)
        have HX := Lib.hid (show ofE l = .ok (figs (fl l)) by
          unfold ofE
          rw [if_pos (HOK.out (fun x hx => by obtain ⟨j, hj, rfl⟩ := List.getElem_of_mem hx; have := HA.out j (by have := HM.out; rw [HTL.out] at hj; omega); rwa [List.getD_eq_getElem?_getD, List.getElem?_eq_getElem hj] at this))])
        rw [HE.out] at HO hlq ⊢
        obtain ⟨k, hk⟩ : ∃ k, (figs (fl l)).length = k := ⟨_, rfl⟩
        have HK := Lib.hid hk
        rw [hk] at HO hlq ⊢
        clear hk
        go_wp2_with (first | (refine wpList_store_row (P := Try.prog) rfl 25 (.tmp 2) (.tmp 73) rfl w.heap.size #[.int .u8 6, .slice ab k cb, .slice none 0 0] rfl rfl 25 _ BR.out info25 rfl (all_item _ _ _ _ _ _ _) ?_))
        have D3 := BR.out.setRow [.int .u8 6, .slice ab k cb, .slice none 0 0]
        refine bodyPost_ret (results_two Try.results30 _ _ w.heap.size 25 _ (0, 0) _ _ rfl rfl D3 Try.underlying25 rfl info25) rfl ?_
        have hO2 := own_set HO.out BR.out (by decide) #[.int .u8 6, .slice ab k cb, .slice none 0 0]
        obtain ⟨a5, c5, e5, hin5, _⟩ := own_in hO2 (figs_lt _) (by omega)
        injection e5 with e51 e52 e53
        subst e51 e53
        exact OfIs.good HX.out (below_setRow' HR.out (Nat.le_refl _) _) HK.out hin5
  · have hxi : decide ((x0 : Int) < 2) = false := decide_eq_false (by omega)
    go_enter Try.func30, Try.ntmps30
    go_wp2_with fail
    generalize w.alloc (.cells #[.int .u8 0, .slice none 0 0, .slice none 0 0] 25) = W1 at *
    go_quiet (fail)
    have B2 := Lib.hid (B0.out.drewN nq)
    have H2 := Lib.hid (below_drewN BEL.out nq)
    generalize W1.drewN nq = W2 at *
    have k0 : W2.cell? ⟨B, o, none⟩ = some (.int .u64 (x0 : Nat)) := (H2.out.cell (World.block_lt_of_cell? w _ HC0.out)).trans HC0.out
    have k1 : W2.cell? ⟨B, o + 1, none⟩ = some (.int .u64 (x1 : Nat)) := (H2.out.cell (World.block_lt_of_cell? w _ HC1.out)).trans HC1.out
    clear g0 g1
    go_wp2_with fail
    refine wp_region_L (fun w_ => Below W2.heap.size W2 w_) [] [0, 1, 3, 4, 5, 7, 9] (by kernel_rfl) (Below.refl _ _).drew ?_
    refine wpAnyL_pure (fun _ _ hS_ hb_ => gr_bel hS_ hb_) (i := 0) rfl (by kernel_rfl) (fun _ _ _ h => h) (pureG (by rfl) (by intro w_; go_simp; first | done | with_reducible rfl)) ?_
    try simp only [Act.put, List.getElem_toArray, List.getElem_cons_succ, List.getElem_cons_zero, List.setIfInBounds_toArray, List.set_cons_zero, List.set_cons_succ]
    refine wpAnyL_pure (fun _ _ hS_ hb_ => gr_bel hS_ hb_) (i := 1) rfl (by kernel_rfl) (fun _ _ _ h => h) (pureG (by rfl) (by intro w_; go_simp; first | done | with_reducible rfl)) ?_
    try simp only [Act.put, List.getElem_toArray, List.getElem_cons_succ, List.getElem_cons_zero, List.setIfInBounds_toArray, List.set_cons_zero, List.set_cons_succ]
    refine wpAnyL_take (fun _ _ hS_ hb_ => gr_bel hS_ hb_) (i := 2) rfl (by kernel_rfl) (fun _ _ _ h => h) (worldG (by rfl) (by intro w_ hS_; have q := (hS_.cell (World.block_lt_of_cell? W2 _ k0)).trans k0; go_simp; first | done | with_reducible rfl)) ?_
    try simp only [Act.put, List.getElem_toArray, List.getElem_cons_succ, List.getElem_cons_zero, List.setIfInBounds_toArray, List.set_cons_zero, List.set_cons_succ]
    refine wpAnyL_pure (fun _ _ hS_ hb_ => gr_bel hS_ hb_) (i := 3) rfl (by kernel_rfl) (fun _ _ _ h => h) (pureG (by rfl) (by intro w_; go_simp; first | done | with_reducible rfl)) ?_
    try simp only [Act.put, List.getElem_toArray, List.getElem_cons_succ, List.getElem_cons_zero, List.setIfInBounds_toArray, List.set_cons_zero, List.set_cons_succ]
    refine wpAnyL_pure (fun _ _ hS_ hb_ => gr_bel hS_ hb_) (i := 4) rfl (by kernel_rfl) (fun _ _ _ h => h) (pureG (by rfl) (by intro w_; go_simp; first | done | with_reducible rfl)) ?_
    try simp only [Act.put, List.getElem_toArray, List.getElem_cons_succ, List.getElem_cons_zero, List.setIfInBounds_toArray, List.set_cons_zero, List.set_cons_succ]
    refine wpAnyL_pure (fun _ _ hS_ hb_ => gr_bel hS_ hb_) (i := 5) rfl (by kernel_rfl) (fun _ _ _ h => h) (pureG (by rfl) (by intro w_; go_simp; first | done | with_reducible rfl)) ?_
    try simp only [Act.put, List.getElem_toArray, List.getElem_cons_succ, List.getElem_cons_zero, List.setIfInBounds_toArray, List.set_cons_zero, List.set_cons_succ]
    refine wpAnyL_take (fun _ _ hS_ hb_ => gr_bel hS_ hb_) (i := 6) rfl (by kernel_rfl) (fun _ _ _ h => h) (worldG (by rfl) (by intro w_ hS_; have q := (hS_.cell (World.block_lt_of_cell? W2 _ k1)).trans k1; go_simp; first | done | with_reducible rfl)) ?_
    try simp only [Act.put, List.getElem_toArray, List.getElem_cons_succ, List.getElem_cons_zero, List.setIfInBounds_toArray, List.set_cons_zero, List.set_cons_succ]
    refine wpAnyL_pure (fun _ _ hS_ hb_ => gr_bel hS_ hb_) (i := 7) rfl (by kernel_rfl) (fun _ _ _ h => h) (pureG (by rfl) (by intro w_; go_simp; first | done | with_reducible rfl)) ?_
    try simp only [Act.put, List.getElem_toArray, List.getElem_cons_succ, List.getElem_cons_zero, List.setIfInBounds_toArray, List.set_cons_zero, List.set_cons_succ]
    refine wpAnyL_one (i := 8) (by kernel_rfl) (by decide) fun W3 hgW3 hSW3 => ?_
    refine wpOp_callE (i := 8) rfl (by rfl) rfl Try.func62 (by kernel_rfl) (by kernel_rfl) #[.int .u64 (f0 : Nat)] (by simp [Act.eval]) ((HG.out W3).mono ?_)
    rintro e w4 ⟨v4, rfl, ho4, hb4⟩
    refine ⟨_, rfl, Gr.trans hSW3 hb4, ?_⟩
    try simp only [Act.put, List.getElem_toArray, List.getElem_cons_succ, List.getElem_cons_zero, List.setIfInBounds_toArray, List.set_cons_zero, List.set_cons_succ]
    obtain ⟨a4, c4, rfl⟩ := own_slice ho4
    refine wpAnyL_pure (fun _ _ hS_ hb_ => gr_bel hS_ hb_) (i := 9) rfl (by kernel_rfl) (fun _ _ _ h => h) (pureG (by rfl) (by intro w_; go_simp; first | done | with_reducible rfl)) ?_
    try simp only [Act.put, List.getElem_toArray, List.getElem_cons_succ, List.getElem_cons_zero, List.setIfInBounds_toArray, List.set_cons_zero, List.set_cons_succ]
    refine wpAnyL_done (by kernel_rfl) ?_ _
    intro W5 hgW5
    have hb5 : Below W2.heap.size W2 W5 := Gr.trans (Gr.trans hSW3 hb4) hgW5
    have ho5 := own_below (ownsMono ho4 hSW3.size) hgW5
    have HO5 := Lib.hid ho5
    have B5 := Lib.hid (B2.out.below' hb5)
    have H5 := Lib.hid (H2.out.trans (hb5.mono H2.out.size))
    have HB5 := Lib.hid hb5
    have hs2 : w.heap.size + 1 ≤ W2.heap.size := B2.out.lt
    have HS2 := Lib.hid hs2
    obtain ⟨T, hT⟩ : ∃ T, l.drop 2 = T := ⟨_, rfl⟩
    rw [hT] at HFL HOK HNO
    have HTL := Lib.hid (show T.length = n - 2 by rw [← hT, List.length_drop, HLN.out])
    have HTG := Lib.hid (show ∀ q, T.getD q 0 = l.getD (q + 2) 0 from fun q => by rw [← hT]; simp [List.getD_eq_getElem?_getD, List.getElem?_drop, Nat.add_comm])
    obtain ⟨m, hm2⟩ : ∃ m, n = m + 2 := ⟨n - 2, by omega⟩
    have HM := Lib.hid hm2
    clear hT ho4 ho5 hb4 hb5 hgW5 hgW3 hSW3 hs2 hs1 hm2
    go_wp2_with fail
    go_loopw [4, 5] (fun b i wr => ∃ q, q ≤ m ∧ i = .int .i64 ((q : Int) + 2) ∧ wr.ownsRow W2.heap.size 5 1 b (fig f0 ++ figs (T.take q)).length (bytesV (fig f0 ++ figs (T.take q))) ∧ (∀ x, x < q → T.getD x 0 ≤ 4294967295) ∧ Below W2.heap.size W2 wr) (fun _ i _ => n - (intOf i).toNat)
    case atStart => exact ⟨0, Nat.zero_le _, rfl, by simpa [figs] using HO5.out, fun x hx => by omega, HB5.out⟩
    case round =>
      obtain ⟨q, hq, rfl, hown, hall, hbel⟩ := hrel
      have HO := Lib.hid hown
      have HBL := Lib.hid hbel
      have HA := Lib.hid hall
      have BR := Lib.hid (B2.out.below' hbel)
      have HR := Lib.hid (H2.out.trans (hbel.mono H2.out.size))
      have hlq : (fig f0 ++ figs (T.take q)).length ≤ 200 := by
        have h1 : (figs (T.take q)).length ≤ 5 * (T.take q).length := figs_len (fun v hv => by
          obtain ⟨j, hj, rfl⟩ := List.getElem_of_mem hv
          have hj2 : j < q := by rw [List.length_take] at hj; omega
          have := hall j hj2
          rw [List.getElem_take]
          rwa [List.getD_eq_getElem?_getD, List.getElem?_eq_getElem (by rw [List.length_take] at hj; omega)] at this)
        have h2 : (T.take q).length ≤ q := by rw [List.length_take]; omega
        have := HM.out; rw [List.length_append]; omega
      obtain ⟨ab, cb, rfl⟩ := own_slice hown
      clear hown hbel hall
      by_cases hqm : q < m
      · have hqi : (q : Int) + 2 < (n : Int) := by have := HM.out; omega
        have cq := HC.out wr HR.out (q + 2) (by have := HM.out; omega)
        rw [← HTG.out q] at cq
        have hcast : ((q : Int) + 2).toNat = q + 2 := by omega
        have hqn : q + 2 < n := by have := HM.out; omega
        have hx8 := getD_ltw (l := T) (fun x hx => by obtain ⟨j, hj, rfl⟩ := List.getElem_of_mem hx; have := HTG.out j; rw [List.getD_eq_getElem?_getD, List.getElem?_eq_getElem hj] at this; simp only [Option.getD_some] at this; rw [this]; exact getD_ltw HW64.out _) q
        have HMEM := Lib.hid (show T.getD q 0 ∈ T by rw [List.getD_eq_getElem?_getD, List.getElem?_eq_getElem (by have := HM.out; rw [HTL.out]; omega)]; exact List.getElem_mem _)
        by_cases hbig : 4294967295 < T.getD q 0
        · have hX := Lib.hid (HNO.out _ HMEM.out (by omega))
          have hbi : (4294967295 : Int) < ((T.getD q 0 : Nat) : Int) := by omega
          generalize T.getD q 0 = y at *
          go_wp2_with (first | (refine wpList_store_row (P := Try.prog) rfl 25 (.tmp 2) (.tmp 64) rfl w.heap.size #[.int .u8 0, .slice none 0 0, .slice none 0 0] rfl rfl 25 _ BR.out info25 rfl (all_item _ _ _ _ _ _ _) ?_))
          have D3 := BR.out.setRow [.int .u8 0, .slice none 0 0, .slice none 0 0]
          refine bodyPost_ret (results_two Try.results30 _ _ w.heap.size 25 _ (0, 0) _ _ rfl rfl D3 Try.underlying25 rfl info25) rfl ?_
          exact OfIs.err hX.out (below_setRow' HR.out (Nat.le_refl _) _)
        · have hbi : ¬ (4294967295 : Int) < ((T.getD q 0 : Nat) : Int) := by omega
          have HA2 := Lib.hid (show ∀ x, x < q + 1 → T.getD x 0 ≤ 4294967295 from fun x hx => by rcases Nat.lt_or_ge x q with h | h; exact HA.out x h; (obtain rfl : x = q := by omega); omega)
          have HT := Lib.hid (figs_take T q (by have := HM.out; rw [HTL.out]; omega))
          have H8 := Lib.hid (fig_lt (T.getD q 0))
          have h5 := fig_len (v := T.getD q 0) (by omega)
          have HG2 := Lib.hid (fun W => figure_any W (T.getD q 0) (by omega))
          generalize T.getD q 0 = y at *
          obtain ⟨k, hk⟩ : ∃ k, (fig f0 ++ figs (T.take q)).length = k := ⟨_, rfl⟩
          have HK := Lib.hid hk
          rw [hk] at HO hlq ⊢
          clear hk
          go_wp2_with (first | (go_at_call 62; (refine (HG2.out _).mono ?_); rintro e w3 ⟨v3, rfl, ho3, hb3⟩; obtain ⟨a3, c3, rfl⟩ := own_slice ho3; obtain ⟨a3', c3', e3, hi3, _⟩ := own_in ho3 H8.out (by omega); injection e3 with e31 e32 e33; subst e31 e33; have HI3 := Lib.hid hi3; have HB3 := Lib.hid (HBL.out.trans (hb3.mono HBL.out.size)); have HO3 := Lib.hid (own_below HO.out hb3); clear ho3 hi3) | (at_builtin; refine wpList_append_bytes _ rfl (.tmp 65) (.tmp 70) rfl W2.heap.size (.slice ab k cb) k (fig f0 ++ figs (T.take q)) rfl HO3.out a3 (fig y).length c3 (fig y) rfl HI3.out (by omega) HB3.out.size ?_; intro v4 w4 ho4 hg4))
          have hb4 : Below W2.heap.size W2 w4 := HB3.out.grown hg4 HB3.out.size (fun x hx => (HO3.out.lt x hx).1)
          have e5 : k + (fig y).length = (fig f0 ++ figs (T.take (q + 1))).length := by rw [HT.out, ← HK.out]; simp; omega
          have e6 : fig f0 ++ figs (T.take q) ++ fig y = fig f0 ++ figs (T.take (q + 1)) := by rw [HT.out]; simp
          rw [e5, e6] at ho4
          go_roundw
          case rel => exact ⟨q + 1, by omega, by first | (congr 1; done) | (congr 1; omega), ho4, HA2.out, hb4⟩
          case measure => simp [intOf]; omega
      · have hqi : ¬ (q : Int) + 2 < (n : Int) := by have := HM.out; omega
        have HE := Lib.hid (show fig f0 ++ figs (T.take q) = figs (fl l) by rw [HFL.out, List.take_of_length_le (by have := HM.out; rw [HTL.out]; omega)]; rfl)
        have HX := Lib.hid (show ofE l = .ok (figs (fl l)) by
          unfold ofE
          rw [if_pos (HOK.out (fun x hx => by obtain ⟨j, hj, rfl⟩ := List.getElem_of_mem hx; have := HA.out j (by have := HM.out; rw [HTL.out] at hj; omega); rwa [List.getD_eq_getElem?_getD, List.getElem?_eq_getElem hj] at this))])
        rw [HE.out] at HO hlq ⊢
        obtain ⟨k, hk⟩ : ∃ k, (figs (fl l)).length = k := ⟨_, rfl⟩
        have HK := Lib.hid hk
        rw [hk] at HO hlq ⊢
        clear hk
        go_wp2_with (first | (refine wpList_store_row (P := Try.prog) rfl 25 (.tmp 2) (.tmp 73) rfl w.heap.size #[.int .u8 6, .slice ab k cb, .slice none 0 0] rfl rfl 25 _ BR.out info25 rfl (all_item _ _ _ _ _ _ _) ?_))
        have D3 := BR.out.setRow [.int .u8 6, .slice ab k cb, .slice none 0 0]
        refine bodyPost_ret (results_two Try.results30 _ _ w.heap.size 25 _ (0, 0) _ _ rfl rfl D3 Try.underlying25 rfl info25) rfl ?_
        have hO2 := own_set HO.out BR.out (by decide) #[.int .u8 6, .slice ab k cb, .slice none 0 0]
        obtain ⟨a5, c5, e5, hin5, _⟩ := own_in hO2 (figs_lt _) (by omega)
        injection e5 with e51 e52 e53
        subst e51 e53
        exact OfIs.good HX.out (below_setRow' HR.out (Nat.le_refl _) _) HK.out hin5
end Go.Proofs.Ytbabpmncdphnjaa
