/- Parts of proofs of statements, each text behind those that it stands on. No condition of its own. -/
import Derived.Test.YtbabpmncdphnjaaGreatQ21
namespace Go.Proofs.YtbabpmncdphnjaaGreat
open Go.RowKit
set_option linter.unusedVariables false
set_option maxRecDepth 100000
set_option linter.unusedSimpArgs false
set_option maxHeartbeats 4000000 in
theorem rOfUint_d (w : World) (v : Nat) (hv : v < 18446744073709551616) : Calls Tryz.prog 45 #[.int .u64 (v : Nat)] w (ItR NoD 2 (be (nb v) v) .nil w) := by
  have B0 := Lib.hid (Blk.new w 45 [.int .u8 0, .slice none 0 0, .slice none 0 0])
  have BEL := Lib.hid ((Below.refl w.heap.size w).alloc (Nat.le_refl _) (.cells #[.int .u8 0, .slice none 0 0, .slice none 0 0] 45))
  have hs1 : (w.alloc (.cells #[.int .u8 0, .slice none 0 0, .slice none 0 0] 45)).heap.size = w.heap.size + 1 := by simp
  have HV := Lib.hid hv
  have h8 : v < 256 ^ 8 := hv
  clear hv
  go_enter Tryz.func45, Tryz.ntmps45
  go_wp2_with fail
  generalize w.alloc (.cells #[.int .u8 0, .slice none 0 0, .slice none 0 0] 45) = W1 at *
  have HS1 := Lib.hid hs1
  have H8 := Lib.hid h8
  clear hs1 h8
  go_loopw [0, 3] (fun x b wr => ∃ j, j ≤ 8 ∧ x = .int .u64 (v / 256 ^ j : Nat) ∧ wr.ownsRow W1.heap.size 5 1 b j (bytesV (be j v)) ∧ (j ≤ 1 ∨ 256 ^ (j - 1) ≤ v) ∧ (j = 0 → b = .slice none 0 0) ∧ Below W1.heap.size W1 wr) (fun _ b _ => 9 - lenOf b)
  case atStart => exact ⟨0, by omega, by simp, World.ownsRow_nil _ _ _ _, .inl (by omega), fun _ => rfl, Below.refl _ _⟩
  case round =>
    obtain ⟨j, hj, rfl, hown, hlow, hj0, hbel⟩ := hrel
    obtain ⟨a, c, rfl⟩ := own_slice hown
    have HO := Lib.hid hown
    have HL := Lib.hid hlow
    have HBW := Lib.hid (BEL.out.trans (hbel.mono BEL.out.size))
    obtain ⟨a', c', e, hin, _⟩ := own_in hown (be_lt _ _) (by omega)
    injection e with e1 e2 e3
    subst e1 e3
    have HI := Lib.hid hin
    have hX : v / 256 ^ j < 18446744073709551616 := Nat.lt_of_le_of_lt (Nat.div_le_self _ _) HV.out
    have hX2 := Lib.hid (show v / 256 ^ j / 256 = v / 256 ^ (j + 1) by rw [Nat.div_div_eq_div_mul, Nat.pow_succ])
    have hT := Lib.hid (be_top j v)
    have hZ := Lib.hid (show 0 < v / 256 ^ j → 256 ^ j ≤ v from fun h => by
      have := (Nat.le_div_iff_mul_le (Nat.pow_pos (n := j) (show 0 < 256 by omega))).1 h; omega)
    have hN := Lib.hid (show v / 256 ^ j = 0 → v < 256 ^ j from fun h => by
      have := (Nat.div_eq_zero_iff_lt (Nat.pow_pos (n := j) (show 0 < 256 by omega))).1 h; exact this)
    obtain ⟨X, hXe⟩ : ∃ X, v / 256 ^ j = X := ⟨_, rfl⟩
    have HXE := Lib.hid hXe
    rw [hXe] at hX hX2 hT hZ hN ⊢
    clear hown hlow hin hXe
    by_cases hgo : 0 < X ∨ j = 0
    · have hj7 : j ≤ 7 := by
        rcases hgo with h | h
        · have h1 := hZ.out h
          have h2 := H8.out
          rcases Nat.lt_or_ge j 8 with h3 | h3
          · omega
          · obtain rfl : j = 8 := by omega
            omega
        · omega
      have hlow2 := Lib.hid (show j + 1 ≤ 1 ∨ 256 ^ (j + 1 - 1) ≤ v by
        rcases hgo with h | h
        · exact .inr (hZ.out h)
        · exact .inl (by omega))
      have hL1 := Lib.hid (fun W : World => own_lit1 W (X % 256))
      have hgp : (0 : Int) < (X : Int) ∨ (¬ (0 : Int) < (X : Int) ∧ (j : Int) = 0) := by omega
      have HBL := Lib.hid hbel
      rcases hgp with hgp | ⟨hgp, hgq⟩
      · go_wp2_with (first | (at_builtin; refine wpList_append_bytes _ rfl (.tmp 14) (.tmp 15) rfl W1.heap.size (.slice (some ⟨wr.heap.size, 0, none⟩) 1 1) 1 [X % 256] rfl (ownsMono (hL1.out wr) HBL.out.size) a j c (be j v) rfl (HI.out.below ((Below.refl _ _).alloc (Nat.le_refl _) _)) (by omega) (by have := HBL.out.size; simp; omega) ?_; intro v4 w4 ho4 hg4))
        have hb4 : Below W1.heap.size W1 w4 := (HBL.out.alloc HBL.out.size _).grown hg4 (HBL.out.alloc HBL.out.size _).size (fun x hx => by simp [Value.ownBlock] at hx; have := HBL.out.size; omega)
        obtain ⟨a4, c4, rfl⟩ := own_slice ho4
        go_roundw
        case rel =>
          refine ⟨j + 1, by omega, by rw [← hX2.out]; go_num, ?_, hlow2.out, fun h => by omega, hb4⟩
          rw [hT.out, Nat.add_comm j 1]; exact ho4
        case measure => simp only [lenOf]; omega
      · obtain rfl : j = 0 := by omega
        have e0 := hj0 rfl
        injection e0 with e01 e02 e03
        subst e01 e03
        obtain rfl : X = 0 := by omega
        clear hj0 hgq hgo e02 hgp
        go_wp2_with (first | (at_builtin; refine wpList_append_bytes _ rfl (.tmp 14) (.tmp 15) rfl W1.heap.size (.slice (some ⟨wr.heap.size, 0, none⟩) 1 1) 1 [0] rfl (ownsMono (own_lit1 wr 0) HBL.out.size) none 0 0 (be 0 v) rfl (HI.out.below ((Below.refl _ _).alloc (Nat.le_refl _) _)) (by omega) (by have := HBL.out.size; simp; omega) ?_; intro v4 w4 ho4 hg4))
        have hb4 : Below W1.heap.size W1 w4 := (HBL.out.alloc HBL.out.size _).grown hg4 (HBL.out.alloc HBL.out.size _).size (fun x hx => by simp [Value.ownBlock] at hx; have := HBL.out.size; omega)
        obtain ⟨a4, c4, rfl⟩ := own_slice ho4
        go_roundw
        case rel =>
          refine ⟨1, by omega, by rw [show (1 : Nat) = 0 + 1 from rfl, ← hX2.out]; go_num, ?_, hlow2.out, fun h => by omega, hb4⟩
          rw [hT.out]; exact ho4
        case measure => simp only [lenOf]; omega
    · obtain rfl : X = 0 := by omega
      have hj1 : 1 ≤ j := by omega
      have hji : ¬ (j : Int) = 0 := by omega
      have hNB := Lib.hid (be_nb j v hj1 (hN.out rfl) (HL.out.imp (fun h => by omega) id))
      obtain ⟨B, o, rfl, hc⟩ := HI.out.1.2.2.2.resolve_left (by omega)
      have c0 := hc 0 (by omega)
      rw [Nat.add_zero] at c0
      have HB0 := Lib.hid (B0.out.below' hbel)
      have HBL := Lib.hid hbel
      have hjl : (0 : Int) < (j : Int) := by omega
      have hlen := be_length j v
      obtain ⟨x, hx⟩ : ∃ x, (be j v).getD 0 0 = x := ⟨_, rfl⟩
      have hx8 : x < 256 := by rw [← hx]; exact getD_lt (be_lt _ _) 0
      rw [hx] at c0 hNB
      clear hX hX2 hT hZ hN hx HXE hj0
      by_cases hh : 128 ≤ x
      · have hhi : (128 : Int) ≤ (x : Int) := by omega
        have HE := Lib.hid (hNB.out.1 hh)
        have hl9 : (be (nb v) v).length = j + 1 := by rw [← HE.out]; simp [hlen]
        go_wp2_with (first | (at_builtin; refine wpList_append_bytes _ rfl (.tmp 23) (.tmp 24) rfl W1.heap.size (.slice (some ⟨wr.heap.size, 0, none⟩) 1 1) 1 [0] rfl (ownsMono (own_lit1 wr 0) HBL.out.size) (some ⟨B, o, none⟩) j c (be j v) rfl (HI.out.below ((Below.refl _ _).alloc (Nat.le_refl _) _)) (by omega) (by have := HBL.out.size; simp; omega) ?_; intro v4 w4 ho4 hg4; obtain ⟨a4, c4, rfl⟩ := own_slice ho4; have HO4 := Lib.hid ho4; have HB4 := Lib.hid ((HB0.out.alloc (.cells #[.int .u8 0] 5)).grown hg4 (by simp [Value.ownBlock]; have := HS1.out; have := HBL.out.size; omega)); have hb4 := Lib.hid ((HBL.out.alloc HBL.out.size (.cells #[.int .u8 0] 5)).grown hg4 (HBL.out.alloc HBL.out.size _).size (fun x hx => by simp [Value.ownBlock] at hx; have := HBL.out.size; omega))) | (refine wpList_store_row (P := Tryz.prog) rfl 45 (.tmp 2) (.tmp 27) rfl w.heap.size #[.int .u8 2, .slice a4 (1 + j) c4, .slice none 0 0] rfl rfl 45 _ HB4.out info25 rfl (all_item _ _ _ _ _ _ _) ?_))
        have D3 := HB4.out.setRow [.int .u8 2, .slice a4 (1 + j) c4, .slice none 0 0]
        refine bodyPost_ret (results_one Tryz.results45 _ _ w.heap.size 45 _ (0, 0) _ rfl D3 Tryz.underlying45 rfl info25) rfl ?_
        have hO2 := own_set HO4.out HB4.out (by decide) #[.int .u8 2, .slice a4 (1 + j) c4, .slice none 0 0]
        have hO3 := hO2
        simp only [List.cons_append, List.nil_append, HE.out] at hO3
        exact ItR.nil (by decide) (by rw [hl9]; omega) (by omega) ((dep_own hO3 (be_lt _ _) (by omega)).mono (fun j hj _ => by have := HS1.out; omega)) (below_setRow' (BEL.out.trans (hb4.out.mono BEL.out.size)) (Nat.le_refl _) _)
      · have hhi : ¬ (128 : Int) ≤ (x : Int) := by omega
        have HE := Lib.hid (hNB.out.2 (by omega))
        go_wp2_with (first | (refine wpList_store_row (P := Tryz.prog) rfl 45 (.tmp 2) (.tmp 27) rfl w.heap.size #[.int .u8 2, .slice (some ⟨B, o, none⟩) j c, .slice none 0 0] rfl rfl 45 _ HB0.out info25 rfl (all_item _ _ _ _ _ _ _) ?_))
        have D3 := HB0.out.setRow [.int .u8 2, .slice (some ⟨B, o, none⟩) j c, .slice none 0 0]
        refine bodyPost_ret (results_one Tryz.results45 _ _ w.heap.size 45 _ (0, 0) _ rfl D3 Tryz.underlying45 rfl info25) rfl ?_
        have hO2 := own_set HO.out HB0.out (by decide) #[.int .u8 2, .slice (some ⟨B, o, none⟩) j c, .slice none 0 0]
        rw [HE.out] at hO2
        exact ItR.nil (by decide) (by rw [← HE.out]; exact hlen) (by omega) ((dep_own hO2 (be_lt _ _) (by omega)).mono (fun j hj _ => by have := HS1.out; omega)) (below_setRow' HBW.out (Nat.le_refl _) _)
set_option maxRecDepth 100000 in
set_option maxHeartbeats 4000000 in
theorem rOfBits_d (w : World) (b : List Nat) (a : Option Addr) (n c : Nat) (hin : BIn w a n c b) (hbn : n ≤ 140737488351232) :
    Calls Tryz.prog 27 #[.slice a n c] w (ItR NoD 3 (0 :: b) .nil w) := by
  have hn : b.length = n := hin.1.1
  have HI := Lib.hid hin
  have HNN := Lib.hid hbn
  have h8 : ∀ z ∈ 0 :: b, z < 256 := by intro z hz; rcases List.mem_cons.1 hz with rfl | hz; omega; exact hin.1.2.2.1 z hz
  have H8 := Lib.hid h8
  have hbel := fun o1 o2 => ((Below.refl _ w).alloc (Nat.le_refl _) o1).alloc (show w.heap.size ≤ (w.alloc o1).heap.size by simp) o2
  have HBEL := Lib.hid hbel
  have B0 := Blk.new w 45 [.int .u8 0, .slice none 0 0, .slice none 0 0]
  have H0 := Lib.hid (B0.alloc (.cells #[.int .u8 0] 5))
  have HZ := Lib.hid (World.ownsRow_lit (base := w.heap.size) (e := 5) (size := 1) (w.alloc (.cells #[.int .u8 0, .slice none 0 0, .slice none 0 0] 45)) #[.int .u8 0] 1 (by simp) (by simp [maxLen]) rfl)
  simp only [World.size_alloc] at HZ
  have HE := Lib.hid (HI.out.below (HBEL.out (.cells #[.int .u8 0, .slice none 0 0, .slice none 0 0] 45) (.cells #[.int .u8 0] 5)))
  clear hin hbn h8 hbel B0
  go_enter Tryz.func27, Tryz.ntmps27
  go_wp2_with (first | (at_builtin; refine wpList_append_bytes _ rfl (.tmp 3) (.tmp 4) rfl w.heap.size (.slice (some ⟨w.heap.size + 1, 0, none⟩) 1 1) 1 [0] rfl HZ.out a n c b rfl HE.out (by have := HNN.out; omega) (by simp; omega) ?_; intro v' w' hown hg; obtain ⟨a2, c2, rfl⟩ := own_slice hown; have D := Lib.hid (H0.out.grown hg (by simp [Value.ownBlock])); have hbw := Lib.hid ((HBEL.out _ _).grown hg (HBEL.out _ _).size (by intro x hx; injection hx with hx; simp at hx; omega)); have HO := Lib.hid hown; clear hown hg) | (refine wpList_store_row (P := Tryz.prog) rfl 45 (.tmp 2) (.tmp 6) rfl w.heap.size #[.int .u8 3, .slice a2 (1 + n) c2, .slice none 0 0] rfl rfl 45 _ D.out info25 rfl (all_item _ _ _ _ _ _ _) ?_))
  have D3 := D.out.setRow [.int .u8 3, .slice a2 (1 + n) c2, .slice none 0 0]
  have hO2 := own_set HO.out D.out (by decide) #[.int .u8 3, .slice a2 (1 + n) c2, .slice none 0 0]
  refine bodyPost_ret (results_one Tryz.results27 _ _ w.heap.size 45 _ (0, 0) _ rfl D3 Tryz.underlying45 rfl info25) rfl ?_
  have hl1 : (0 :: b).length = 1 + n := by simp; omega
  exact ItR.nil (by decide) hl1 (by have := HNN.out; omega) (dep_own hO2 H8.out (by have := HNN.out; omega)) (below_setRow' hbw.out (Nat.le_refl _) _)
set_option maxHeartbeats 4000000 in
theorem rOfOID_d (w : World) (a : Option Addr) (n c : Nat) (l : List Nat) (hin : WIn w a n c l) : Calls Tryz.prog 87 #[.slice a n c] w (OfOR (ofE l) w) := by
  have B0 := Lib.hid (Blk.new w 45 [.int .u8 0, .slice none 0 0, .slice none 0 0])
  have BEL := Lib.hid ((Below.refl w.heap.size w).alloc (Nat.le_refl _) (.cells #[.int .u8 0, .slice none 0 0, .slice none 0 0] 45))
  have hs1 : (w.alloc (.cells #[.int .u8 0, .slice none 0 0, .slice none 0 0] 45)).heap.size = w.heap.size + 1 := by simp
  have hln : l.length = n := hin.1
  have HIN := Lib.hid (hin.below BEL.out)
  by_cases h2 : n < 2
  · have hX := Lib.hid (ofE_no (oid_no (l := l) (fun h => by omega)))
    have hi : decide ((n : Int) < 2) = true := decide_eq_true (by omega)
    clear hin hln
    go_enter Tryz.func87, Tryz.ntmps87
    go_wp2_with fail
    generalize w.alloc (.cells #[.int .u8 0, .slice none 0 0, .slice none 0 0] 45) = W1 at *
    go_quiet (fail)
    have B2 := Lib.hid (B0.out.drewN nq)
    have H2 := Lib.hid (below_drewN BEL.out nq)
    generalize W1.drewN nq = W2 at *
    go_wp2_with (first | (refine wpList_store_row (P := Tryz.prog) rfl 45 (.tmp 2) (.tmp 43) rfl w.heap.size #[.int .u8 0, .slice none 0 0, .slice none 0 0] rfl rfl 45 _ B2.out info25 rfl (all_item _ _ _ _ _ _ _) ?_))
    have D3 := B2.out.setRow [.int .u8 0, .slice none 0 0, .slice none 0 0]
    refine bodyPost_ret (results_two Tryz.results87 _ _ w.heap.size 45 _ (0, 0) _ _ rfl rfl D3 Tryz.underlying45 rfl info25) rfl ?_
    exact OfOR.err hX.out (below_setRow' H2.out (Nat.le_refl _) _)
  by_cases h20 : 20 < n
  · have hX := Lib.hid (ofE_no (oid_no (l := l) (fun h => by omega)))
    have hi : decide ((n : Int) < 2) = false := decide_eq_false (by omega)
    have hi2 : decide ((20 : Int) < (n : Int)) = true := decide_eq_true (by omega)
    clear hin hln
    go_enter Tryz.func87, Tryz.ntmps87
    go_wp2_with fail
    generalize w.alloc (.cells #[.int .u8 0, .slice none 0 0, .slice none 0 0] 45) = W1 at *
    go_quiet (fail)
    have B2 := Lib.hid (B0.out.drewN nq)
    have H2 := Lib.hid (below_drewN BEL.out nq)
    generalize W1.drewN nq = W2 at *
    go_wp2_with (first | (refine wpList_store_row (P := Tryz.prog) rfl 45 (.tmp 2) (.tmp 43) rfl w.heap.size #[.int .u8 0, .slice none 0 0, .slice none 0 0] rfl rfl 45 _ B2.out info25 rfl (all_item _ _ _ _ _ _ _) ?_))
    have D3 := B2.out.setRow [.int .u8 0, .slice none 0 0, .slice none 0 0]
    refine bodyPost_ret (results_two Tryz.results87 _ _ w.heap.size 45 _ (0, 0) _ _ rfl rfl D3 Tryz.underlying45 rfl info25) rfl ?_
    exact OfOR.err hX.out (below_setRow' H2.out (Nat.le_refl _) _)
  obtain ⟨B, o, rfl, hc⟩ := hin.2.2.2.2.2.2.resolve_left (by omega)
  have hcn := hin.2.1
  have hw64 := hin.2.2.2.1
  have i1 : decide ((n : Int) < 2) = false := decide_eq_false (by omega)
  have i2 : decide ((20 : Int) < (n : Int)) = false := decide_eq_false (by omega)
  have i3 : (0 : Int) < (n : Int) := by omega
  have i4 : (1 : Int) < (n : Int) := by omega
  have i5 : 0 < n := by omega
  have i6 : 1 < n := by omega
  have c0 := hc 0 (by omega)
  have c1 := hc 1 (by omega)
  rw [Nat.add_zero] at c0
  have HC := Lib.hid (fun wx (h : Below w.heap.size w wx) i hi => (h.cell (World.block_lt_of_cell? w _ (hc i hi))).trans (hc i hi))
  obtain ⟨x0, hx0⟩ : ∃ x, l.getD 0 0 = x := ⟨_, rfl⟩
  obtain ⟨x1, hx1⟩ : ∃ x, l.getD 1 0 = x := ⟨_, rfl⟩
  have hb1 : x1 < 18446744073709551616 := by rw [← hx1]; exact getD_ltw hw64 1
  have hb0 : x0 < 18446744073709551616 := by rw [← hx0]; exact getD_ltw hw64 0
  rw [hx0] at c0
  rw [hx1] at c1
  have d0 : ∀ ob, (w.alloc ob).cell? ⟨B, o, none⟩ = some (.int .u64 (x0 : Nat)) := fun ob => (((Below.refl w.heap.size w).alloc (Nat.le_refl _) ob).cell (World.block_lt_of_cell? w _ c0)).trans c0
  have d1 : ∀ ob, (w.alloc ob).cell? ⟨B, o + 1, none⟩ = some (.int .u64 (x1 : Nat)) := fun ob => (((Below.refl w.heap.size w).alloc (Nat.le_refl _) ob).cell (World.block_lt_of_cell? w _ c1)).trans c1
  have g0 := d0 (.cells #[.int .u8 0, .slice none 0 0, .slice none 0 0] 45)
  have g1 := d1 (.cells #[.int .u8 0, .slice none 0 0, .slice none 0 0] 45)
  have HX0 := Lib.hid hx0
  have HX1 := Lib.hid hx1
  have HLN := Lib.hid hln
  have HW64 := Lib.hid hw64
  clear hin hc hx0 hx1 hln hw64 c0 c1 d0 d1
  by_cases hg : 2 < x0
  · have hX := Lib.hid (ofE_no (oid_no (l := l) (fun h => by have := HX0.out; omega)))
    have hgi : decide ((2 : Int) < (x0 : Int)) = true := decide_eq_true (by omega)
    go_enter Tryz.func87, Tryz.ntmps87
    go_wp2_with fail
    generalize w.alloc (.cells #[.int .u8 0, .slice none 0 0, .slice none 0 0] 45) = W1 at *
    go_quiet (fail)
    have B2 := Lib.hid (B0.out.drewN nq)
    have H2 := Lib.hid (below_drewN BEL.out nq)
    generalize W1.drewN nq = W2 at *
    go_wp2_with (first | (refine wpList_store_row (P := Tryz.prog) rfl 45 (.tmp 2) (.tmp 43) rfl w.heap.size #[.int .u8 0, .slice none 0 0, .slice none 0 0] rfl rfl 45 _ B2.out info25 rfl (all_item _ _ _ _ _ _ _) ?_))
    have D3 := B2.out.setRow [.int .u8 0, .slice none 0 0, .slice none 0 0]
    refine bodyPost_ret (results_two Tryz.results87 _ _ w.heap.size 45 _ (0, 0) _ _ rfl rfl D3 Tryz.underlying45 rfl info25) rfl ?_
    exact OfOR.err hX.out (below_setRow' H2.out (Nat.le_refl _) _)
  have hgi : decide ((2 : Int) < (x0 : Int)) = false := decide_eq_false (by omega)
  by_cases hd : x0 < 2 ∧ 39 < x1
  · have hX := Lib.hid (ofE_no (oid_no (l := l) (fun h => by have := HX0.out; have := HX1.out; omega)))
    have hd1 : decide ((x0 : Int) < 2) = true := decide_eq_true (by omega)
    have hd2 : decide ((39 : Int) < (x1 : Int)) = true := decide_eq_true (by omega)
    clear hd
    go_enter Tryz.func87, Tryz.ntmps87
    go_wp2_with fail
    generalize w.alloc (.cells #[.int .u8 0, .slice none 0 0, .slice none 0 0] 45) = W1 at *
    go_quiet (fail)
    have B2 := Lib.hid (B0.out.drewN nq)
    have H2 := Lib.hid (below_drewN BEL.out nq)
    generalize W1.drewN nq = W2 at *
    go_wp2_with (first | (refine wpList_store_row (P := Tryz.prog) rfl 45 (.tmp 2) (.tmp 43) rfl w.heap.size #[.int .u8 0, .slice none 0 0, .slice none 0 0] rfl rfl 45 _ B2.out info25 rfl (all_item _ _ _ _ _ _ _) ?_))
    have D3 := B2.out.setRow [.int .u8 0, .slice none 0 0, .slice none 0 0]
    refine bodyPost_ret (results_two Tryz.results87 _ _ w.heap.size 45 _ (0, 0) _ _ rfl rfl D3 Tryz.underlying45 rfl info25) rfl ?_
    exact OfOR.err hX.out (below_setRow' H2.out (Nat.le_refl _) _)
  have HD := Lib.hid hd
  obtain ⟨p0, hp0⟩ : ∃ p, 40 * x0 = p := ⟨_, rfl⟩
  obtain ⟨r0, hr0⟩ : ∃ r, 4294967295 - p0 = r := ⟨_, rfl⟩
  have hwm : IntKind.u64.wrap (40 * (x0 : Int)) = (p0 : Int) := by rw [show 40 * (x0 : Int) = ((p0 : Nat) : Int) by omega]; exact wrapu (by omega)
  have hws : IntKind.u64.wrap (4294967295 - (p0 : Int)) = (r0 : Int) := by rw [show 4294967295 - (p0 : Int) = ((r0 : Nat) : Int) by omega]; exact wrapu (by omega)
  have HP0 := Lib.hid hp0
  have HR0 := Lib.hid hr0
  have hp8 : p0 ≤ 80 := by omega
  clear hr0 hp0
  by_cases hm : r0 < x1
  · have hX := Lib.hid (ofE_no (oid_no (l := l) (fun h => by have := HX0.out; have := HX1.out; have := HP0.out; have := HR0.out; omega)))
    have hmi : decide ((r0 : Int) < (x1 : Int)) = true := decide_eq_true (by omega)
    by_cases hx2 : x0 < 2
    · have hxi : decide ((x0 : Int) < 2) = true := decide_eq_true (by omega)
      have hxj : decide ((39 : Int) < (x1 : Int)) = false := decide_eq_false (by omega)
      clear hd
      go_enter Tryz.func87, Tryz.ntmps87
      go_wp2_with fail
      generalize w.alloc (.cells #[.int .u8 0, .slice none 0 0, .slice none 0 0] 45) = W1 at *
      go_quiet (fail)
      have B2 := Lib.hid (B0.out.drewN nq)
      have H2 := Lib.hid (below_drewN BEL.out nq)
      generalize W1.drewN nq = W2 at *
      go_wp2_with (first | (refine wpList_store_row (P := Tryz.prog) rfl 45 (.tmp 2) (.tmp 43) rfl w.heap.size #[.int .u8 0, .slice none 0 0, .slice none 0 0] rfl rfl 45 _ B2.out info25 rfl (all_item _ _ _ _ _ _ _) ?_))
      have D3 := B2.out.setRow [.int .u8 0, .slice none 0 0, .slice none 0 0]
      refine bodyPost_ret (results_two Tryz.results87 _ _ w.heap.size 45 _ (0, 0) _ _ rfl rfl D3 Tryz.underlying45 rfl info25) rfl ?_
      exact OfOR.err hX.out (below_setRow' H2.out (Nat.le_refl _) _)
    · have hxi : decide ((x0 : Int) < 2) = false := decide_eq_false (by omega)
      clear hd
      go_enter Tryz.func87, Tryz.ntmps87
      go_wp2_with fail
      generalize w.alloc (.cells #[.int .u8 0, .slice none 0 0, .slice none 0 0] 45) = W1 at *
      go_quiet (fail)
      have B2 := Lib.hid (B0.out.drewN nq)
      have H2 := Lib.hid (below_drewN BEL.out nq)
      generalize W1.drewN nq = W2 at *
      go_wp2_with (first | (refine wpList_store_row (P := Tryz.prog) rfl 45 (.tmp 2) (.tmp 43) rfl w.heap.size #[.int .u8 0, .slice none 0 0, .slice none 0 0] rfl rfl 45 _ B2.out info25 rfl (all_item _ _ _ _ _ _ _) ?_))
      have D3 := B2.out.setRow [.int .u8 0, .slice none 0 0, .slice none 0 0]
      refine bodyPost_ret (results_two Tryz.results87 _ _ w.heap.size 45 _ (0, 0) _ _ rfl rfl D3 Tryz.underlying45 rfl info25) rfl ?_
      exact OfOR.err hX.out (below_setRow' H2.out (Nat.le_refl _) _)
  have hmi : decide ((r0 : Int) < (x1 : Int)) = false := decide_eq_false (by omega)
  have hwa : IntKind.u64.wrap ((p0 : Int) + (x1 : Int)) = ((p0 + x1 : Nat) : Int) := by rw [show (p0 : Int) + (x1 : Int) = ((p0 + x1 : Nat) : Int) by omega]; exact wrapu (by have := HR0.out; omega)
  obtain ⟨f0, hf0⟩ : ∃ f, p0 + x1 = f := ⟨_, rfl⟩
  have hf8 : f0 ≤ 4294967295 := by have := HR0.out; omega
  have HF0 := Lib.hid (show 40 * x0 + x1 = f0 by have := HP0.out; omega)
  have HFL := Lib.hid (show fl l = f0 :: l.drop 2 by unfold fl; rw [HX0.out, HX1.out, HF0.out])
  have HOK := Lib.hid (show (∀ x ∈ l.drop 2, x ≤ 4294967295) → oidOk l = true from fun h => decide_eq_true ⟨by rw [HLN.out]; omega, by rw [HLN.out]; omega, by rw [HX0.out]; omega, by rw [HX0.out, HX1.out]; have := HD.out; omega, by rw [HX0.out, HX1.out, HF0.out]; exact hf8, h⟩)
  have HNO := Lib.hid (show ∀ x ∈ l.drop 2, ¬ x ≤ 4294967295 → ofE l = .error 127 from fun x hx hn => ofE_no (oid_no (fun hh => hn (hh.2.2.2.2.2 x hx))))
  rw [hf0] at hwa
  have HG := Lib.hid (fun W => figure_any W f0 hf8)
  have H88 := Lib.hid (fig_lt f0)
  have h55 := fig_len hf8
  clear hf0 hd
  have HC0 := Lib.hid (show w.cell? ⟨B, o, none⟩ = some (.int .u64 (x0 : Nat)) by have := HC.out w (Below.refl _ _) 0 (by omega); rwa [Nat.add_zero, HX0.out] at this)
  have HC1 := Lib.hid (show w.cell? ⟨B, o + 1, none⟩ = some (.int .u64 (x1 : Nat)) by have := HC.out w (Below.refl _ _) 1 (by omega); rwa [HX1.out] at this)
  by_cases hx2 : x0 < 2
  · have hxi : decide ((x0 : Int) < 2) = true := decide_eq_true (by omega)
    have hxj : decide ((39 : Int) < (x1 : Int)) = false := decide_eq_false (by have := HD.out; omega)
    go_enter Tryz.func87, Tryz.ntmps87
    go_wp2_with fail
    generalize w.alloc (.cells #[.int .u8 0, .slice none 0 0, .slice none 0 0] 45) = W1 at *
    go_quiet (fail)
    have B2 := Lib.hid (B0.out.drewN nq)
    have H2 := Lib.hid (below_drewN BEL.out nq)
    generalize W1.drewN nq = W2 at *
    have k0 : W2.cell? ⟨B, o, none⟩ = some (.int .u64 (x0 : Nat)) := (H2.out.cell (World.block_lt_of_cell? w _ HC0.out)).trans HC0.out
    have k1 : W2.cell? ⟨B, o + 1, none⟩ = some (.int .u64 (x1 : Nat)) := (H2.out.cell (World.block_lt_of_cell? w _ HC1.out)).trans HC1.out
    clear g0 g1
    go_wp2_with fail
    refine wp_region_L (fun w_ => Below W2.heap.size W2 w_) [] [0, 1, 3, 4, 5, 7, 9] (by kernel_rfl) (Below.refl _ _).drew ?_
    refine wpAnyL_pure (fun _ _ hS_ hb_ => gr_bel hS_ hb_) (i := 0) rfl (by kernel_rfl) (fun _ _ _ h => h) (pureG (by rfl) (by intro w_; go_simp; first | done | with_reducible rfl)) ?_
    try simp only [Act.put, List.getElem_toArray, List.getElem_cons_succ, List.getElem_cons_zero, List.setIfInBounds_toArray, List.set_cons_zero, List.set_cons_succ]
    refine wpAnyL_pure (fun _ _ hS_ hb_ => gr_bel hS_ hb_) (i := 1) rfl (by kernel_rfl) (fun _ _ _ h => h) (pureG (by rfl) (by intro w_; go_simp; first | done | with_reducible rfl)) ?_
    try simp only [Act.put, List.getElem_toArray, List.getElem_cons_succ, List.getElem_cons_zero, List.setIfInBounds_toArray, List.set_cons_zero, List.set_cons_succ]
    refine wpAnyL_take (fun _ _ hS_ hb_ => gr_bel hS_ hb_) (i := 2) rfl (by kernel_rfl) (fun _ _ _ h => h) (worldG (by rfl) (by intro w_ hS_; have q := (hS_.cell (World.block_lt_of_cell? W2 _ k0)).trans k0; go_simp; first | done | with_reducible rfl)) ?_
    try simp only [Act.put, List.getElem_toArray, List.getElem_cons_succ, List.getElem_cons_zero, List.setIfInBounds_toArray, List.set_cons_zero, List.set_cons_succ]
    refine wpAnyL_pure (fun _ _ hS_ hb_ => gr_bel hS_ hb_) (i := 3) rfl (by kernel_rfl) (fun _ _ _ h => h) (pureG (by rfl) (by intro w_; go_simp; first | done | with_reducible rfl)) ?_
    try simp only [Act.put, List.getElem_toArray, List.getElem_cons_succ, List.getElem_cons_zero, List.setIfInBounds_toArray, List.set_cons_zero, List.set_cons_succ]
    refine wpAnyL_pure (fun _ _ hS_ hb_ => gr_bel hS_ hb_) (i := 4) rfl (by kernel_rfl) (fun _ _ _ h => h) (pureG (by rfl) (by intro w_; go_simp; first | done | with_reducible rfl)) ?_
    try simp only [Act.put, List.getElem_toArray, List.getElem_cons_succ, List.getElem_cons_zero, List.setIfInBounds_toArray, List.set_cons_zero, List.set_cons_succ]
    refine wpAnyL_pure (fun _ _ hS_ hb_ => gr_bel hS_ hb_) (i := 5) rfl (by kernel_rfl) (fun _ _ _ h => h) (pureG (by rfl) (by intro w_; go_simp; first | done | with_reducible rfl)) ?_
    try simp only [Act.put, List.getElem_toArray, List.getElem_cons_succ, List.getElem_cons_zero, List.setIfInBounds_toArray, List.set_cons_zero, List.set_cons_succ]
    refine wpAnyL_take (fun _ _ hS_ hb_ => gr_bel hS_ hb_) (i := 6) rfl (by kernel_rfl) (fun _ _ _ h => h) (worldG (by rfl) (by intro w_ hS_; have q := (hS_.cell (World.block_lt_of_cell? W2 _ k1)).trans k1; go_simp; first | done | with_reducible rfl)) ?_
    try simp only [Act.put, List.getElem_toArray, List.getElem_cons_succ, List.getElem_cons_zero, List.setIfInBounds_toArray, List.set_cons_zero, List.set_cons_succ]
    refine wpAnyL_pure (fun _ _ hS_ hb_ => gr_bel hS_ hb_) (i := 7) rfl (by kernel_rfl) (fun _ _ _ h => h) (pureG (by rfl) (by intro w_; go_simp; first | done | with_reducible rfl)) ?_
    try simp only [Act.put, List.getElem_toArray, List.getElem_cons_succ, List.getElem_cons_zero, List.setIfInBounds_toArray, List.set_cons_zero, List.set_cons_succ]
    refine wpAnyL_one (i := 8) (by kernel_rfl) (by decide) fun W3 hgW3 hSW3 => ?_
    refine wpOp_callE (i := 8) rfl (by rfl) rfl Tryz.func109 (by kernel_rfl) (by kernel_rfl) #[.int .u64 (f0 : Nat)] (by simp [Act.eval]) ((HG.out W3).mono ?_)
    rintro e w4 ⟨v4, rfl, ho4, hb4⟩
    refine ⟨_, rfl, Gr.trans hSW3 hb4, ?_⟩
    try simp only [Act.put, List.getElem_toArray, List.getElem_cons_succ, List.getElem_cons_zero, List.setIfInBounds_toArray, List.set_cons_zero, List.set_cons_succ]
    obtain ⟨a4, c4, rfl⟩ := own_slice ho4
    refine wpAnyL_pure (fun _ _ hS_ hb_ => gr_bel hS_ hb_) (i := 9) rfl (by kernel_rfl) (fun _ _ _ h => h) (pureG (by rfl) (by intro w_; go_simp; first | done | with_reducible rfl)) ?_
    try simp only [Act.put, List.getElem_toArray, List.getElem_cons_succ, List.getElem_cons_zero, List.setIfInBounds_toArray, List.set_cons_zero, List.set_cons_succ]
    refine wpAnyL_done (by kernel_rfl) ?_ _
    intro W5 hgW5
    have hb5 : Below W2.heap.size W2 W5 := Gr.trans (Gr.trans hSW3 hb4) hgW5
    have ho5 := own_below (ownsMono ho4 hSW3.size) hgW5
    have HO5 := Lib.hid ho5
    have B5 := Lib.hid (B2.out.below' hb5)
    have H5 := Lib.hid (H2.out.trans (hb5.mono H2.out.size))
    have HB5 := Lib.hid hb5
    have hs2 : w.heap.size + 1 ≤ W2.heap.size := B2.out.lt
    have HS2 := Lib.hid hs2
    obtain ⟨T, hT⟩ : ∃ T, l.drop 2 = T := ⟨_, rfl⟩
    rw [hT] at HFL HOK HNO
    have HTL := Lib.hid (show T.length = n - 2 by rw [← hT, List.length_drop, HLN.out])
    have HTG := Lib.hid (show ∀ q, T.getD q 0 = l.getD (q + 2) 0 from fun q => by rw [← hT]; simp [List.getD_eq_getElem?_getD, List.getElem?_drop, Nat.add_comm])
    obtain ⟨m, hm2⟩ : ∃ m, n = m + 2 := ⟨n - 2, by omega⟩
    have HM := Lib.hid hm2
    clear hT ho4 ho5 hb4 hb5 hgW5 hgW3 hSW3 hs2 hs1 hm2
    go_wp2_with fail
    go_loopw [4, 5] (fun b i wr => ∃ q, q ≤ m ∧ i = .int .i64 ((q : Int) + 2) ∧ wr.ownsRow W2.heap.size 5 1 b (fig f0 ++ figs (T.take q)).length (bytesV (fig f0 ++ figs (T.take q))) ∧ (∀ x, x < q → T.getD x 0 ≤ 4294967295) ∧ Below W2.heap.size W2 wr) (fun _ i _ => n - (intOf i).toNat)
    case atStart => exact ⟨0, Nat.zero_le _, rfl, by simpa [figs] using HO5.out, fun x hx => by omega, HB5.out⟩
    case round =>
      obtain ⟨q, hq, rfl, hown, hall, hbel⟩ := hrel
      have HO := Lib.hid hown
      have HBL := Lib.hid hbel
      have HA := Lib.hid hall
      have BR := Lib.hid (B2.out.below' hbel)
      have HR := Lib.hid (H2.out.trans (hbel.mono H2.out.size))
      have hlq : (fig f0 ++ figs (T.take q)).length ≤ 200 := by
        have h1 : (figs (T.take q)).length ≤ 5 * (T.take q).length := figs_len (fun v hv => by
          obtain ⟨j, hj, rfl⟩ := List.getElem_of_mem hv
          have hj2 : j < q := by rw [List.length_take] at hj; omega
          have := hall j hj2
          rw [List.getElem_take]
          rwa [List.getD_eq_getElem?_getD, List.getElem?_eq_getElem (by rw [List.length_take] at hj; omega)] at this)
        have h2 : (T.take q).length ≤ q := by rw [List.length_take]; omega
        have := HM.out; rw [List.length_append]; omega
      obtain ⟨ab, cb, rfl⟩ := own_slice hown
      clear hown hbel hall
      by_cases hqm : q < m
      · have hqi : (q : Int) + 2 < (n : Int) := by have := HM.out; omega
        have cq := HC.out wr HR.out (q + 2) (by have := HM.out; omega)
        rw [← HTG.out q] at cq
        have hcast : ((q : Int) + 2).toNat = q + 2 := by omega
        have hqn : q + 2 < n := by have := HM.out; omega
        have hx8 := getD_ltw (l := T) (fun x hx => by obtain ⟨j, hj, rfl⟩ := List.getElem_of_mem hx; have := HTG.out j; rw [List.getD_eq_getElem?_getD, List.getElem?_eq_getElem hj] at this; simp only [Option.getD_some] at this; rw [this]; exact getD_ltw HW64.out _) q
        have HMEM := Lib.hid (show T.getD q 0 ∈ T by rw [List.getD_eq_getElem?_getD, List.getElem?_eq_getElem (by have := HM.out; rw [HTL.out]; omega)]; exact List.getElem_mem _)
        by_cases hbig : 4294967295 < T.getD q 0
        · have hX := Lib.hid (HNO.out _ HMEM.out (by omega))
          have hbi : (4294967295 : Int) < ((T.getD q 0 : Nat) : Int) := by omega
          generalize T.getD q 0 = y at *
          go_wp2_with (first | (refine wpList_store_row (P := Tryz.prog) rfl 45 (.tmp 2) (.tmp 64) rfl w.heap.size #[.int .u8 0, .slice none 0 0, .slice none 0 0] rfl rfl 45 _ BR.out info25 rfl (all_item _ _ _ _ _ _ _) ?_))
          have D3 := BR.out.setRow [.int .u8 0, .slice none 0 0, .slice none 0 0]
          refine bodyPost_ret (results_two Tryz.results87 _ _ w.heap.size 45 _ (0, 0) _ _ rfl rfl D3 Tryz.underlying45 rfl info25) rfl ?_
          exact OfOR.err hX.out (below_setRow' HR.out (Nat.le_refl _) _)
        · have hbi : ¬ (4294967295 : Int) < ((T.getD q 0 : Nat) : Int) := by omega
          have HA2 := Lib.hid (show ∀ x, x < q + 1 → T.getD x 0 ≤ 4294967295 from fun x hx => by rcases Nat.lt_or_ge x q with h | h; exact HA.out x h; (obtain rfl : x = q := by omega); omega)
          have HT := Lib.hid (figs_take T q (by have := HM.out; rw [HTL.out]; omega))
          have H8 := Lib.hid (fig_lt (T.getD q 0))
          have h5 := fig_len (v := T.getD q 0) (by omega)
          have HG2 := Lib.hid (fun W => figure_any W (T.getD q 0) (by omega))
          generalize T.getD q 0 = y at *
          obtain ⟨k, hk⟩ : ∃ k, (fig f0 ++ figs (T.take q)).length = k := ⟨_, rfl⟩
          have HK := Lib.hid hk
          rw [hk] at HO hlq ⊢
          clear hk
          go_wp2_with (first | (go_at_call 109; (refine (HG2.out _).mono ?_); rintro e w3 ⟨v3, rfl, ho3, hb3⟩; obtain ⟨a3, c3, rfl⟩ := own_slice ho3; obtain ⟨a3', c3', e3, hi3, _⟩ := own_in ho3 H8.out (by omega); injection e3 with e31 e32 e33; subst e31 e33; have HI3 := Lib.hid hi3; have HB3 := Lib.hid (HBL.out.trans (hb3.mono HBL.out.size)); have HO3 := Lib.hid (own_below HO.out hb3); clear ho3 hi3) | (at_builtin; refine wpList_append_bytes _ rfl (.tmp 65) (.tmp 70) rfl W2.heap.size (.slice ab k cb) k (fig f0 ++ figs (T.take q)) rfl HO3.out a3 (fig y).length c3 (fig y) rfl HI3.out (by omega) HB3.out.size ?_; intro v4 w4 ho4 hg4))
          have hb4 : Below W2.heap.size W2 w4 := HB3.out.grown hg4 HB3.out.size (fun x hx => (HO3.out.lt x hx).1)
          have e5 : k + (fig y).length = (fig f0 ++ figs (T.take (q + 1))).length := by rw [HT.out, ← HK.out]; simp; omega
          have e6 : fig f0 ++ figs (T.take q) ++ fig y = fig f0 ++ figs (T.take (q + 1)) := by rw [HT.out]; simp
          rw [e5, e6] at ho4
          go_roundw
          case rel => exact ⟨q + 1, by omega, by first | (congr 1; done) | (congr 1; omega), ho4, HA2.out, hb4⟩
          case measure => simp [intOf]; omega
      · have hqi : ¬ (q : Int) + 2 < (n : Int) := by have := HM.out; omega
        have HE := Lib.hid (show fig f0 ++ figs (T.take q) = figs (fl l) by rw [HFL.out, List.take_of_length_le (by have := HM.out; rw [HTL.out]; omega)]; rfl)
        have HX := Lib.hid (show ofE l = .ok (figs (fl l)) by
          unfold ofE
          rw [if_pos (HOK.out (fun x hx => by obtain ⟨j, hj, rfl⟩ := List.getElem_of_mem hx; have := HA.out j (by have := HM.out; rw [HTL.out] at hj; omega); rwa [List.getD_eq_getElem?_getD, List.getElem?_eq_getElem hj] at this))])
        rw [HE.out] at HO hlq ⊢
        obtain ⟨k, hk⟩ : ∃ k, (figs (fl l)).length = k := ⟨_, rfl⟩
        have HK := Lib.hid hk
        rw [hk] at HO hlq ⊢
        clear hk
        go_wp2_with (first | (refine wpList_store_row (P := Tryz.prog) rfl 45 (.tmp 2) (.tmp 73) rfl w.heap.size #[.int .u8 6, .slice ab k cb, .slice none 0 0] rfl rfl 45 _ BR.out info25 rfl (all_item _ _ _ _ _ _ _) ?_))
        have D3 := BR.out.setRow [.int .u8 6, .slice ab k cb, .slice none 0 0]
        refine bodyPost_ret (results_two Tryz.results87 _ _ w.heap.size 45 _ (0, 0) _ _ rfl rfl D3 Tryz.underlying45 rfl info25) rfl ?_
        have hO2 := own_set HO.out BR.out (by decide) #[.int .u8 6, .slice ab k cb, .slice none 0 0]
        exact OfOR.good HX.out (below_setRow' HR.out (Nat.le_refl _) _) HK.out (by omega) ((dep_own hO2 (figs_lt _) (by omega)).mono (fun j hj _ => by have := HS2.out; omega))
  · have hxi : decide ((x0 : Int) < 2) = false := decide_eq_false (by omega)
    go_enter Tryz.func87, Tryz.ntmps87
    go_wp2_with fail
    generalize w.alloc (.cells #[.int .u8 0, .slice none 0 0, .slice none 0 0] 45) = W1 at *
    go_quiet (fail)
    have B2 := Lib.hid (B0.out.drewN nq)
    have H2 := Lib.hid (below_drewN BEL.out nq)
    generalize W1.drewN nq = W2 at *
    have k0 : W2.cell? ⟨B, o, none⟩ = some (.int .u64 (x0 : Nat)) := (H2.out.cell (World.block_lt_of_cell? w _ HC0.out)).trans HC0.out
    have k1 : W2.cell? ⟨B, o + 1, none⟩ = some (.int .u64 (x1 : Nat)) := (H2.out.cell (World.block_lt_of_cell? w _ HC1.out)).trans HC1.out
    clear g0 g1
    go_wp2_with fail
    refine wp_region_L (fun w_ => Below W2.heap.size W2 w_) [] [0, 1, 3, 4, 5, 7, 9] (by kernel_rfl) (Below.refl _ _).drew ?_
    refine wpAnyL_pure (fun _ _ hS_ hb_ => gr_bel hS_ hb_) (i := 0) rfl (by kernel_rfl) (fun _ _ _ h => h) (pureG (by rfl) (by intro w_; go_simp; first | done | with_reducible rfl)) ?_
    try simp only [Act.put, List.getElem_toArray, List.getElem_cons_succ, List.getElem_cons_zero, List.setIfInBounds_toArray, List.set_cons_zero, List.set_cons_succ]
    refine wpAnyL_pure (fun _ _ hS_ hb_ => gr_bel hS_ hb_) (i := 1) rfl (by kernel_rfl) (fun _ _ _ h => h) (pureG (by rfl) (by intro w_; go_simp; first | done | with_reducible rfl)) ?_
    try simp only [Act.put, List.getElem_toArray, List.getElem_cons_succ, List.getElem_cons_zero, List.setIfInBounds_toArray, List.set_cons_zero, List.set_cons_succ]
    refine wpAnyL_take (fun _ _ hS_ hb_ => gr_bel hS_ hb_) (i := 2) rfl (by kernel_rfl) (fun _ _ _ h => h) (worldG (by rfl) (by intro w_ hS_; have q := (hS_.cell (World.block_lt_of_cell? W2 _ k0)).trans k0; go_simp; first | done | with_reducible rfl)) ?_
    try simp only [Act.put, List.getElem_toArray, List.getElem_cons_succ, List.getElem_cons_zero, List.setIfInBounds_toArray, List.set_cons_zero, List.set_cons_succ]
    refine wpAnyL_pure (fun _ _ hS_ hb_ => gr_bel hS_ hb_) (i := 3) rfl (by kernel_rfl) (fun _ _ _ h => h) (pureG (by rfl) (by intro w_; go_simp; first | done | with_reducible rfl)) ?_
    try simp only [Act.put, List.getElem_toArray, List.getElem_cons_succ, List.getElem_cons_zero, List.setIfInBounds_toArray, List.set_cons_zero, List.set_cons_succ]
    refine wpAnyL_pure (fun _ _ hS_ hb_ => gr_bel hS_ hb_) (i := 4) rfl (by kernel_rfl) (fun _ _ _ h => h) (pureG (by rfl) (by intro w_; go_simp; first | done | with_reducible rfl)) ?_
    try simp only [Act.put, List.getElem_toArray, List.getElem_cons_succ, List.getElem_cons_zero, List.setIfInBounds_toArray, List.set_cons_zero, List.set_cons_succ]
    refine wpAnyL_pure (fun _ _ hS_ hb_ => gr_bel hS_ hb_) (i := 5) rfl (by kernel_rfl) (fun _ _ _ h => h) (pureG (by rfl) (by intro w_; go_simp; first | done | with_reducible rfl)) ?_
    try simp only [Act.put, List.getElem_toArray, List.getElem_cons_succ, List.getElem_cons_zero, List.setIfInBounds_toArray, List.set_cons_zero, List.set_cons_succ]
    refine wpAnyL_take (fun _ _ hS_ hb_ => gr_bel hS_ hb_) (i := 6) rfl (by kernel_rfl) (fun _ _ _ h => h) (worldG (by rfl) (by intro w_ hS_; have q := (hS_.cell (World.block_lt_of_cell? W2 _ k1)).trans k1; go_simp; first | done | with_reducible rfl)) ?_
    try simp only [Act.put, List.getElem_toArray, List.getElem_cons_succ, List.getElem_cons_zero, List.setIfInBounds_toArray, List.set_cons_zero, List.set_cons_succ]
    refine wpAnyL_pure (fun _ _ hS_ hb_ => gr_bel hS_ hb_) (i := 7) rfl (by kernel_rfl) (fun _ _ _ h => h) (pureG (by rfl) (by intro w_; go_simp; first | done | with_reducible rfl)) ?_
    try simp only [Act.put, List.getElem_toArray, List.getElem_cons_succ, List.getElem_cons_zero, List.setIfInBounds_toArray, List.set_cons_zero, List.set_cons_succ]
    refine wpAnyL_one (i := 8) (by kernel_rfl) (by decide) fun W3 hgW3 hSW3 => ?_
    refine wpOp_callE (i := 8) rfl (by rfl) rfl Tryz.func109 (by kernel_rfl) (by kernel_rfl) #[.int .u64 (f0 : Nat)] (by simp [Act.eval]) ((HG.out W3).mono ?_)
    rintro e w4 ⟨v4, rfl, ho4, hb4⟩
    refine ⟨_, rfl, Gr.trans hSW3 hb4, ?_⟩
    try simp only [Act.put, List.getElem_toArray, List.getElem_cons_succ, List.getElem_cons_zero, List.setIfInBounds_toArray, List.set_cons_zero, List.set_cons_succ]
    obtain ⟨a4, c4, rfl⟩ := own_slice ho4
    refine wpAnyL_pure (fun _ _ hS_ hb_ => gr_bel hS_ hb_) (i := 9) rfl (by kernel_rfl) (fun _ _ _ h => h) (pureG (by rfl) (by intro w_; go_simp; first | done | with_reducible rfl)) ?_
    try simp only [Act.put, List.getElem_toArray, List.getElem_cons_succ, List.getElem_cons_zero, List.setIfInBounds_toArray, List.set_cons_zero, List.set_cons_succ]
    refine wpAnyL_done (by kernel_rfl) ?_ _
    intro W5 hgW5
    have hb5 : Below W2.heap.size W2 W5 := Gr.trans (Gr.trans hSW3 hb4) hgW5
    have ho5 := own_below (ownsMono ho4 hSW3.size) hgW5
    have HO5 := Lib.hid ho5
    have B5 := Lib.hid (B2.out.below' hb5)
    have H5 := Lib.hid (H2.out.trans (hb5.mono H2.out.size))
    have HB5 := Lib.hid hb5
    have hs2 : w.heap.size + 1 ≤ W2.heap.size := B2.out.lt
    have HS2 := Lib.hid hs2
    obtain ⟨T, hT⟩ : ∃ T, l.drop 2 = T := ⟨_, rfl⟩
    rw [hT] at HFL HOK HNO
    have HTL := Lib.hid (show T.length = n - 2 by rw [← hT, List.length_drop, HLN.out])
    have HTG := Lib.hid (show ∀ q, T.getD q 0 = l.getD (q + 2) 0 from fun q => by rw [← hT]; simp [List.getD_eq_getElem?_getD, List.getElem?_drop, Nat.add_comm])
    obtain ⟨m, hm2⟩ : ∃ m, n = m + 2 := ⟨n - 2, by omega⟩
    have HM := Lib.hid hm2
    clear hT ho4 ho5 hb4 hb5 hgW5 hgW3 hSW3 hs2 hs1 hm2
    go_wp2_with fail
    go_loopw [4, 5] (fun b i wr => ∃ q, q ≤ m ∧ i = .int .i64 ((q : Int) + 2) ∧ wr.ownsRow W2.heap.size 5 1 b (fig f0 ++ figs (T.take q)).length (bytesV (fig f0 ++ figs (T.take q))) ∧ (∀ x, x < q → T.getD x 0 ≤ 4294967295) ∧ Below W2.heap.size W2 wr) (fun _ i _ => n - (intOf i).toNat)
    case atStart => exact ⟨0, Nat.zero_le _, rfl, by simpa [figs] using HO5.out, fun x hx => by omega, HB5.out⟩
    case round =>
      obtain ⟨q, hq, rfl, hown, hall, hbel⟩ := hrel
      have HO := Lib.hid hown
      have HBL := Lib.hid hbel
      have HA := Lib.hid hall
      have BR := Lib.hid (B2.out.below' hbel)
      have HR := Lib.hid (H2.out.trans (hbel.mono H2.out.size))
      have hlq : (fig f0 ++ figs (T.take q)).length ≤ 200 := by
        have h1 : (figs (T.take q)).length ≤ 5 * (T.take q).length := figs_len (fun v hv => by
          obtain ⟨j, hj, rfl⟩ := List.getElem_of_mem hv
          have hj2 : j < q := by rw [List.length_take] at hj; omega
          have := hall j hj2
          rw [List.getElem_take]
          rwa [List.getD_eq_getElem?_getD, List.getElem?_eq_getElem (by rw [List.length_take] at hj; omega)] at this)
        have h2 : (T.take q).length ≤ q := by rw [List.length_take]; omega
        have := HM.out; rw [List.length_append]; omega
      obtain ⟨ab, cb, rfl⟩ := own_slice hown
      clear hown hbel hall
      by_cases hqm : q < m
      · have hqi : (q : Int) + 2 < (n : Int) := by have := HM.out; omega
        have cq := HC.out wr HR.out (q + 2) (by have := HM.out; omega)
        rw [← HTG.out q] at cq
        have hcast : ((q : Int) + 2).toNat = q + 2 := by omega
        have hqn : q + 2 < n := by have := HM.out; omega
        have hx8 := getD_ltw (l := T) (fun x hx => by obtain ⟨j, hj, rfl⟩ := List.getElem_of_mem hx; have := HTG.out j; rw [List.getD_eq_getElem?_getD, List.getElem?_eq_getElem hj] at this; simp only [Option.getD_some] at this; rw [this]; exact getD_ltw HW64.out _) q
        have HMEM := Lib.hid (show T.getD q 0 ∈ T by rw [List.getD_eq_getElem?_getD, List.getElem?_eq_getElem (by have := HM.out; rw [HTL.out]; omega)]; exact List.getElem_mem _)
        by_cases hbig : 4294967295 < T.getD q 0
        · have hX := Lib.hid (HNO.out _ HMEM.out (by omega))
          have hbi : (4294967295 : Int) < ((T.getD q 0 : Nat) : Int) := by omega
          generalize T.getD q 0 = y at *
          go_wp2_with (first | (refine wpList_store_row (P := Tryz.prog) rfl 45 (.tmp 2) (.tmp 64) rfl w.heap.size #[.int .u8 0, .slice none 0 0, .slice none 0 0] rfl rfl 45 _ BR.out info25 rfl (all_item _ _ _ _ _ _ _) ?_))
          have D3 := BR.out.setRow [.int .u8 0, .slice none 0 0, .slice none 0 0]
          refine bodyPost_ret (results_two Tryz.results87 _ _ w.heap.size 45 _ (0, 0) _ _ rfl rfl D3 Tryz.underlying45 rfl info25) rfl ?_
          exact OfOR.err hX.out (below_setRow' HR.out (Nat.le_refl _) _)
        · have hbi : ¬ (4294967295 : Int) < ((T.getD q 0 : Nat) : Int) := by omega
          have HA2 := Lib.hid (show ∀ x, x < q + 1 → T.getD x 0 ≤ 4294967295 from fun x hx => by rcases Nat.lt_or_ge x q with h | h; exact HA.out x h; (obtain rfl : x = q := by omega); omega)
          have HT := Lib.hid (figs_take T q (by have := HM.out; rw [HTL.out]; omega))
          have H8 := Lib.hid (fig_lt (T.getD q 0))
          have h5 := fig_len (v := T.getD q 0) (by omega)
          have HG2 := Lib.hid (fun W => figure_any W (T.getD q 0) (by omega))
          generalize T.getD q 0 = y at *
          obtain ⟨k, hk⟩ : ∃ k, (fig f0 ++ figs (T.take q)).length = k := ⟨_, rfl⟩
          have HK := Lib.hid hk
          rw [hk] at HO hlq ⊢
          clear hk
          go_wp2_with (first | (go_at_call 109; (refine (HG2.out _).mono ?_); rintro e w3 ⟨v3, rfl, ho3, hb3⟩; obtain ⟨a3, c3, rfl⟩ := own_slice ho3; obtain ⟨a3', c3', e3, hi3, _⟩ := own_in ho3 H8.out (by omega); injection e3 with e31 e32 e33; subst e31 e33; have HI3 := Lib.hid hi3; have HB3 := Lib.hid (HBL.out.trans (hb3.mono HBL.out.size)); have HO3 := Lib.hid (own_below HO.out hb3); clear ho3 hi3) | (at_builtin; refine wpList_append_bytes _ rfl (.tmp 65) (.tmp 70) rfl W2.heap.size (.slice ab k cb) k (fig f0 ++ figs (T.take q)) rfl HO3.out a3 (fig y).length c3 (fig y) rfl HI3.out (by omega) HB3.out.size ?_; intro v4 w4 ho4 hg4))
          have hb4 : Below W2.heap.size W2 w4 := HB3.out.grown hg4 HB3.out.size (fun x hx => (HO3.out.lt x hx).1)
          have e5 : k + (fig y).length = (fig f0 ++ figs (T.take (q + 1))).length := by rw [HT.out, ← HK.out]; simp; omega
          have e6 : fig f0 ++ figs (T.take q) ++ fig y = fig f0 ++ figs (T.take (q + 1)) := by rw [HT.out]; simp
          rw [e5, e6] at ho4
          go_roundw
          case rel => exact ⟨q + 1, by omega, by first | (congr 1; done) | (congr 1; omega), ho4, HA2.out, hb4⟩
          case measure => simp [intOf]; omega
      · have hqi : ¬ (q : Int) + 2 < (n : Int) := by have := HM.out; omega
        have HE := Lib.hid (show fig f0 ++ figs (T.take q) = figs (fl l) by rw [HFL.out, List.take_of_length_le (by have := HM.out; rw [HTL.out]; omega)]; rfl)
        have HX := Lib.hid (show ofE l = .ok (figs (fl l)) by
          unfold ofE
          rw [if_pos (HOK.out (fun x hx => by obtain ⟨j, hj, rfl⟩ := List.getElem_of_mem hx; have := HA.out j (by have := HM.out; rw [HTL.out] at hj; omega); rwa [List.getD_eq_getElem?_getD, List.getElem?_eq_getElem hj] at this))])
        rw [HE.out] at HO hlq ⊢
        obtain ⟨k, hk⟩ : ∃ k, (figs (fl l)).length = k := ⟨_, rfl⟩
        have HK := Lib.hid hk
        rw [hk] at HO hlq ⊢
        clear hk
        go_wp2_with (first | (refine wpList_store_row (P := Tryz.prog) rfl 45 (.tmp 2) (.tmp 73) rfl w.heap.size #[.int .u8 6, .slice ab k cb, .slice none 0 0] rfl rfl 45 _ BR.out info25 rfl (all_item _ _ _ _ _ _ _) ?_))
        have D3 := BR.out.setRow [.int .u8 6, .slice ab k cb, .slice none 0 0]
        refine bodyPost_ret (results_two Tryz.results87 _ _ w.heap.size 45 _ (0, 0) _ _ rfl rfl D3 Tryz.underlying45 rfl info25) rfl ?_
        have hO2 := own_set HO.out BR.out (by decide) #[.int .u8 6, .slice ab k cb, .slice none 0 0]
        exact OfOR.good HX.out (below_setRow' HR.out (Nat.le_refl _) _) HK.out (by omega) ((dep_own hO2 (figs_lt _) (by omega)).mono (fun j hj _ => by have := HS2.out; omega))
end Go.Proofs.YtbabpmncdphnjaaGreat
namespace Go.Proofs.YtbabpmncdphnjaaGreat
open Go.RowKit
set_option linter.unusedVariables false
set_option maxRecDepth 100000
set_option maxHeartbeats 4000000 in
theorem rseq_d (D : Nat → Prop) (t : Nat) (ti : Int) (hti : (t : Int) = ti) (ht : t < 256) (w : World) (a : Option Addr) (n c : Nat) (k : Tr) (hn : k.len = n) (h : Dep D w (fun x => KIn x a c k)) : Calls Tryz.prog 24 #[.int .u8 ti, .slice a n c] w (ItR D t [] k w) := by
  subst hn hti
  have B0 := Lib.hid (Blk.new w 45 [.int .u8 0, .slice none 0 0, .slice none 0 0])
  have BEL := Lib.hid ((Below.refl _ w).alloc (Nat.le_refl _) (.cells #[.int .u8 0, .slice none 0 0, .slice none 0 0] 45))
  have HK := Lib.hid h
  clear h
  go_enter Tryz.func24, Tryz.ntmps24
  go_wp2_with (first | (refine wpList_store_row (P := Tryz.prog) rfl 45 (.tmp 4) (.tmp 7) rfl w.heap.size #[.int .u8 (t : Nat), .slice none 0 0, .slice a k.len c] rfl rfl 45 _ B0.out info25 rfl (all_item _ _ _ _ _ _ _) ?_))
  have D3 := B0.out.setRow [.int .u8 (t : Nat), .slice none 0 0, .slice a k.len c]
  refine bodyPost_ret (results_one Tryz.results24 _ _ w.heap.size 45 _ (0, 0) _ rfl D3 Tryz.underlying45 rfl info25) rfl ?_
  refine ⟨none, 0, 0, a, k.len, c, rfl, rfl, rfl, ?_, below_setRow' BEL.out (Nat.le_refl _) _⟩
  have h1 := (HK.out.cut BEL.out).row w.heap.size #[.int .u8 (t : Nat), .slice none 0 0, .slice a k.len c] (fun h => Nat.lt_irrefl _ h.2)
  exact (h1.map (fun x hx => (⟨ht, bin_empty x none 0 (by simp [maxLen]) (fun _ => rfl), hx⟩ : ItIn x t none 0 a c [] k))).mono (fun j hj _ => .inl hj.1)
theorem rseq_b {base : Nat} (t : Nat) (ti : Int) (hti : (t : Int) = ti) (ht : t < 256) (w : World) (a : Option Addr) (n c : Nat) (k : Tr) (hn : k.len = n) (hb : base ≤ w.heap.size) (h : Dep (FB base) w (fun x => KIn x a c k)) : Calls Tryz.prog 24 #[.int .u8 ti, .slice a n c] w (ItB base t [] k w) :=
  itB (rseq_d (FB base) t ti hti ht w a n c k hn h) hb (fun _ h => h)
set_option maxHeartbeats 4000000 in
theorem rplain_d (D : Nat → Prop) (t : Nat) (ti : Int) (hti : (t : Int) = ti) (ht : t < 256) (w : World) (a : Option Addr) (n c : Nat) (b : List Nat) (hn : b.length = n) (hl : n ≤ 140737488355328) (h : Dep D w (fun x => BIn x a n c b)) : Calls Tryz.prog 88 #[.int .u8 ti, .slice a n c] w (ItR D t b .nil w) := by
  subst hn hti
  have B0 := Lib.hid (Blk.new w 45 [.int .u8 0, .slice none 0 0, .slice none 0 0])
  have BEL := Lib.hid ((Below.refl _ w).alloc (Nat.le_refl _) (.cells #[.int .u8 0, .slice none 0 0, .slice none 0 0] 45))
  have HK := Lib.hid h
  clear h
  go_enter Tryz.func88, Tryz.ntmps88
  go_wp2_with (first | (refine wpList_store_row (P := Tryz.prog) rfl 45 (.tmp 4) (.tmp 7) rfl w.heap.size #[.int .u8 (t : Nat), .slice a b.length c, .slice none 0 0] rfl rfl 45 _ B0.out info25 rfl (all_item _ _ _ _ _ _ _) ?_))
  have D3 := B0.out.setRow [.int .u8 (t : Nat), .slice a b.length c, .slice none 0 0]
  refine bodyPost_ret (results_one Tryz.results88 _ _ w.heap.size 45 _ (0, 0) _ rfl D3 Tryz.underlying45 rfl info25) rfl ?_
  refine ⟨a, b.length, c, none, 0, 0, rfl, rfl, rfl, ?_, below_setRow' BEL.out (Nat.le_refl _) _⟩
  have h1 := (HK.out.cut BEL.out).row w.heap.size #[.int .u8 (t : Nat), .slice a b.length c, .slice none 0 0] (fun h => Nat.lt_irrefl _ h.2)
  exact (dep_itnil ht hl h1).mono (fun j hj _ => .inl hj.1)
end Go.Proofs.YtbabpmncdphnjaaGreat
