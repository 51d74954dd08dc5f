/- The project divides. Condition: the divisor is not 0, and the sizes of the arguments. -/
import Derived.Test.YtfffmoolkgheaaaVm
import Derived.Test.YtfffmoolkgheaaaSu
import Derived.Test.YtfffmoolkgheaaaDd
namespace Go.Proofs.Ytfffmoolkgheaaa
open Go.RowKit
set_option linter.unusedVariables false
set_option linter.unusedSimpArgs false
theorem digits_round (X M i R1 : Nat) (hM : M < 2 ^ 256) (hM2 : 2 ^ 255 ≤ M) (hR : R1 = remW (2 ^ 64) X M (i + 1)) :
    ∃ q1 r1 q0, (∀ w, Calls Try.prog 94 #[.agg (natsV .u64 (wds 4 R1)).toArray, .int .u64 (dgt (2 ^ 64) X i / 4294967296 : Nat), .agg (natsV .u64 (wds 4 M)).toArray] w fun e w' => e = .returned (.tuple #[.int .u64 (q1 : Nat), .agg (natsV .u64 (wds 4 r1)).toArray]) ∧ Below w.heap.size w w') ∧
      (∀ w, Calls Try.prog 94 #[.agg (natsV .u64 (wds 4 r1)).toArray, .int .u64 (dgt (2 ^ 64) X i % 4294967296 : Nat), .agg (natsV .u64 (wds 4 M)).toArray] w fun e w' => e = .returned (.tuple #[.int .u64 (q0 : Nat), .agg (natsV .u64 (wds 4 (remW (2 ^ 64) X M i))).toArray]) ∧ Below w.heap.size w w') ∧
      q1 < 4294967296 ∧ q0 < 4294967296 ∧ q1 * 4294967296 + q0 = dgt (2 ^ 64) (X / M) i := by
  have hM0 : 0 < M := by omega
  have hx := dgt_lt (B := 2 ^ 64) (by decide) X i
  have hh : dgt (2 ^ 64) X i / 4294967296 < 4294967296 := by omega
  have hl : dgt (2 ^ 64) X i % 4294967296 < 4294967296 := Nat.mod_lt _ (by decide)
  obtain ⟨h1, h2, h3, h4⟩ := step_gen 4294967296 (2 ^ 64) X M i R1 _ _ _ hM0 (by decide) (by decide) hR rfl rfl rfl
  refine ⟨_, _, _, fun w => digit_any R1 _ M _ w (by rw [hR]; exact Nat.mod_lt _ hM0) hM hM2 hh rfl, fun w => ?_, h2, h3, h4⟩
  rw [← h1]
  exact digit_any _ _ M _ w (Nat.mod_lt _ hM0) hM hM2 hl rfl
set_option maxRecDepth 100000 in
set_option maxHeartbeats 3200000 in
theorem divide_any (L U m : Nat) (w : World) (hL : L < 2 ^ 256) (hU : U < 2 ^ 256) (hm : m < 2 ^ 256) (h0 : m ≠ 0) :
    Calls Try.prog 51 #[.agg (natsV .u64 (wds 8 (L + 2 ^ 256 * U))).toArray, .agg (natsV .u64 (wds 4 m)).toArray] w fun e w' => e = .returned (.tuple #[.agg (natsV .u64 (wds 8 ((L + 2 ^ 256 * U) / m))).toArray, .agg (natsV .u64 (wds 4 ((L + 2 ^ 256 * U) % m))).toArray]) ∧ Below w.heap.size w w' := by
  obtain ⟨hn, hbl, hM2, hM⟩ := norm_m m h0 hm
  obtain ⟨n, hnn⟩ : ∃ n, n = 256 - bl m := ⟨_, rfl⟩
  rw [← hnn] at hn hM2 hM
  have HBT := Lib.hid (fun w => Bits_any m w hm)
  have HSU := Lib.hid (fun w => shiftUp_any L U n w hL hU hn)
  have hX : L + 2 ^ 256 * U < 2 ^ 256 * 2 ^ 256 := by omega
  generalize L + 2 ^ 256 * U = X at *
  have HSM := Lib.hid (fun w => Shl_any m (n : Int) w hm (by omega) (by omega))
  rw [show (n : Int).toNat = n by omega] at HSM
  rw [rem_top X n (m * 2 ^ n) hX (pow_le_norm m n h0)] at HSU
  have hr0 : X % m * 2 ^ n < 2 ^ 256 := Nat.lt_of_lt_of_le (Nat.mul_lt_mul_of_pos_right (Nat.mod_lt X (by omega)) (Nat.two_pow_pos n)) (Nat.le_of_lt hM)
  have HSR := Lib.hid (fun w => Shr_any (X % m * 2 ^ n) (n : Int) w hr0 (by omega) (by omega))
  rw [show (n : Int).toNat = n by omega, Nat.mul_div_cancel _ (Nat.two_pow_pos n), ← rem_end X m n] at HSR
  have HQE := quo_end X m n
  have HRD := Lib.hid (fun i => digits_round (X * 2 ^ n) (m * 2 ^ n) i _ hM hM2 rfl)
  rw [HQE] at HRD
  clear HQE hr0
  have A8 := Lib.hid (wds_at 8 (X * 2 ^ n))
  have L8 := Lib.hid (wds_len 8 (X * 2 ^ n))
  have LX := Lib.hid (wds_len 8 X)
  have Lm := Lib.hid (wds_len 4 m)
  have LM := Lib.hid (wds_len 4 (m * 2 ^ n))
  have LQ := Lib.hid (wds_len 8 (X / m))
  have LR := Lib.hid (wds_len 4 (X % m))
  have LRS := Lib.hid (fun s => wds_len 4 (remW (2 ^ 64) (X * 2 ^ n) (m * 2 ^ n) s))
  have QT := Lib.hid (quoW_top (X / m))
  have QA := Lib.hid (quoW_all (X / m))
  have QS := Lib.hid (fun i (hi : i < 8) => quoW_set (X / m) i hi)
  have QL := Lib.hid (fun s => quoW_len (X / m) s)
  obtain ⟨R, hR⟩ : ∃ R : Nat → Nat, R = remW (2 ^ 64) (X * 2 ^ n) (m * 2 ^ n) := ⟨_, rfl⟩
  rw [← hR] at HSU HSR HRD LRS
  obtain ⟨Qw, hQw⟩ : ∃ Q : Nat → List Nat, Q = quoW (X / m) := ⟨_, rfl⟩
  rw [← hQw] at QT QA QS QL
  clear hR hQw
  obtain ⟨lM, hlM⟩ : ∃ l, l = wds 4 (m * 2 ^ n) := ⟨_, rfl⟩
  rw [← hlM] at HSM HRD LM
  obtain ⟨lxn, hlxn⟩ : ∃ l, l = wds 8 (X * 2 ^ n) := ⟨_, rfl⟩
  rw [← hlxn] at HSU A8 L8
  clear hlM hlxn
  generalize X * 2 ^ n = Xn at *
  generalize wds 8 (X / m) = lQ at *
  generalize dgt (2 ^ 64) (X / m) = dQ at *
  generalize wds 4 (X % m) = lR at *
  generalize wds 8 X = lx at *
  generalize wds 4 m = lm at *
  have en : IntKind.i64.wrap (256 - ((bl m : Nat) : Int)) = (n : Int) := by rw [IntWalk.i64_in _ (by omega)]; omega
  have enb : 256 - ((bl m : Nat) : Int) = (n : Int) := by omega
  generalize bl m = b_ at *
  clear hL hU hm h0 hX hM2 hM hnn
  have B1 := Lib.hid ((((Blk.new w 26 (natsV .u64 lx)).alloc (.cells (natsV .u64 lm).toArray 24)).alloc (.cells (natsV .u64 (zeros 8)).toArray 26)).alloc (.cells (natsV .u64 (zeros 4)).toArray 24))
  have B2 := Lib.hid (((Blk.new2 w (.cells (natsV .u64 lx).toArray 26) 24 (natsV .u64 lm)).alloc (.cells (natsV .u64 (zeros 8)).toArray 26)).alloc (.cells (natsV .u64 (zeros 4)).toArray 24))
  have B3 := Lib.hid ((Blk.new3 w (.cells (natsV .u64 lx).toArray 26) (.cells (natsV .u64 lm).toArray 24) 26 (natsV .u64 (zeros 8))).alloc (.cells (natsV .u64 (zeros 4)).toArray 24))
  have B4 := Lib.hid (Blk.new4 w (.cells (natsV .u64 lx).toArray 26) (.cells (natsV .u64 lm).toArray 24) (.cells (natsV .u64 (zeros 8)).toArray 26) 24 (natsV .u64 (zeros 4)))
  have BEL := Lib.hid (((((Below.refl w.heap.size w).alloc (Nat.le_refl _) (.cells (natsV .u64 lx).toArray 26)).alloc (by simp) (.cells (natsV .u64 lm).toArray 24)).alloc (by simp; omega) (.cells (natsV .u64 (zeros 8)).toArray 26)).alloc (by simp; omega) (.cells (natsV .u64 (zeros 4)).toArray 24))
  go_enter Try.func51, Try.ntmps51
  go_wp2_with (refine ld24 rfl (.tmp 3) rfl (w.heap.size + 1) rfl lm B2.out Lm.out ?_)
  refine (HBT.out _).mono ?_
  rintro e w1 ⟨rfl, hb1⟩
  have C1 := Lib.hid (B1.out.below' hb1)
  have C2 := Lib.hid (B2.out.below' hb1)
  have C3 := Lib.hid (B3.out.below' hb1)
  have C4 := Lib.hid (B4.out.below' hb1)
  have bel1 := BEL.out.trans (hb1.mono BEL.out.size)
  clear B1 B2 B3 B4 BEL hb1 HBT
  go_wp2_with (refine ld24 rfl (.tmp 3) rfl (w.heap.size + 1) rfl lm C2.out Lm.out ?_)
  clear en enb
  refine (HSM.out _).mono ?_
  rintro e w2 ⟨rfl, hb2⟩
  have D1 := Lib.hid (C1.out.below' hb2)
  have D2 := Lib.hid (C2.out.below' hb2)
  have D3 := Lib.hid (C3.out.below' hb2)
  have D4 := Lib.hid (C4.out.below' hb2)
  have bel2 := bel1.trans (hb2.mono bel1.size)
  clear C1 C2 C3 C4 bel1 hb2 HSM
  have E1 := Lib.hid (D1.out.row (natsV .u64 lM).toArray (show w.heap.size ≠ w.heap.size + 1 by omega))
  have E2 := Lib.hid (D2.out.setRow (natsV .u64 lM))
  have E3 := Lib.hid (D3.out.row (natsV .u64 lM).toArray (show w.heap.size + 1 + 1 ≠ w.heap.size + 1 by omega))
  have E4 := Lib.hid (D4.out.row (natsV .u64 lM).toArray (show w.heap.size + 1 + 1 + 1 ≠ w.heap.size + 1 by omega))
  have bel3 := below_setRow' bel2 (show w.heap.size ≤ w.heap.size + 1 by omega) (natsV .u64 lM).toArray
  go_wp2_with (first | (refine st24 rfl (.tmp 3) (.tmp 17) rfl (w.heap.size + 1) rfl lM rfl LM.out lm D2.out Lm.out ?_) | (refine ld26 rfl (.tmp 2) rfl w.heap.size rfl lx E1.out LX.out ?_))
  refine (HSU.out _).mono ?_
  rintro e w3 ⟨rfl, hb3⟩
  have F1 := Lib.hid ((E1.out.below' hb3).alloc (.cells (natsV .u64 (zeros 4)).toArray 24))
  have F2 := Lib.hid ((E2.out.below' hb3).alloc (.cells (natsV .u64 (zeros 4)).toArray 24))
  have F3 := Lib.hid ((E3.out.below' hb3).alloc (.cells (natsV .u64 (zeros 4)).toArray 24))
  have F4 := Lib.hid ((E4.out.below' hb3).alloc (.cells (natsV .u64 (zeros 4)).toArray 24))
  have F5 := Lib.hid (Blk.new w3 24 (natsV .u64 (zeros 4)))
  have hlt := (E4.out.below' hb3).lt
  have bel4 := (bel3.trans (hb3.mono bel3.size)).alloc (Nat.le_trans bel3.size hb3.size) (.cells (natsV .u64 (zeros 4)).toArray 24)
  clear D1 D2 D3 D4 E1 E2 E3 E4 bel2 bel3 hb3 HSU
  have G1 := Lib.hid ((F1.out.setRow (natsV .u64 lxn)).row (natsV .u64 (wds 4 (R 8))).toArray (show w.heap.size ≠ w3.heap.size by omega))
  have G2 := Lib.hid ((F2.out.row (natsV .u64 lxn).toArray (show w.heap.size + 1 ≠ w.heap.size by omega)).row (natsV .u64 (wds 4 (R 8))).toArray (show w.heap.size + 1 ≠ w3.heap.size by omega))
  have G3 := Lib.hid ((F3.out.row (natsV .u64 lxn).toArray (show w.heap.size + 1 + 1 ≠ w.heap.size by omega)).row (natsV .u64 (wds 4 (R 8))).toArray (show w.heap.size + 1 + 1 ≠ w3.heap.size by omega))
  have G4 := Lib.hid ((F4.out.row (natsV .u64 lxn).toArray (show w.heap.size + 1 + 1 + 1 ≠ w.heap.size by omega)).row (natsV .u64 (wds 4 (R 8))).toArray (show w.heap.size + 1 + 1 + 1 ≠ w3.heap.size by omega))
  have G5a := Lib.hid (F5.out.row (natsV .u64 lxn).toArray (show w3.heap.size ≠ w.heap.size by omega))
  have G5 := Lib.hid (G5a.out.setRow (natsV .u64 (wds 4 (R 8))))
  have bel5 := below_setRow' (below_setRow' bel4 (Nat.le_refl _) (natsV .u64 lxn).toArray) (show w.heap.size ≤ w3.heap.size by omega) (natsV .u64 (wds 4 (R 8))).toArray
  have hsz5 : (((w3.alloc (.cells (natsV .u64 (zeros 4)).toArray 24)).setRow w.heap.size (natsV .u64 lxn).toArray).setRow w3.heap.size (natsV .u64 (wds 4 (R 8))).toArray).heap.size = w3.heap.size + 1 := by simp
  have H1 := Lib.hid (G1.out.alloc (.cells (natsV .u64 (zeros 8)).toArray 26))
  have H2 := Lib.hid (G2.out.alloc (.cells (natsV .u64 (zeros 8)).toArray 26))
  have H3 := Lib.hid (G3.out.alloc (.cells (natsV .u64 (zeros 8)).toArray 26))
  have H4 := Lib.hid (G4.out.alloc (.cells (natsV .u64 (zeros 8)).toArray 26))
  have H5 := Lib.hid (G5.out.alloc (.cells (natsV .u64 (zeros 8)).toArray 26))
  have H6 := Lib.hid (Blk.new (((w3.alloc (.cells (natsV .u64 (zeros 4)).toArray 24)).setRow w.heap.size (natsV .u64 lxn).toArray).setRow w3.heap.size (natsV .u64 (wds 4 (R 8))).toArray) 26 (natsV .u64 (zeros 8)))
  rw [hsz5] at H6
  have bel6 := Lib.hid (bel5.alloc (by rw [hsz5]; omega) (.cells (natsV .u64 (zeros 8)).toArray 26))
  clear hsz5 G1 G2 G3 G4 G5 bel5
  have u25 := Try.underlying24
  have hLR8 := LRS.out 8
  go_wp2_with (first | (refine st26 rfl (.tmp 2) (.tmp 22) rfl w.heap.size rfl lxn rfl L8.out lx F1.out LX.out ?_) | (refine st24 rfl (.tmp 7) (.tmp 23) rfl w3.heap.size rfl (wds 4 (R 8)) rfl hLR8 (zeros 4) G5a.out rfl ?_))
  clear F1 F2 F3 F4 F5 G5a bel4
  generalize hG7 : w3.heap.size = G at *
  go_loopw [9] (fun i wr => ∃ s : Nat, s ≤ 8 ∧ i = .int .i64 ((s : Int) - 1) ∧ Blk wr w.heap.size 26 (natsV .u64 lxn) ∧ Blk wr (w.heap.size + 1) 24 (natsV .u64 lM) ∧ Blk wr (w.heap.size + 1 + 1) 26 (natsV .u64 (zeros 8)) ∧ Blk wr (w.heap.size + 1 + 1 + 1) 24 (natsV .u64 (zeros 4)) ∧ Blk wr G 24 (natsV .u64 (wds 4 (R s))) ∧ Blk wr (G + 1) 26 (natsV .u64 (Qw s)) ∧ Below w.heap.size w wr) (fun i _ => (intOf i + 1).toNat)
  case atStart => exact ⟨8, by omega, rfl, H1.out, H2.out, H3.out, H4.out, H5.out, by rw [QT.out]; exact H6.out, bel6.out⟩
  case round =>
    clear H1 H2 H3 H4 H5 H6 bel6 QT hLR8 hG7
    obtain ⟨s, hs, rfl, k1, k2, k3, k4, k5, k6, hbel⟩ := hrel
    have K1 := Lib.hid k1
    have K2 := Lib.hid k2
    have K3 := Lib.hid k3
    have K4 := Lib.hid k4
    have K5 := Lib.hid k5
    have K6 := Lib.hid k6
    clear k1 k2 k3 k4 k5 k6
    rcases s with _ | s
    · rw [show ((0 : Nat) : Int) - 1 = -1 from rfl]
      rw [QA.out] at K6
      have hLR0 := LRS.out 0
      have i42 : (Try.prog.info? 26).map (·.size) = some (natsV .u64 lQ).length := by rw [info26, natsV_length, LQ.out]
      have i25 : (Try.prog.info? 24).map (·.size) = some (natsV .u64 (wds 4 (R 0))).length := by rw [info24, natsV_length, hLR0]
      as_aux_lemma =>
      go_wp2_with fail
      refine wp_region_held_drew (S := (fun w' => w'.rangeAt (G + 1) 0 (natsV .u64 lQ) ∧ w'.rangeAt G 0 (natsV .u64 (wds 4 (R 0))))) (by kernel_rfl) ⟨blk_rangeV K6.out.drew, blk_rangeV K5.out.drew⟩ (fun hHeld => ?_)
      refine wpAnyH_take (i := 0) (oi := _) (v := _) rfl (by kernel_rfl) (by kernel_rfl) (by kernel_rfl) (fun _ _ _ h => h) (yieldsIf_load_mid (by rfl) _ _ rfl _ _ rfl _ _ (by intro w hSw; exact hSw.1) Try.underlying26 rfl i42) hHeld ?_
      try simp only [Act.put, List.getElem_toArray, List.getElem_cons_succ, List.getElem_cons_zero, List.setIfInBounds_toArray, List.set_cons_zero, List.set_cons_succ]
      refine wpAnyH_take (i := 1) (oi := _) (v := _) rfl (by kernel_rfl) (by kernel_rfl) (by kernel_rfl) (fun _ _ _ h => h) (yieldsIf_load_mid (by rfl) _ _ rfl _ _ rfl _ _ (by intro w hSw; exact hSw.2) Try.underlying24 rfl i25) hHeld ?_
      try simp only [Act.put, List.getElem_toArray, List.getElem_cons_succ, List.getElem_cons_zero, List.setIfInBounds_toArray, List.set_cons_zero, List.set_cons_succ]
      refine wpAnyH_take (i := 2) (oi := _) (v := _) rfl (by kernel_rfl) (by kernel_rfl) (by kernel_rfl) (fun _ _ _ h => h) (Or.inl ⟨by rfl, by intro w hSw; (try dsimp only at hSw); go_simp; first | done | with_reducible rfl⟩) hHeld ?_
      try simp only [Act.put, List.getElem_toArray, List.getElem_cons_succ, List.getElem_cons_zero, List.setIfInBounds_toArray, List.set_cons_zero, List.set_cons_succ]
      refine wpAnyH_ready (rs := [3]) (by kernel_rfl) (by simp) ?_
      refine AllReadyH.cons (o := _) rfl (fun K hK => ?_) AllReadyH.nil
      go_simp
      go_at_call 95
      refine (HSR.out _).mono ?_
      rintro e wx3 ⟨rfl, hbx3⟩
      refine hK.out _ _ ⟨range_keepV hHeld.1 hbx3, range_keepV hHeld.2 hbx3⟩ (fun hHeld2 => ?_)
      clear hK K hHeld
      have hHeld := hHeld2
      clear hHeld2
      try simp only [Act.put, List.getElem_toArray, List.getElem_cons_succ, List.getElem_cons_zero, List.setIfInBounds_toArray, List.set_cons_zero, List.set_cons_succ]
      refine wpAnyH_ready (rs := [4]) (by kernel_rfl) (by simp) ?_
      refine AllReadyH.cons (o := _) rfl (fun K hK => ?_) AllReadyH.nil
      rw [if_pos (by rfl)]
      refine wst26 (.tmp 4) (.tmp 54) rfl (w.heap.size + 1 + 1) rfl lQ rfl LQ.out (zeros 8) (K3.out.drew.below' hbx3) rfl ?_
      refine hK.out _ _ (⟨blk_rangeV ((K6.out.drew.below' hbx3).row (natsV .u64 lQ).toArray (show G + 1 ≠ w.heap.size + 1 + 1 by omega)), blk_rangeV ((K5.out.drew.below' hbx3).row (natsV .u64 lQ).toArray (show G ≠ w.heap.size + 1 + 1 by omega))⟩) (fun hHeld2 => ?_)
      clear hK K hHeld
      have hHeld := hHeld2
      clear hHeld2
      try simp only [Act.put, List.getElem_toArray, List.getElem_cons_succ, List.getElem_cons_zero, List.setIfInBounds_toArray, List.set_cons_zero, List.set_cons_succ]
      have M4 := Lib.hid ((K4.out.drew.below' hbx3).row (natsV .u64 lQ).toArray (show w.heap.size + 1 + 1 + 1 ≠ w.heap.size + 1 + 1 by omega))
      have M5 := Lib.hid ((K5.out.drew.below' hbx3).row (natsV .u64 lQ).toArray (show G ≠ w.heap.size + 1 + 1 by omega))
      have M6 := Lib.hid ((K6.out.drew.below' hbx3).row (natsV .u64 lQ).toArray (show G + 1 ≠ w.heap.size + 1 + 1 by omega))
      have M3 := Lib.hid ((K3.out.drew.below' hbx3).setRow (natsV .u64 lQ))
      have belM := below_setRow' (hbel.drew.trans (hbx3.mono hbel.drew.size)) (show w.heap.size ≤ w.heap.size + 1 + 1 by omega) (natsV .u64 lQ).toArray
      refine wpAnyH_ready (rs := [5]) (by kernel_rfl) (by simp) ?_
      refine AllReadyH.cons (o := _) rfl (fun K hK => ?_) AllReadyH.nil
      rw [if_pos (by rfl)]
      refine wst24 (.tmp 5) (.tmp 57) rfl (w.heap.size + 1 + 1 + 1) rfl lR rfl LR.out (zeros 4) M4.out rfl ?_
      refine hK.out _ _ (⟨blk_rangeV (M6.out.row (natsV .u64 lR).toArray (show G + 1 ≠ w.heap.size + 1 + 1 + 1 by omega)), blk_rangeV (M5.out.row (natsV .u64 lR).toArray (show G ≠ w.heap.size + 1 + 1 + 1 by omega))⟩) (fun hHeld2 => ?_)
      clear hK K hHeld
      have hHeld := hHeld2
      clear hHeld2
      try simp only [Act.put, List.getElem_toArray, List.getElem_cons_succ, List.getElem_cons_zero, List.setIfInBounds_toArray, List.set_cons_zero, List.set_cons_succ]
      refine wpAnyH_done (by kernel_rfl) ?_ _
      have j5 := M4.out.setRow (natsV .u64 lR)
      have j4 := M3.out.row (natsV .u64 lR).toArray (show w.heap.size + 1 + 1 ≠ w.heap.size + 1 + 1 + 1 by omega)
      have hb2 := below_setRow' belM (show w.heap.size ≤ w.heap.size + 1 + 1 + 1 by omega) (natsV .u64 lR).toArray
      go_wp2_with fail
      refine bodyPost_ret (v := .tuple #[.agg (natsV .u64 lQ).toArray, .agg (natsV .u64 lR).toArray]) ?_ rfl ⟨rfl, hb2⟩
      exact results_cells Try.results51 _ _ (w.heap.size + 1 + 1) (w.heap.size + 1 + 1 + 1) 26 24 _ _ (0, 0) (0, 0) _ _ rfl rfl j4 j5 Try.underlying26 rfl (by rw [info26, size_nats, LQ.out]) Try.underlying24 rfl (by rw [info24, size_nats, LR.out])
    · rw [show ((s + 1 : Nat) : Int) - 1 = (s : Int) by omega]
      as_aux_lemma =>
      have hs8 : s < 8 := by omega
      have hsi : (s : Int) < 8 := by omega
      have c0 := K1.out.nat s (by rw [L8.out]; exact hs8)
      rw [A8.out s hs8] at c0
      obtain ⟨q1, r1, q0, hd1, hd2, hq1, hq0, hqq⟩ := HRD.out s
      have HD1 := Lib.hid hd1
      have HD2 := Lib.hid hd2
      have HQQ := Lib.hid hqq
      clear hd1 hd2 hqq
      have HXL := dgt_lt (B := 2 ^ 64) (by decide) Xn s
      obtain ⟨x, hx⟩ : ∃ x, x = dgt (2 ^ 64) Xn s := ⟨_, rfl⟩
      rw [← hx] at c0 HD1 HD2 HXL
      have HXE := Lib.hid hx
      clear hx
      obtain ⟨xh, hxh⟩ : ∃ y, y = x / 4294967296 := ⟨_, rfl⟩
      obtain ⟨xl, hxl⟩ : ∃ y, y = x % 4294967296 := ⟨_, rfl⟩
      rw [← hxh] at HD1
      rw [← hxl] at HD2
      have e1 := w_hi x xh hxh
      have e2 := w_lo x xl hxl
      clear hxh hxl
      have hLs := LRS.out (s + 1)
      have hLs0 := LRS.out s
      have hLr1 := wds_len 4 r1
      obtain ⟨lr1, hlr1⟩ : ∃ l, l = wds 4 (R (s + 1)) := ⟨_, rfl⟩
      rw [← hlr1] at K5 HD1 hLs
      obtain ⟨lrm, hlrm⟩ : ∃ l, l = wds 4 r1 := ⟨_, rfl⟩
      rw [← hlrm] at HD1 HD2 hLr1
      obtain ⟨lr0, hlr0⟩ : ∃ l, l = wds 4 (R s) := ⟨_, rfl⟩
      rw [← hlr0] at HD2 hLs0
      have HLR0 := Lib.hid hlr0
      clear hlr1 hlrm hlr0
      have u25 := Try.underlying24
      have i25M : (Try.prog.info? 24).map (·.size) = some (natsV .u64 lM).length := by rw [info24, natsV_length, LM.out]
      go_wp2_with fail
      refine wp_region_held_drew (S := (fun w' => w'.rangeAt (w.heap.size + 1) 0 (natsV .u64 lM) ∧ w'.cell? ⟨w.heap.size, s, none⟩ = some (.int .u64 (x : Nat)))) (by kernel_rfl) ⟨blk_rangeV K2.out.drew, c0⟩ (fun hHeld => ?_)
      refine wpAnyH_take (i := 1) (oi := _) (v := _) rfl (by kernel_rfl) (by kernel_rfl) (by kernel_rfl) (fun _ _ _ h => h) (Or.inl ⟨by rfl, by intro w hSw; (try dsimp only at hSw); go_simp; first | done | with_reducible rfl⟩) hHeld ?_
      try simp only [Act.put, List.getElem_toArray, List.getElem_cons_succ, List.getElem_cons_zero, List.setIfInBounds_toArray, List.set_cons_zero, List.set_cons_succ]
      refine wpAnyH_take (i := 2) (oi := _) (v := _) rfl (by kernel_rfl) (by kernel_rfl) (by kernel_rfl) (fun _ _ _ h => h) (Or.inl ⟨by rfl, by intro w hSw; (try dsimp only at hSw); go_simp; first | done | with_reducible rfl⟩) hHeld ?_
      try simp only [Act.put, List.getElem_toArray, List.getElem_cons_succ, List.getElem_cons_zero, List.setIfInBounds_toArray, List.set_cons_zero, List.set_cons_succ]
      refine wpAnyH_take (i := 3) (oi := _) (v := _) rfl (by kernel_rfl) (by kernel_rfl) (by kernel_rfl) (fun _ _ _ h => h) (Or.inl ⟨by rfl, by intro w hSw; (try dsimp only at hSw); go_simp; first | done | with_reducible rfl⟩) hHeld ?_
      try simp only [Act.put, List.getElem_toArray, List.getElem_cons_succ, List.getElem_cons_zero, List.setIfInBounds_toArray, List.set_cons_zero, List.set_cons_succ]
      refine wpAnyH_take (i := 4) (oi := _) (v := _) rfl (by kernel_rfl) (by kernel_rfl) (by kernel_rfl) (fun _ _ _ h => h) (Or.inl ⟨by rfl, by intro w hSw; (try dsimp only at hSw); go_simp; first | done | with_reducible rfl⟩) hHeld ?_
      try simp only [Act.put, List.getElem_toArray, List.getElem_cons_succ, List.getElem_cons_zero, List.setIfInBounds_toArray, List.set_cons_zero, List.set_cons_succ]
      refine wpAnyH_take (i := 5) (oi := _) (v := _) rfl (by kernel_rfl) (by kernel_rfl) (by kernel_rfl) (fun _ _ _ h => h) (yieldsIf_load_mid (by rfl) _ _ rfl _ _ rfl _ _ (by intro w hSw; exact hSw.1) u25 rfl i25M) hHeld ?_
      try simp only [Act.put, List.getElem_toArray, List.getElem_cons_succ, List.getElem_cons_zero, List.setIfInBounds_toArray, List.set_cons_zero, List.set_cons_succ]
      refine wpAnyH_ready (rs := [0]) (by kernel_rfl) (by simp) ?_
      refine AllReadyH.cons (o := _) rfl (fun K hK => ?_) AllReadyH.nil
      rw [if_pos (by rfl)]
      refine wp_load_row 24 (.tmp 7) rfl G rfl 24 (natsV .u64 lr1).toArray (0, 0) _ K5.out.drew u25 rfl (by rw [info24, size_nats, hLs]) ?_
      refine hK.out _ _ hHeld (fun hHeld2 => ?_)
      clear hK K hHeld
      have hHeld := hHeld2
      clear hHeld2
      try simp only [Act.put, List.getElem_toArray, List.getElem_cons_succ, List.getElem_cons_zero, List.setIfInBounds_toArray, List.set_cons_zero, List.set_cons_succ]
      refine wpAnyH_ready (rs := [6]) (by kernel_rfl) (by simp) ?_
      refine AllReadyH.cons (o := _) rfl (fun K hK => ?_) AllReadyH.nil
      go_simp
      go_at_call 94
      refine (HD1.out _).mono ?_
      rintro e wx1 ⟨rfl, hbx1⟩
      refine hK.out _ _ ⟨range_keepV hHeld.1 hbx1, (hbx1.cell (World.block_lt_of_cell? _ _ hHeld.2)).trans hHeld.2⟩ (fun hHeld2 => ?_)
      clear hK K hHeld
      have hHeld := hHeld2
      clear hHeld2
      try simp only [Act.put, List.getElem_toArray, List.getElem_cons_succ, List.getElem_cons_zero, List.setIfInBounds_toArray, List.set_cons_zero, List.set_cons_succ]
      refine wpAnyH_take (i := 7) (oi := _) (v := _) rfl (by kernel_rfl) (by kernel_rfl) (by kernel_rfl) (fun _ _ _ h => h) (Or.inl ⟨by rfl, by intro w hSw; (try dsimp only at hSw); go_simp; first | done | with_reducible rfl⟩) hHeld ?_
      try simp only [Act.put, List.getElem_toArray, List.getElem_cons_succ, List.getElem_cons_zero, List.setIfInBounds_toArray, List.set_cons_zero, List.set_cons_succ]
      refine wpAnyH_take (i := 8) (oi := _) (v := _) rfl (by kernel_rfl) (by kernel_rfl) (by kernel_rfl) (fun _ _ _ h => h) (Or.inl ⟨by rfl, by intro w hSw; (try dsimp only at hSw); go_simp; first | done | with_reducible rfl⟩) hHeld ?_
      try simp only [Act.put, List.getElem_toArray, List.getElem_cons_succ, List.getElem_cons_zero, List.setIfInBounds_toArray, List.set_cons_zero, List.set_cons_succ]
      refine wpAnyH_take (i := 9) (oi := _) (v := _) rfl (by kernel_rfl) (by kernel_rfl) (by kernel_rfl) (fun _ _ _ h => h) (Or.inl ⟨by rfl, by intro w hSw; (try dsimp only at hSw); go_simp; first | done | with_reducible rfl⟩) hHeld ?_
      try simp only [Act.put, List.getElem_toArray, List.getElem_cons_succ, List.getElem_cons_zero, List.setIfInBounds_toArray, List.set_cons_zero, List.set_cons_succ]
      refine wpAnyH_take (i := 10) (oi := _) (v := _) rfl (by kernel_rfl) (by kernel_rfl) (by kernel_rfl) (fun _ _ _ h => h) (Or.inl ⟨by rfl, by intro w hSw; (try dsimp only at hSw); go_simp; first | done | with_reducible rfl⟩) hHeld ?_
      try simp only [Act.put, List.getElem_toArray, List.getElem_cons_succ, List.getElem_cons_zero, List.setIfInBounds_toArray, List.set_cons_zero, List.set_cons_succ]
      refine wpAnyH_ready (rs := [11]) (by kernel_rfl) (by simp) ?_
      refine AllReadyH.cons (o := _) rfl (fun K hK => ?_) AllReadyH.nil
      rw [if_pos (by rfl)]
      refine wst24 (.tmp 7) (.tmp 37) rfl G rfl lrm rfl hLr1 lr1 (K5.out.drew.below' hbx1) hLs ?_
      refine hK.out _ _ (⟨blk_rangeV ((K2.out.drew.below' hbx1).row (natsV .u64 lrm).toArray (show w.heap.size + 1 ≠ G by omega)), (((K1.out.drew.below' hbx1).row (natsV .u64 lrm).toArray (show w.heap.size ≠ G by omega)).nat s (by rw [L8.out]; exact hs8)).trans (by rw [A8.out s hs8, ← HXE.out])⟩) (fun hHeld2 => ?_)
      clear hK K hHeld
      have hHeld := hHeld2
      clear hHeld2
      try simp only [Act.put, List.getElem_toArray, List.getElem_cons_succ, List.getElem_cons_zero, List.setIfInBounds_toArray, List.set_cons_zero, List.set_cons_succ]
      refine wpAnyH_done (by kernel_rfl) ?_ _
      have N1 := Lib.hid ((K1.out.drew.below' hbx1).row (natsV .u64 lrm).toArray (show w.heap.size ≠ G by omega))
      have N2 := Lib.hid ((K2.out.drew.below' hbx1).row (natsV .u64 lrm).toArray (show w.heap.size + 1 ≠ G by omega))
      have N3 := Lib.hid ((K3.out.drew.below' hbx1).row (natsV .u64 lrm).toArray (show w.heap.size + 1 + 1 ≠ G by omega))
      have N4 := Lib.hid ((K4.out.drew.below' hbx1).row (natsV .u64 lrm).toArray (show w.heap.size + 1 + 1 + 1 ≠ G by omega))
      have N6 := Lib.hid ((K6.out.drew.below' hbx1).row (natsV .u64 lrm).toArray (show G + 1 ≠ G by omega))
      have N5 := Lib.hid ((K5.out.drew.below' hbx1).setRow (natsV .u64 lrm))
      have belN := below_setRow' (hbel.drew.trans (hbx1.mono hbel.drew.size)) (show w.heap.size ≤ G by omega) (natsV .u64 lrm).toArray
      clear hHeld K1 K2 K3 K4 K5 K6 hbel hbx1
      clear e1 c0
      have c0 := N1.out.nat s (by rw [L8.out]; exact hs8)
      rw [A8.out s hs8, ← HXE.out] at c0
      go_wp2_with fail
      refine wp_region_held_drew (S := (fun w' => w'.rangeAt (w.heap.size + 1) 0 (natsV .u64 lM) ∧ w'.cell? ⟨w.heap.size, s, none⟩ = some (.int .u64 (x : Nat)))) (by kernel_rfl) ⟨blk_rangeV N2.out.drew, c0⟩ (fun hHeld => ?_)
      refine wpAnyH_take (i := 1) (oi := _) (v := _) rfl (by kernel_rfl) (by kernel_rfl) (by kernel_rfl) (fun _ _ _ h => h) (Or.inl ⟨by rfl, by intro w hSw; (try dsimp only at hSw); go_simp; first | done | with_reducible rfl⟩) hHeld ?_
      try simp only [Act.put, List.getElem_toArray, List.getElem_cons_succ, List.getElem_cons_zero, List.setIfInBounds_toArray, List.set_cons_zero, List.set_cons_succ]
      refine wpAnyH_take (i := 2) (oi := _) (v := _) rfl (by kernel_rfl) (by kernel_rfl) (by kernel_rfl) (fun _ _ _ h => h) (Or.inl ⟨by rfl, by intro w hSw; (try dsimp only at hSw); go_simp; first | done | with_reducible rfl⟩) hHeld ?_
      try simp only [Act.put, List.getElem_toArray, List.getElem_cons_succ, List.getElem_cons_zero, List.setIfInBounds_toArray, List.set_cons_zero, List.set_cons_succ]
      refine wpAnyH_take (i := 3) (oi := _) (v := _) rfl (by kernel_rfl) (by kernel_rfl) (by kernel_rfl) (fun _ _ _ h => h) (Or.inl ⟨by rfl, by intro w hSw; (try dsimp only at hSw); go_simp; first | done | with_reducible rfl⟩) hHeld ?_
      try simp only [Act.put, List.getElem_toArray, List.getElem_cons_succ, List.getElem_cons_zero, List.setIfInBounds_toArray, List.set_cons_zero, List.set_cons_succ]
      refine wpAnyH_take (i := 4) (oi := _) (v := _) rfl (by kernel_rfl) (by kernel_rfl) (by kernel_rfl) (fun _ _ _ h => h) (Or.inl ⟨by rfl, by intro w hSw; (try dsimp only at hSw); go_simp; first | done | with_reducible rfl⟩) hHeld ?_
      try simp only [Act.put, List.getElem_toArray, List.getElem_cons_succ, List.getElem_cons_zero, List.setIfInBounds_toArray, List.set_cons_zero, List.set_cons_succ]
      refine wpAnyH_take (i := 5) (oi := _) (v := _) rfl (by kernel_rfl) (by kernel_rfl) (by kernel_rfl) (fun _ _ _ h => h) (yieldsIf_load_mid (by rfl) _ _ rfl _ _ rfl _ _ (by intro w hSw; exact hSw.1) u25 rfl i25M) hHeld ?_
      try simp only [Act.put, List.getElem_toArray, List.getElem_cons_succ, List.getElem_cons_zero, List.setIfInBounds_toArray, List.set_cons_zero, List.set_cons_succ]
      refine wpAnyH_ready (rs := [0]) (by kernel_rfl) (by simp) ?_
      refine AllReadyH.cons (o := _) rfl (fun K hK => ?_) AllReadyH.nil
      rw [if_pos (by rfl)]
      refine wp_load_row 24 (.tmp 7) rfl G rfl 24 (natsV .u64 lrm).toArray (0, 0) _ N5.out.drew u25 rfl (by rw [info24, size_nats, hLr1]) ?_
      refine hK.out _ _ hHeld (fun hHeld2 => ?_)
      clear hK K hHeld
      have hHeld := hHeld2
      clear hHeld2
      try simp only [Act.put, List.getElem_toArray, List.getElem_cons_succ, List.getElem_cons_zero, List.setIfInBounds_toArray, List.set_cons_zero, List.set_cons_succ]
      refine wpAnyH_ready (rs := [6]) (by kernel_rfl) (by simp) ?_
      refine AllReadyH.cons (o := _) rfl (fun K hK => ?_) AllReadyH.nil
      go_simp
      go_at_call 94
      refine (HD2.out _).mono ?_
      rintro e wx2 ⟨rfl, hbx2⟩
      refine hK.out _ _ ⟨range_keepV hHeld.1 hbx2, (hbx2.cell (World.block_lt_of_cell? _ _ hHeld.2)).trans hHeld.2⟩ (fun hHeld2 => ?_)
      clear hK K hHeld
      have hHeld := hHeld2
      clear hHeld2
      try simp only [Act.put, List.getElem_toArray, List.getElem_cons_succ, List.getElem_cons_zero, List.setIfInBounds_toArray, List.set_cons_zero, List.set_cons_succ]
      refine wpAnyH_take (i := 7) (oi := _) (v := _) rfl (by kernel_rfl) (by kernel_rfl) (by kernel_rfl) (fun _ _ _ h => h) (Or.inl ⟨by rfl, by intro w hSw; (try dsimp only at hSw); go_simp; first | done | with_reducible rfl⟩) hHeld ?_
      try simp only [Act.put, List.getElem_toArray, List.getElem_cons_succ, List.getElem_cons_zero, List.setIfInBounds_toArray, List.set_cons_zero, List.set_cons_succ]
      refine wpAnyH_take (i := 8) (oi := _) (v := _) rfl (by kernel_rfl) (by kernel_rfl) (by kernel_rfl) (fun _ _ _ h => h) (Or.inl ⟨by rfl, by intro w hSw; (try dsimp only at hSw); go_simp; first | done | with_reducible rfl⟩) hHeld ?_
      try simp only [Act.put, List.getElem_toArray, List.getElem_cons_succ, List.getElem_cons_zero, List.setIfInBounds_toArray, List.set_cons_zero, List.set_cons_succ]
      refine wpAnyH_take (i := 9) (oi := _) (v := _) rfl (by kernel_rfl) (by kernel_rfl) (by kernel_rfl) (fun _ _ _ h => h) (Or.inl ⟨by rfl, by intro w hSw; (try dsimp only at hSw); go_simp; first | done | with_reducible rfl⟩) hHeld ?_
      try simp only [Act.put, List.getElem_toArray, List.getElem_cons_succ, List.getElem_cons_zero, List.setIfInBounds_toArray, List.set_cons_zero, List.set_cons_succ]
      refine wpAnyH_take (i := 10) (oi := _) (v := _) rfl (by kernel_rfl) (by kernel_rfl) (by kernel_rfl) (fun _ _ _ h => h) (Or.inl ⟨by rfl, by intro w hSw; (try dsimp only at hSw); go_simp; first | done | with_reducible rfl⟩) hHeld ?_
      try simp only [Act.put, List.getElem_toArray, List.getElem_cons_succ, List.getElem_cons_zero, List.setIfInBounds_toArray, List.set_cons_zero, List.set_cons_succ]
      refine wpAnyH_ready (rs := [11]) (by kernel_rfl) (by simp) ?_
      refine AllReadyH.cons (o := _) rfl (fun K hK => ?_) AllReadyH.nil
      rw [if_pos (by rfl)]
      refine wst24 (.tmp 7) (.tmp 47) rfl G rfl lr0 rfl hLs0 lrm (N5.out.drew.below' hbx2) hLr1 ?_
      refine hK.out _ _ (⟨blk_rangeV ((N2.out.drew.below' hbx2).row (natsV .u64 lr0).toArray (show w.heap.size + 1 ≠ G by omega)), (((N1.out.drew.below' hbx2).row (natsV .u64 lr0).toArray (show w.heap.size ≠ G by omega)).nat s (by rw [L8.out]; exact hs8)).trans (by rw [A8.out s hs8, ← HXE.out])⟩) (fun hHeld2 => ?_)
      clear hK K hHeld
      have hHeld := hHeld2
      clear hHeld2
      try simp only [Act.put, List.getElem_toArray, List.getElem_cons_succ, List.getElem_cons_zero, List.setIfInBounds_toArray, List.set_cons_zero, List.set_cons_succ]
      refine wpAnyH_done (by kernel_rfl) ?_ _
      have P1 := Lib.hid ((N1.out.drew.below' hbx2).row (natsV .u64 lr0).toArray (show w.heap.size ≠ G by omega))
      have P2 := Lib.hid ((N2.out.drew.below' hbx2).row (natsV .u64 lr0).toArray (show w.heap.size + 1 ≠ G by omega))
      have P3 := Lib.hid ((N3.out.drew.below' hbx2).row (natsV .u64 lr0).toArray (show w.heap.size + 1 + 1 ≠ G by omega))
      have P4 := Lib.hid ((N4.out.drew.below' hbx2).row (natsV .u64 lr0).toArray (show w.heap.size + 1 + 1 + 1 ≠ G by omega))
      have P6 := Lib.hid ((N6.out.drew.below' hbx2).row (natsV .u64 lr0).toArray (show G + 1 ≠ G by omega))
      have P5 := Lib.hid ((N5.out.drew.below' hbx2).setRow (natsV .u64 lr0))
      have belP := below_setRow' (belN.drew.trans (hbx2.mono belN.drew.size)) (show w.heap.size ≤ G by omega) (natsV .u64 lr0).toArray
      clear hHeld N1 N2 N3 N4 N5 N6 belN hbx2
      clear e2 c0
      obtain ⟨tw, htw⟩ : ∃ t, t = 4294967296 * q1 := ⟨_, rfl⟩
      have etw : IntKind.u64.wrap ((q1 : Int) * 4294967296) = (tw : Int) := by rw [IntKind.wrap_u64]; omega
      have eor := w_or q1 q0 tw (dQ s) htw hq1 hq0 (by rw [← HQQ.out]; omega)
      have HSET := Lib.hid (QS.out s hs8)
      clear htw
      generalize dQ s = dq at *
      have c6 := P6.out.nat s (by rw [QL.out]; exact hs8)
      have f6 := P6.out.free s
      have n6 := Lib.hid (P6.out.natSet s dq)
      rw [HSET.out] at n6
      have n1 := Lib.hid (P1.out.other ⟨G + 1, s, none⟩ (.int .u64 (dq : Nat)) (by simp; omega))
      have n2 := Lib.hid (P2.out.other ⟨G + 1, s, none⟩ (.int .u64 (dq : Nat)) (by simp; omega))
      have n3 := Lib.hid (P3.out.other ⟨G + 1, s, none⟩ (.int .u64 (dq : Nat)) (by simp; omega))
      have n4 := Lib.hid (P4.out.other ⟨G + 1, s, none⟩ (.int .u64 (dq : Nat)) (by simp; omega))
      have n5 := Lib.hid (P5.out.other ⟨G + 1, s, none⟩ (.int .u64 (dq : Nat)) (by simp))
      have bel9 := belP.setCell (p := ⟨G + 1, s, none⟩) (by simp; omega) (.int .u64 (dq : Nat))
      clear P1 P2 P3 P4 P5 P6 belP
      go_wp2_with fail
      go_roundw
      case rel => exact ⟨s, by omega, rfl, n1.out, n2.out, n3.out, n4.out, by rw [← HLR0.out]; exact n5.out, n6.out, bel9⟩
      case measure => simp [intOf] <;> omega
end Go.Proofs.Ytfffmoolkgheaaa
