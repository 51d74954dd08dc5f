/- Parts of proofs of statements, each text behind those that it stands on. No condition of its own. -/
import Derived.Test.YtdkkombpkojjaaaD08
import Derived.Test.YtdkkombpkojjaaaD09
namespace Go.Proofs.Ytdkkombpkojjaaa
set_option maxRecDepth 100000
set_option maxHeartbeats 3200000
open Go.RowKit
set_option linter.unusedVariables false
set_option linter.unusedSimpArgs false
theorem digits_round (X M i R1 : Nat) (hM : M < 2 ^ 256) (hM2 : 2 ^ 255 ≤ M) (hR : R1 = remW (2 ^ 64) X M (i + 1)) :
   ∃ q1 r1 q0, (∀ w, Calls Try.prog 92 #[.agg (natsV .u64 (wds 4 R1)).toArray, .int .u64 (dgt (2 ^ 64) X i / 4294967296 : Nat), .agg (natsV .u64 (wds 4 M)).toArray] w fun e w' => e = .returned (.tuple #[.int .u64 (q1 : Nat), .agg (natsV .u64 (wds 4 r1)).toArray]) ∧ Below w.heap.size w w') ∧
     (∀ w, Calls Try.prog 92 #[.agg (natsV .u64 (wds 4 r1)).toArray, .int .u64 (dgt (2 ^ 64) X i % 4294967296 : Nat), .agg (natsV .u64 (wds 4 M)).toArray] w fun e w' => e = .returned (.tuple #[.int .u64 (q0 : Nat), .agg (natsV .u64 (wds 4 (remW (2 ^ 64) X M i))).toArray]) ∧ Below w.heap.size w w') ∧
     q1 < 4294967296 ∧ q0 < 4294967296 ∧ q1 * 4294967296 + q0 = dgt (2 ^ 64) (X / M) i := by
 have hM0 : 0 < M := by omega
 have hx := dgt_lt (B := 2 ^ 64) (by decide) X i
 have hh : dgt (2 ^ 64) X i / 4294967296 < 4294967296 := by omega
 have hl : dgt (2 ^ 64) X i % 4294967296 < 4294967296 := Nat.mod_lt _ (by decide)
 obtain ⟨h1, h2, h3, h4⟩ := step_gen 4294967296 (2 ^ 64) X M i R1 _ _ _ hM0 (by decide) (by decide) hR rfl rfl rfl
 refine ⟨_, _, _, fun w => digit_any R1 _ M _ w (by rw [hR]; exact Nat.mod_lt _ hM0) hM hM2 hh rfl, fun w => ?_, h2, h3, h4⟩
 rw [← h1]
 exact digit_any _ _ M _ w (Nat.mod_lt _ hM0) hM hM2 hl rfl
theorem divide_any (L U m : Nat) (w : World) (hL : L < 2 ^ 256) (hU : U < 2 ^ 256) (hm : m < 2 ^ 256) (h0 : m ≠ 0) :
   Calls Try.prog 82 #[.agg (natsV .u64 (wds 8 (L + 2 ^ 256 * U))).toArray, .agg (natsV .u64 (wds 4 m)).toArray] w fun e w' => e = .returned (.tuple #[.agg (natsV .u64 (wds 8 ((L + 2 ^ 256 * U) / m))).toArray, .agg (natsV .u64 (wds 4 ((L + 2 ^ 256 * U) % m))).toArray]) ∧ Below w.heap.size w w' := by
 obtain ⟨hn, hbl, hM2, hM⟩ := norm_m m h0 hm
 obtain ⟨n, hnn⟩ : ∃ n, n = 256 - bl m := ⟨_, rfl⟩
 rw [← hnn] at hn hM2 hM
 have HBT := Hd (fun w => Bits_any m w hm)
 have HSU := Hd (fun w => shiftUp_any L U n w hL hU hn)
 have hX : L + 2 ^ 256 * U < 2 ^ 256 * 2 ^ 256 := by omega
 generalize L + 2 ^ 256 * U = X at *
 have HSM := Hd (fun w => Shl_any m (n : Int) w hm (by omega) (by omega))
 rw [show (n : Int).toNat = n by omega] at HSM
 rw [rem_top X n (m * 2 ^ n) hX (pow_le_norm m n h0)] at HSU
 have hr0 : X % m * 2 ^ n < 2 ^ 256 := Nat.lt_of_lt_of_le (Nat.mul_lt_mul_of_pos_right (Nat.mod_lt X (by omega)) (Nat.two_pow_pos n)) (Nat.le_of_lt hM)
 have HSR := Hd (fun w => Shr_any (X % m * 2 ^ n) (n : Int) w hr0 (by omega) (by omega))
 rw [show (n : Int).toNat = n by omega, Nat.mul_div_cancel _ (Nat.two_pow_pos n), ← rem_end X m n] at HSR
 have HQE := quo_end X m n
 have HRD := Hd (fun i => digits_round (X * 2 ^ n) (m * 2 ^ n) i _ hM hM2 rfl)
 rw [HQE] at HRD
 have A8 := Hd (wds_at 8 (X * 2 ^ n))
 have L8 := Hd (wds_len 8 (X * 2 ^ n))
 have LX := Hd (wds_len 8 X)
 have Lm := Hd (wds_len 4 m)
 have LM := Hd (wds_len 4 (m * 2 ^ n))
 have LQ := Hd (wds_len 8 (X / m))
 have LR := Hd (wds_len 4 (X % m))
 have LRS := Hd (fun s => wds_len 4 (remW (2 ^ 64) (X * 2 ^ n) (m * 2 ^ n) s))
 have QT := Hd (quoW_top (X / m))
 have QA := Hd (quoW_all (X / m))
 have QS := Hd (fun i (hi : i < 8) => quoW_set (X / m) i hi)
 have QL := Hd (fun s => quoW_len (X / m) s)
 clear HQE hr0
 obtain ⟨R, hR⟩ : ∃ R : Nat → Nat, R = remW (2 ^ 64) (X * 2 ^ n) (m * 2 ^ n) := ⟨_, rfl⟩
 rw [← hR] at HSU HSR HRD LRS
 obtain ⟨Qw, hQw⟩ : ∃ Q : Nat → List Nat, Q = quoW (X / m) := ⟨_, rfl⟩
 rw [← hQw] at QT QA QS QL
 clear hR hQw
 obtain ⟨lM, hlM⟩ : ∃ l, l = wds 4 (m * 2 ^ n) := ⟨_, rfl⟩
 rw [← hlM] at HSM HRD LM
 obtain ⟨lxn, hlxn⟩ : ∃ l, l = wds 8 (X * 2 ^ n) := ⟨_, rfl⟩
 rw [← hlxn] at HSU A8 L8
 clear hlM hlxn
 generalize X * 2 ^ n = Xn at *
 generalize wds 8 (X / m) = lQ at *
 generalize dgt (2 ^ 64) (X / m) = dQ at *
 generalize wds 4 (X % m) = lR at *
 generalize wds 8 X = lx at *
 generalize wds 4 m = lm at *
 have en : IntKind.i64.wrap (256 - ((bl m : Nat) : Int)) = (n : Int) := by rw [IntWalk.i64_in _ (by omega)]; omega
 have enb : 256 - ((bl m : Nat) : Int) = (n : Int) := by omega
 generalize bl m = b_ at *
 have B1 := Hd ((((Blk.new w 103 (natsV .u64 lx)).alloc (.cells (natsV .u64 lm).toArray 24)).alloc (.cells (natsV .u64 (zeros 8)).toArray 103)).alloc (.cells (natsV .u64 (zeros 4)).toArray 24))
 have B2 := Hd (((Blk.new2 w (.cells (natsV .u64 lx).toArray 103) 24 (natsV .u64 lm)).alloc (.cells (natsV .u64 (zeros 8)).toArray 103)).alloc (.cells (natsV .u64 (zeros 4)).toArray 24))
 have B3 := Hd ((Blk.new3 w (.cells (natsV .u64 lx).toArray 103) (.cells (natsV .u64 lm).toArray 24) 103 (natsV .u64 (zeros 8))).alloc (.cells (natsV .u64 (zeros 4)).toArray 24))
 have B4 := Hd (Blk.new4 w (.cells (natsV .u64 lx).toArray 103) (.cells (natsV .u64 lm).toArray 24) (.cells (natsV .u64 (zeros 8)).toArray 103) 24 (natsV .u64 (zeros 4)))
 clear hL hU hm h0 hX hM2 hM hnn
 have BEL := Hd (((((Below.refl w.heap.size w).alloc (Nat.le_refl _) (.cells (natsV .u64 lx).toArray 103)).alloc (by simp) (.cells (natsV .u64 lm).toArray 24)).alloc (by simp; omega) (.cells (natsV .u64 (zeros 8)).toArray 103)).alloc (by simp; omega) (.cells (natsV .u64 (zeros 4)).toArray 24))
 go_enter Try.func82, Try.ntmps82
 go_wp2_with (refine ld24 rfl (.tmp 3) rfl (w.heap.size + 1) rfl lm B2.out Lm.out ?_)
 refine (HBT.out _).mono ?_
 rintro e w1 ⟨rfl, hb1⟩
 have C1 := Hd (B1.out.below' hb1)
 have C2 := Hd (B2.out.below' hb1)
 have C3 := Hd (B3.out.below' hb1)
 have C4 := Hd (B4.out.below' hb1)
 have bel1 := BEL.out.trans (hb1.mono BEL.out.size)
 clear B1 B2 B3 B4 BEL hb1 HBT
 go_wp2_with (refine ld24 rfl (.tmp 3) rfl (w.heap.size + 1) rfl lm C2.out Lm.out ?_)
 clear en enb
 refine (HSM.out _).mono ?_
 rintro e w2 ⟨rfl, hb2⟩
 have D1 := Hd (C1.out.below' hb2)
 have D2 := Hd (C2.out.below' hb2)
 have D3 := Hd (C3.out.below' hb2)
 have D4 := Hd (C4.out.below' hb2)
 have bel2 := bel1.trans (hb2.mono bel1.size)
 have E1 := Hd (D1.out.row (natsV .u64 lM).toArray (show w.heap.size ≠ w.heap.size + 1 by omega))
 have E2 := Hd (D2.out.setRow (natsV .u64 lM))
 have E3 := Hd (D3.out.row (natsV .u64 lM).toArray (show w.heap.size + 1 + 1 ≠ w.heap.size + 1 by omega))
 have E4 := Hd (D4.out.row (natsV .u64 lM).toArray (show w.heap.size + 1 + 1 + 1 ≠ w.heap.size + 1 by omega))
 have bel3 := below_setRow' bel2 (show w.heap.size ≤ w.heap.size + 1 by omega) (natsV .u64 lM).toArray
 clear C1 C2 C3 C4 bel1 hb2 HSM
 go_wp2_with (first | (refine st24 rfl (.tmp 3) (.tmp 17) rfl (w.heap.size + 1) rfl lM rfl LM.out lm D2.out Lm.out ?_) | (refine ld26 rfl (.tmp 2) rfl w.heap.size rfl lx E1.out LX.out ?_))
 refine (HSU.out _).mono ?_
 rintro e w3 ⟨rfl, hb3⟩
 have F1 := Hd ((E1.out.below' hb3).alloc (.cells (natsV .u64 (zeros 4)).toArray 24))
 have F2 := Hd ((E2.out.below' hb3).alloc (.cells (natsV .u64 (zeros 4)).toArray 24))
 have F3 := Hd ((E3.out.below' hb3).alloc (.cells (natsV .u64 (zeros 4)).toArray 24))
 have F4 := Hd ((E4.out.below' hb3).alloc (.cells (natsV .u64 (zeros 4)).toArray 24))
 have F5 := Hd (Blk.new w3 24 (natsV .u64 (zeros 4)))
 have hlt := (E4.out.below' hb3).lt
 have bel4 := (bel3.trans (hb3.mono bel3.size)).alloc (Nat.le_trans bel3.size hb3.size) (.cells (natsV .u64 (zeros 4)).toArray 24)
 have G1 := Hd ((F1.out.setRow (natsV .u64 lxn)).row (natsV .u64 (wds 4 (R 8))).toArray (show w.heap.size ≠ w3.heap.size by omega))
 have G2 := Hd ((F2.out.row (natsV .u64 lxn).toArray (show w.heap.size + 1 ≠ w.heap.size by omega)).row (natsV .u64 (wds 4 (R 8))).toArray (show w.heap.size + 1 ≠ w3.heap.size by omega))
 have G3 := Hd ((F3.out.row (natsV .u64 lxn).toArray (show w.heap.size + 1 + 1 ≠ w.heap.size by omega)).row (natsV .u64 (wds 4 (R 8))).toArray (show w.heap.size + 1 + 1 ≠ w3.heap.size by omega))
 have G4 := Hd ((F4.out.row (natsV .u64 lxn).toArray (show w.heap.size + 1 + 1 + 1 ≠ w.heap.size by omega)).row (natsV .u64 (wds 4 (R 8))).toArray (show w.heap.size + 1 + 1 + 1 ≠ w3.heap.size by omega))
 have G5a := Hd (F5.out.row (natsV .u64 lxn).toArray (show w3.heap.size ≠ w.heap.size by omega))
 have G5 := Hd (G5a.out.setRow (natsV .u64 (wds 4 (R 8))))
 have bel5 := below_setRow' (below_setRow' bel4 (Nat.le_refl _) (natsV .u64 lxn).toArray) (show w.heap.size ≤ w3.heap.size by omega) (natsV .u64 (wds 4 (R 8))).toArray
 clear D1 D2 D3 D4 E1 E2 E3 E4 bel2 bel3 hb3 HSU
 have hsz5 : (((w3.alloc (.cells (natsV .u64 (zeros 4)).toArray 24)).setRow w.heap.size (natsV .u64 lxn).toArray).setRow w3.heap.size (natsV .u64 (wds 4 (R 8))).toArray).heap.size = w3.heap.size + 1 := by simp
 have H1 := Hd (G1.out.alloc (.cells (natsV .u64 (zeros 8)).toArray 103))
 have H2 := Hd (G2.out.alloc (.cells (natsV .u64 (zeros 8)).toArray 103))
 have H3 := Hd (G3.out.alloc (.cells (natsV .u64 (zeros 8)).toArray 103))
 have H4 := Hd (G4.out.alloc (.cells (natsV .u64 (zeros 8)).toArray 103))
 have H5 := Hd (G5.out.alloc (.cells (natsV .u64 (zeros 8)).toArray 103))
 have H6 := Hd (Blk.new (((w3.alloc (.cells (natsV .u64 (zeros 4)).toArray 24)).setRow w.heap.size (natsV .u64 lxn).toArray).setRow w3.heap.size (natsV .u64 (wds 4 (R 8))).toArray) 103 (natsV .u64 (zeros 8)))
 rw [hsz5] at H6
 have bel6 := Hd (bel5.alloc (by rw [hsz5]; omega) (.cells (natsV .u64 (zeros 8)).toArray 103))
 have u25 := Try.underlying24
 have hLR8 := LRS.out 8
 clear hsz5 G1 G2 G3 G4 G5 bel5
 go_wp2_with (first | (refine st26 rfl (.tmp 2) (.tmp 22) rfl w.heap.size rfl lxn rfl L8.out lx F1.out LX.out ?_) | (refine st24 rfl (.tmp 7) (.tmp 23) rfl w3.heap.size rfl (wds 4 (R 8)) rfl hLR8 (zeros 4) G5a.out rfl ?_))
 clear F1 F2 F3 F4 F5 G5a bel4
 generalize hG7 : w3.heap.size = G at *
 go_loopw [9] (fun i wr => ∃ s : Nat, s ≤ 8 ∧ i = .int .i64 ((s : Int) - 1) ∧ Blk wr w.heap.size 103 (natsV .u64 lxn) ∧ Blk wr (w.heap.size + 1) 24 (natsV .u64 lM) ∧ Blk wr (w.heap.size + 1 + 1) 103 (natsV .u64 (zeros 8)) ∧ Blk wr (w.heap.size + 1 + 1 + 1) 24 (natsV .u64 (zeros 4)) ∧ Blk wr G 24 (natsV .u64 (wds 4 (R s))) ∧ Blk wr (G + 1) 103 (natsV .u64 (Qw s)) ∧ Below w.heap.size w wr) (fun i _ => (intOf i + 1).toNat)
 case atStart => exact ⟨8, by omega, rfl, H1.out, H2.out, H3.out, H4.out, H5.out, by rw [QT.out]; exact H6.out, bel6.out⟩
 case round =>
   clear H1 H2 H3 H4 H5 H6 bel6 QT hLR8 hG7
   obtain ⟨s, hs, rfl, k1, k2, k3, k4, k5, k6, hbel⟩ := hrel
   have K1 := Hd k1
   have K2 := Hd k2
   have K3 := Hd k3
   have K4 := Hd k4
   have K5 := Hd k5
   have K6 := Hd k6
   clear k1 k2 k3 k4 k5 k6
   rcases s with _ | s
   · rw [show ((0 : Nat) : Int) - 1 = -1 from rfl]
     rw [QA.out] at K6
     have hLR0 := LRS.out 0
     have i42 : (Try.prog.info? 103).map (·.size) = some (natsV .u64 lQ).length := by rw [info26, natsV_length, LQ.out]
     have i25 : (Try.prog.info? 24).map (·.size) = some (natsV .u64 (wds 4 (R 0))).length := by rw [info24, natsV_length, hLR0]
     as_aux_lemma =>
     go_wp2_with fail
     refine wp_region_held_drew (S := (fun w' => w'.rangeAt (G + 1) 0 (natsV .u64 lQ) ∧ w'.rangeAt G 0 (natsV .u64 (wds 4 (R 0))))) (by kernel_rfl) ⟨blk_rangeV K6.out.drew, blk_rangeV K5.out.drew⟩ (fun hHeld => ?_)
     refine th0 0 rfl (yieldsIf_load_mid (by rfl) _ _ rfl _ _ rfl _ _ (by intro w hSw; exact hSw.1) Try.underlying103 rfl i42) hHeld ?_
     try simp only [Act.put, zq]
     refine th0 1 rfl (yieldsIf_load_mid (by rfl) _ _ rfl _ _ rfl _ _ (by intro w hSw; exact hSw.2) Try.underlying24 rfl i25) hHeld ?_
     try simp only [Act.put, zq]
     refine th1 2 rfl hHeld ?_
     try simp only [Act.put, zq]
     refine wpAnyH_ready (rs := [3]) (by kernel_rfl) (by simp) ?_
     refine AllReadyH.cons (o := _) rfl (fun K hK => ?_) AllReadyH.nil
     go_simp
     go_at_call 93
     refine (HSR.out _).mono ?_
     rintro e wx3 ⟨rfl, hbx3⟩
     refine hK.out _ _ ⟨range_keepV hHeld.1 hbx3, range_keepV hHeld.2 hbx3⟩ (fun hHeld2 => ?_)
     clear hK K hHeld
     have hHeld := hHeld2
     clear hHeld2
     try simp only [Act.put, zq]
     refine wpAnyH_ready (rs := [4]) (by kernel_rfl) (by simp) ?_
     refine AllReadyH.cons (o := _) rfl (fun K hK => ?_) AllReadyH.nil
     rw [if_pos (by rfl)]
     refine wst26 (.tmp 4) (.tmp 54) rfl (w.heap.size + 1 + 1) rfl lQ rfl LQ.out (zeros 8) (K3.out.drew.below' hbx3) rfl ?_
     refine hK.out _ _ (⟨blk_rangeV ((K6.out.drew.below' hbx3).row (natsV .u64 lQ).toArray (show G + 1 ≠ w.heap.size + 1 + 1 by omega)), blk_rangeV ((K5.out.drew.below' hbx3).row (natsV .u64 lQ).toArray (show G ≠ w.heap.size + 1 + 1 by omega))⟩) (fun hHeld2 => ?_)
     clear hK K hHeld
     have hHeld := hHeld2
     clear hHeld2
     try simp only [Act.put, zq]
     have M4 := Hd ((K4.out.drew.below' hbx3).row (natsV .u64 lQ).toArray (show w.heap.size + 1 + 1 + 1 ≠ w.heap.size + 1 + 1 by omega))
     have M5 := Hd ((K5.out.drew.below' hbx3).row (natsV .u64 lQ).toArray (show G ≠ w.heap.size + 1 + 1 by omega))
     have M6 := Hd ((K6.out.drew.below' hbx3).row (natsV .u64 lQ).toArray (show G + 1 ≠ w.heap.size + 1 + 1 by omega))
     have M3 := Hd ((K3.out.drew.below' hbx3).setRow (natsV .u64 lQ))
     have belM := below_setRow' (hbel.drew.trans (hbx3.mono hbel.drew.size)) (show w.heap.size ≤ w.heap.size + 1 + 1 by omega) (natsV .u64 lQ).toArray
     refine wpAnyH_ready (rs := [5]) (by kernel_rfl) (by simp) ?_
     refine AllReadyH.cons (o := _) rfl (fun K hK => ?_) AllReadyH.nil
     rw [if_pos (by rfl)]
     refine wst24 (.tmp 5) (.tmp 57) rfl (w.heap.size + 1 + 1 + 1) rfl lR rfl LR.out (zeros 4) M4.out rfl ?_
     refine hK.out _ _ (⟨blk_rangeV (M6.out.row (natsV .u64 lR).toArray (show G + 1 ≠ w.heap.size + 1 + 1 + 1 by omega)), blk_rangeV (M5.out.row (natsV .u64 lR).toArray (show G ≠ w.heap.size + 1 + 1 + 1 by omega))⟩) (fun hHeld2 => ?_)
     clear hK K hHeld
     have hHeld := hHeld2
     clear hHeld2
     try simp only [Act.put, zq]
     refine wpAnyH_done (by kernel_rfl) ?_ _
     have j5 := M4.out.setRow (natsV .u64 lR)
     have j4 := M3.out.row (natsV .u64 lR).toArray (show w.heap.size + 1 + 1 ≠ w.heap.size + 1 + 1 + 1 by omega)
     have hb2 := below_setRow' belM (show w.heap.size ≤ w.heap.size + 1 + 1 + 1 by omega) (natsV .u64 lR).toArray
     go_wp2_with fail
     refine bodyPost_ret (v := .tuple #[.agg (natsV .u64 lQ).toArray, .agg (natsV .u64 lR).toArray]) ?_ rfl ⟨rfl, hb2⟩
     exact results_cells Try.results82 _ _ (w.heap.size + 1 + 1) (w.heap.size + 1 + 1 + 1) 103 24 _ _ (0, 0) (0, 0) _ _ rfl rfl j4 j5 Try.underlying103 rfl (by rw [info26, size_nats, LQ.out]) Try.underlying24 rfl (by rw [info24, size_nats, LR.out])
   · rw [show ((s + 1 : Nat) : Int) - 1 = (s : Int) by omega]
     as_aux_lemma =>
     have hs8 : s < 8 := by omega
     have hsi : (s : Int) < 8 := by omega
     have c0 := K1.out.nat s (by rw [L8.out]; exact hs8)
     rw [A8.out s hs8] at c0
     obtain ⟨q1, r1, q0, hd1, hd2, hq1, hq0, hqq⟩ := HRD.out s
     have HD1 := Hd hd1
     have HD2 := Hd hd2
     have HQQ := Hd hqq
     have HXL := dgt_lt (B := 2 ^ 64) (by decide) Xn s
     clear hd1 hd2 hqq
     obtain ⟨x, hx⟩ : ∃ x, x = dgt (2 ^ 64) Xn s := ⟨_, rfl⟩
     rw [← hx] at c0 HD1 HD2 HXL
     have HXE := Hd hx
     clear hx
     obtain ⟨xh, hxh⟩ : ∃ y, y = x / 4294967296 := ⟨_, rfl⟩
     obtain ⟨xl, hxl⟩ : ∃ y, y = x % 4294967296 := ⟨_, rfl⟩
     rw [← hxh] at HD1
     rw [← hxl] at HD2
     have e1 := w_hi x xh hxh
     have e2 := w_lo x xl hxl
     have hLs := LRS.out (s + 1)
     have hLs0 := LRS.out s
     have hLr1 := wds_len 4 r1
     clear hxh hxl
     obtain ⟨lr1, hlr1⟩ : ∃ l, l = wds 4 (R (s + 1)) := ⟨_, rfl⟩
     rw [← hlr1] at K5 HD1 hLs
     obtain ⟨lrm, hlrm⟩ : ∃ l, l = wds 4 r1 := ⟨_, rfl⟩
     rw [← hlrm] at HD1 HD2 hLr1
     obtain ⟨lr0, hlr0⟩ : ∃ l, l = wds 4 (R s) := ⟨_, rfl⟩
     rw [← hlr0] at HD2 hLs0
     have HLR0 := Hd hlr0
     have u25 := Try.underlying24
     clear hlr1 hlrm hlr0
     have i25M : (Try.prog.info? 24).map (·.size) = some (natsV .u64 lM).length := by rw [info24, natsV_length, LM.out]
     go_wp2_with fail
     refine wp_region_held_drew (S := (fun w' => w'.rangeAt (w.heap.size + 1) 0 (natsV .u64 lM) ∧ w'.cell? ⟨w.heap.size, s, none⟩ = some (.int .u64 (x : Nat)))) (by kernel_rfl) ⟨blk_rangeV K2.out.drew, c0⟩ (fun hHeld => ?_)
     refine th1 1 rfl hHeld ?_
     try simp only [Act.put, zq]
     refine th1 2 rfl hHeld ?_
     try simp only [Act.put, zq]
     refine th1 3 rfl hHeld ?_
     try simp only [Act.put, zq]
     refine th1 4 rfl hHeld ?_
     try simp only [Act.put, zq]
     refine th0 5 rfl (yieldsIf_load_mid (by rfl) _ _ rfl _ _ rfl _ _ (by intro w hSw; exact hSw.1) u25 rfl i25M) hHeld ?_
     try simp only [Act.put, zq]
     refine wpAnyH_ready (rs := [0]) (by kernel_rfl) (by simp) ?_
     refine AllReadyH.cons (o := _) rfl (fun K hK => ?_) AllReadyH.nil
     rw [if_pos (by rfl)]
     refine wp_load_row 24 (.tmp 7) rfl G rfl 24 (natsV .u64 lr1).toArray (0, 0) _ K5.out.drew u25 rfl (by rw [info24, size_nats, hLs]) ?_
     refine hK.out _ _ hHeld (fun hHeld2 => ?_)
     clear hK K hHeld
     have hHeld := hHeld2
     clear hHeld2
     try simp only [Act.put, zq]
     refine wpAnyH_ready (rs := [6]) (by kernel_rfl) (by simp) ?_
     refine AllReadyH.cons (o := _) rfl (fun K hK => ?_) AllReadyH.nil
     go_simp
     go_at_call 92
     refine (HD1.out _).mono ?_
     rintro e wx1 ⟨rfl, hbx1⟩
     refine hK.out _ _ ⟨range_keepV hHeld.1 hbx1, (hbx1.cell (World.block_lt_of_cell? _ _ hHeld.2)).trans hHeld.2⟩ (fun hHeld2 => ?_)
     clear hK K hHeld
     have hHeld := hHeld2
     clear hHeld2
     try simp only [Act.put, zq]
     refine th1 7 rfl hHeld ?_
     try simp only [Act.put, zq]
     refine th1 8 rfl hHeld ?_
     try simp only [Act.put, zq]
     refine th1 9 rfl hHeld ?_
     try simp only [Act.put, zq]
     refine th1 10 rfl hHeld ?_
     try simp only [Act.put, zq]
     refine wpAnyH_ready (rs := [11]) (by kernel_rfl) (by simp) ?_
     refine AllReadyH.cons (o := _) rfl (fun K hK => ?_) AllReadyH.nil
     rw [if_pos (by rfl)]
     refine wst24 (.tmp 7) (.tmp 37) rfl G rfl lrm rfl hLr1 lr1 (K5.out.drew.below' hbx1) hLs ?_
     refine hK.out _ _ (⟨blk_rangeV ((K2.out.drew.below' hbx1).row (natsV .u64 lrm).toArray (show w.heap.size + 1 ≠ G by omega)), (((K1.out.drew.below' hbx1).row (natsV .u64 lrm).toArray (show w.heap.size ≠ G by omega)).nat s (by rw [L8.out]; exact hs8)).trans (by rw [A8.out s hs8, ← HXE.out])⟩) (fun hHeld2 => ?_)
     clear hK K hHeld
     have hHeld := hHeld2
     clear hHeld2
     try simp only [Act.put, zq]
     refine wpAnyH_done (by kernel_rfl) ?_ _
     have N1 := Hd ((K1.out.drew.below' hbx1).row (natsV .u64 lrm).toArray (show w.heap.size ≠ G by omega))
     have N2 := Hd ((K2.out.drew.below' hbx1).row (natsV .u64 lrm).toArray (show w.heap.size + 1 ≠ G by omega))
     have N3 := Hd ((K3.out.drew.below' hbx1).row (natsV .u64 lrm).toArray (show w.heap.size + 1 + 1 ≠ G by omega))
     have N4 := Hd ((K4.out.drew.below' hbx1).row (natsV .u64 lrm).toArray (show w.heap.size + 1 + 1 + 1 ≠ G by omega))
     have N6 := Hd ((K6.out.drew.below' hbx1).row (natsV .u64 lrm).toArray (show G + 1 ≠ G by omega))
     have N5 := Hd ((K5.out.drew.below' hbx1).setRow (natsV .u64 lrm))
     have belN := below_setRow' (hbel.drew.trans (hbx1.mono hbel.drew.size)) (show w.heap.size ≤ G by omega) (natsV .u64 lrm).toArray
     clear hHeld K1 K2 K3 K4 K5 K6 hbel hbx1 e1 c0
     have c0 := N1.out.nat s (by rw [L8.out]; exact hs8)
     rw [A8.out s hs8, ← HXE.out] at c0
     go_wp2_with fail
     refine wp_region_held_drew (S := (fun w' => w'.rangeAt (w.heap.size + 1) 0 (natsV .u64 lM) ∧ w'.cell? ⟨w.heap.size, s, none⟩ = some (.int .u64 (x : Nat)))) (by kernel_rfl) ⟨blk_rangeV N2.out.drew, c0⟩ (fun hHeld => ?_)
     refine th1 1 rfl hHeld ?_
     try simp only [Act.put, zq]
     refine th1 2 rfl hHeld ?_
     try simp only [Act.put, zq]
     refine th1 3 rfl hHeld ?_
     try simp only [Act.put, zq]
     refine th1 4 rfl hHeld ?_
     try simp only [Act.put, zq]
     refine th0 5 rfl (yieldsIf_load_mid (by rfl) _ _ rfl _ _ rfl _ _ (by intro w hSw; exact hSw.1) u25 rfl i25M) hHeld ?_
     try simp only [Act.put, zq]
     refine wpAnyH_ready (rs := [0]) (by kernel_rfl) (by simp) ?_
     refine AllReadyH.cons (o := _) rfl (fun K hK => ?_) AllReadyH.nil
     rw [if_pos (by rfl)]
     refine wp_load_row 24 (.tmp 7) rfl G rfl 24 (natsV .u64 lrm).toArray (0, 0) _ N5.out.drew u25 rfl (by rw [info24, size_nats, hLr1]) ?_
     refine hK.out _ _ hHeld (fun hHeld2 => ?_)
     clear hK K hHeld
     have hHeld := hHeld2
     clear hHeld2
     try simp only [Act.put, zq]
     refine wpAnyH_ready (rs := [6]) (by kernel_rfl) (by simp) ?_
     refine AllReadyH.cons (o := _) rfl (fun K hK => ?_) AllReadyH.nil
     go_simp
     go_at_call 92
     refine (HD2.out _).mono ?_
     rintro e wx2 ⟨rfl, hbx2⟩
     refine hK.out _ _ ⟨range_keepV hHeld.1 hbx2, (hbx2.cell (World.block_lt_of_cell? _ _ hHeld.2)).trans hHeld.2⟩ (fun hHeld2 => ?_)
     clear hK K hHeld
     have hHeld := hHeld2
     clear hHeld2
     try simp only [Act.put, zq]
     refine th1 7 rfl hHeld ?_
     try simp only [Act.put, zq]
     refine th1 8 rfl hHeld ?_
     try simp only [Act.put, zq]
     refine th1 9 rfl hHeld ?_
     try simp only [Act.put, zq]
     refine th1 10 rfl hHeld ?_
     try simp only [Act.put, zq]
     refine wpAnyH_ready (rs := [11]) (by kernel_rfl) (by simp) ?_
     refine AllReadyH.cons (o := _) rfl (fun K hK => ?_) AllReadyH.nil
     rw [if_pos (by rfl)]
     refine wst24 (.tmp 7) (.tmp 47) rfl G rfl lr0 rfl hLs0 lrm (N5.out.drew.below' hbx2) hLr1 ?_
     refine hK.out _ _ (⟨blk_rangeV ((N2.out.drew.below' hbx2).row (natsV .u64 lr0).toArray (show w.heap.size + 1 ≠ G by omega)), (((N1.out.drew.below' hbx2).row (natsV .u64 lr0).toArray (show w.heap.size ≠ G by omega)).nat s (by rw [L8.out]; exact hs8)).trans (by rw [A8.out s hs8, ← HXE.out])⟩) (fun hHeld2 => ?_)
     clear hK K hHeld
     have hHeld := hHeld2
     clear hHeld2
     try simp only [Act.put, zq]
     refine wpAnyH_done (by kernel_rfl) ?_ _
     have P1 := Hd ((N1.out.drew.below' hbx2).row (natsV .u64 lr0).toArray (show w.heap.size ≠ G by omega))
     have P2 := Hd ((N2.out.drew.below' hbx2).row (natsV .u64 lr0).toArray (show w.heap.size + 1 ≠ G by omega))
     have P3 := Hd ((N3.out.drew.below' hbx2).row (natsV .u64 lr0).toArray (show w.heap.size + 1 + 1 ≠ G by omega))
     have P4 := Hd ((N4.out.drew.below' hbx2).row (natsV .u64 lr0).toArray (show w.heap.size + 1 + 1 + 1 ≠ G by omega))
     have P6 := Hd ((N6.out.drew.below' hbx2).row (natsV .u64 lr0).toArray (show G + 1 ≠ G by omega))
     have P5 := Hd ((N5.out.drew.below' hbx2).setRow (natsV .u64 lr0))
     have belP := below_setRow' (belN.drew.trans (hbx2.mono belN.drew.size)) (show w.heap.size ≤ G by omega) (natsV .u64 lr0).toArray
     clear hHeld N1 N2 N3 N4 N5 N6 belN hbx2 e2 c0
     obtain ⟨tw, htw⟩ : ∃ t, t = 4294967296 * q1 := ⟨_, rfl⟩
     have etw : IntKind.u64.wrap ((q1 : Int) * 4294967296) = (tw : Int) := by rw [IntKind.wrap_u64]; omega
     have eor := w_or q1 q0 tw (dQ s) htw hq1 hq0 (by rw [← HQQ.out]; omega)
     have HSET := Hd (QS.out s hs8)
     clear htw
     generalize dQ s = dq at *
     have c6 := P6.out.nat s (by rw [QL.out]; exact hs8)
     have f6 := P6.out.free s
     have n6 := Hd (P6.out.natSet s dq)
     rw [HSET.out] at n6
     have n1 := Hd (P1.out.other ⟨G + 1, s, none⟩ (.int .u64 (dq : Nat)) (by simp; omega))
     have n2 := Hd (P2.out.other ⟨G + 1, s, none⟩ (.int .u64 (dq : Nat)) (by simp; omega))
     have n3 := Hd (P3.out.other ⟨G + 1, s, none⟩ (.int .u64 (dq : Nat)) (by simp; omega))
     have n4 := Hd (P4.out.other ⟨G + 1, s, none⟩ (.int .u64 (dq : Nat)) (by simp; omega))
     have n5 := Hd (P5.out.other ⟨G + 1, s, none⟩ (.int .u64 (dq : Nat)) (by simp))
     have bel9 := belP.setCell (p := ⟨G + 1, s, none⟩) (by simp; omega) (.int .u64 (dq : Nat))
     clear P1 P2 P3 P4 P5 P6 belP
     go_wp2_with fail
     go_roundw
     case rel => exact ⟨s, by omega, rfl, n1.out, n2.out, n3.out, n4.out, by rw [← HLR0.out]; exact n5.out, n6.out, bel9⟩
     case measure => simp [intOf] <;> omega
theorem results_three {P : Program} {fn : Func} {p q r : Tmp} {ty ty2 : TypeId} (h : fn.results = #[.cell p ty, .cell q ty2, .tmp r]) (tmps : Array Value) (w : World) (g g2 : Nat) (t t2 : TypeId) (cs cs2 : Array Value) (fr fr2 : Nat × Nat) (d d2 : TypeDesc) (v : Value)
   (hp : tmps.getD p undef = .pointer (some ⟨g, 0, none⟩)) (hq : tmps.getD q undef = .pointer (some ⟨g2, 0, none⟩)) (hr : tmps.getD r undef = v) (hg : w.heap[g]? = some (.cells cs t fr)) (hg2 : w.heap[g2]? = some (.cells cs2 t2 fr2))
   (hu : P.underlying ty = some d) (hd : (match d with | .struct _ | .array _ _ => true | _ => false) = true) (hi : (P.info? ty).map (·.size) = some cs.size)
   (hu2 : P.underlying ty2 = some d2) (hd2 : (match d2 with | .struct _ | .array _ _ => true | _ => false) = true) (hi2 : (P.info? ty2).map (·.size) = some cs2.size) :
   (results fn tmps).run P w = .ok (.tuple #[.agg cs, .agg cs2, v]) w := by
 have hp' : tmps[p]?.getD undef = .pointer (some ⟨g, 0, none⟩) := by simpa using hp
 have hq' : tmps[q]?.getD undef = .pointer (some ⟨g2, 0, none⟩) := by simpa using hq
 have hr' : tmps[r]?.getD undef = v := by simpa using hr
 simp [results, h, hp', hq', hr', asAddr, run_loadVar_row w g t ty cs fr d hg hu hd hi, run_loadVar_row w g2 t2 ty2 cs2 fr2 d2 hg2 hu2 hd2 hi2]
theorem DivRem_any (L U m : Nat) (w : World) (hL : L < 2 ^ 256) (hU : U < 2 ^ 256) (hm : m < 2 ^ 256) (h0 : m ≠ 0) :
   Calls Try.prog 73 #[.agg (natsV .u64 (wds 8 (L + 2 ^ 256 * U))).toArray, .agg (natsV .u64 (wds 4 m)).toArray] w fun e w' => e = .returned (.tuple #[.agg (natsV .u64 (wds 8 ((L + 2 ^ 256 * U) / m))).toArray, .agg (natsV .u64 (wds 4 ((L + 2 ^ 256 * U) % m))).toArray, .int .i64 0]) ∧ Below w.heap.size w w' := by
 have HC := Hd (fun w => divide_any L U m w hL hU hm h0)
 have Q := Hd (fun w => show (binOp .eql 24 (.agg (natsV .u64 (wds 4 m)).toArray) (.agg #[.int .u64 0, .int .u64 0, .int .u64 0, .int .u64 0])).run Try.prog w = .ok (.bool false) w from by
   rw [num_lit0, eql24 _ _ (wds_len 4 m) (wds_len 4 0), wds_inj 4 m 0 (by exact hm) (by decide), decide_eq_false h0])
 have LX := Hd (wds_len 8 (L + 2 ^ 256 * U))
 have Lm := Hd (wds_len 4 m)
 have LQ := Hd (wds_len 8 ((L + 2 ^ 256 * U) / m))
 have LR := Hd (wds_len 4 ((L + 2 ^ 256 * U) % m))
 generalize wds 8 ((L + 2 ^ 256 * U) / m) = lQ at *
 generalize wds 4 ((L + 2 ^ 256 * U) % m) = lR at *
 generalize wds 8 (L + 2 ^ 256 * U) = lx at *
 generalize wds 4 m = lm at *
 clear hL hU hm h0
 have i42 : (Try.prog.info? 103).map (·.size) = some (natsV .u64 lQ).length := by rw [info26, natsV_length, LQ.out]
 have i25 : (Try.prog.info? 24).map (·.size) = some (natsV .u64 lR).length := by rw [info24, natsV_length, LR.out]
 have B1 := Hd ((((Blk.new w 103 (natsV .u64 lx)).alloc (.cells (natsV .u64 lm).toArray 24)).alloc (.cells (natsV .u64 (zeros 8)).toArray 103)).alloc (.cells (natsV .u64 (zeros 4)).toArray 24))
 have B2 := Hd (((Blk.new2 w (.cells (natsV .u64 lx).toArray 103) 24 (natsV .u64 lm)).alloc (.cells (natsV .u64 (zeros 8)).toArray 103)).alloc (.cells (natsV .u64 (zeros 4)).toArray 24))
 have B3 := Hd ((Blk.new3 w (.cells (natsV .u64 lx).toArray 103) (.cells (natsV .u64 lm).toArray 24) 103 (natsV .u64 (zeros 8))).alloc (.cells (natsV .u64 (zeros 4)).toArray 24))
 have B4 := Hd (Blk.new4 w (.cells (natsV .u64 lx).toArray 103) (.cells (natsV .u64 lm).toArray 24) (.cells (natsV .u64 (zeros 8)).toArray 103) 24 (natsV .u64 (zeros 4)))
 have BEL := Hd (((((Below.refl w.heap.size w).alloc (Nat.le_refl _) (.cells (natsV .u64 lx).toArray 103)).alloc (by simp) (.cells (natsV .u64 lm).toArray 24)).alloc (by simp; omega) (.cells (natsV .u64 (zeros 8)).toArray 103)).alloc (by simp; omega) (.cells (natsV .u64 (zeros 4)).toArray 24))
 have q := Q.out
 go_enter Try.func73, Try.ntmps73
 go_wp2_with (first | (refine ld24 rfl (.tmp 3) rfl (w.heap.size + 1) rfl lm B2.out Lm.out ?_) | (refine ld26 rfl (.tmp 2) rfl w.heap.size rfl lx B1.out LX.out ?_))
 clear q Q
 refine (HC.out _).mono ?_
 rintro e w1 ⟨rfl, hb1⟩
 have C3 := Hd (B3.out.below' hb1)
 have C4 := Hd (B4.out.below' hb1)
 have bel1 := BEL.out.trans (hb1.mono BEL.out.size)
 have hlt := C4.out.lt
 have D3 := Hd ((C3.out.alloc (.cells (natsV .u64 (zeros 8)).toArray 103)).alloc (.cells (natsV .u64 (zeros 4)).toArray 24))
 have D4 := Hd ((C4.out.alloc (.cells (natsV .u64 (zeros 8)).toArray 103)).alloc (.cells (natsV .u64 (zeros 4)).toArray 24))
 have D7 := Hd ((Blk.new w1 103 (natsV .u64 (zeros 8))).alloc (.cells (natsV .u64 (zeros 4)).toArray 24))
 have D8 := Hd (Blk.new2 w1 (.cells (natsV .u64 (zeros 8)).toArray 103) 24 (natsV .u64 (zeros 4)))
 clear B1 B2 B3 B4 BEL hb1 HC
 have bel2 := (bel1.alloc bel1.size (.cells (natsV .u64 (zeros 8)).toArray 103)).alloc (by have := bel1.size; simp; omega) (.cells (natsV .u64 (zeros 4)).toArray 24)
 have E8 := Hd (D8.out.row (natsV .u64 lQ).toArray (show w1.heap.size + 1 ≠ w1.heap.size by omega))
 have F3 := Hd ((D3.out.row (natsV .u64 lQ).toArray (show w.heap.size + 1 + 1 ≠ w1.heap.size by omega)).row (natsV .u64 lR).toArray (show w.heap.size + 1 + 1 ≠ w1.heap.size + 1 by omega))
 have F4 := Hd ((D4.out.row (natsV .u64 lQ).toArray (show w.heap.size + 1 + 1 + 1 ≠ w1.heap.size by omega)).row (natsV .u64 lR).toArray (show w.heap.size + 1 + 1 + 1 ≠ w1.heap.size + 1 by omega))
 have F7 := Hd ((D7.out.setRow (natsV .u64 lQ)).row (natsV .u64 lR).toArray (show w1.heap.size ≠ w1.heap.size + 1 by omega))
 have F8 := Hd (E8.out.setRow (natsV .u64 lR))
 have bel3 := below_setRow' (below_setRow' bel2 (show w.heap.size ≤ w1.heap.size by omega) (natsV .u64 lQ).toArray) (show w.heap.size ≤ w1.heap.size + 1 by omega) (natsV .u64 lR).toArray
 clear C3 C4 D3 D4 bel1 bel2
 go_wp2_with (first | (refine st26 rfl (.tmp 7) (.tmp 18) rfl w1.heap.size rfl lQ rfl LQ.out (zeros 8) D7.out rfl ?_) | (refine st24 rfl (.tmp 8) (.tmp 19) rfl (w1.heap.size + 1) rfl lR rfl LR.out (zeros 4) E8.out rfl ?_))
 clear D7 D8 E8
 refine wp_region_held_drew (S := (fun w' => w'.rangeAt w1.heap.size 0 (natsV .u64 lQ) ∧ w'.rangeAt (w1.heap.size + 1) 0 (natsV .u64 lR))) (by kernel_rfl) ⟨blk_rangeV F7.out.drew, blk_rangeV F8.out.drew⟩ (fun hHeld => ?_)
 refine th0 0 rfl (yieldsIf_load_mid (by rfl) _ _ rfl _ _ rfl _ _ (by intro w hSw; exact hSw.1) Try.underlying103 rfl i42) hHeld ?_
 try simp only [Act.put, zq]
 refine th0 1 rfl (yieldsIf_load_mid (by rfl) _ _ rfl _ _ rfl _ _ (by intro w hSw; exact hSw.2) Try.underlying24 rfl i25) hHeld ?_
 try simp only [Act.put, zq]
 refine wpAnyH_ready (rs := [2]) (by kernel_rfl) (by simp) ?_
 refine AllReadyH.cons (o := _) rfl (fun K hK => ?_) AllReadyH.nil
 rw [if_pos (by rfl)]
 refine wst26 (.tmp 4) (.tmp 20) rfl (w.heap.size + 1 + 1) rfl lQ rfl LQ.out (zeros 8) F3.out.drew rfl ?_
 refine hK.out _ _ (⟨blk_rangeV (F7.out.drew.row (natsV .u64 lQ).toArray (show w1.heap.size ≠ w.heap.size + 1 + 1 by omega)), blk_rangeV (F8.out.drew.row (natsV .u64 lQ).toArray (show w1.heap.size + 1 ≠ w.heap.size + 1 + 1 by omega))⟩) (fun hHeld2 => ?_)
 clear hK K hHeld
 have hHeld := hHeld2
 clear hHeld2
 try simp only [Act.put, zq]
 have G4 := Hd (F4.out.drew.row (natsV .u64 lQ).toArray (show w.heap.size + 1 + 1 + 1 ≠ w.heap.size + 1 + 1 by omega))
 have G7 := Hd (F7.out.drew.row (natsV .u64 lQ).toArray (show w1.heap.size ≠ w.heap.size + 1 + 1 by omega))
 have G8 := Hd (F8.out.drew.row (natsV .u64 lQ).toArray (show w1.heap.size + 1 ≠ w.heap.size + 1 + 1 by omega))
 have G3 := Hd (F3.out.drew.setRow (natsV .u64 lQ))
 have bel4 := below_setRow' bel3.drew (show w.heap.size ≤ w.heap.size + 1 + 1 by omega) (natsV .u64 lQ).toArray
 refine wpAnyH_ready (rs := [3]) (by kernel_rfl) (by simp) ?_
 refine AllReadyH.cons (o := _) rfl (fun K hK => ?_) AllReadyH.nil
 rw [if_pos (by rfl)]
 refine wst24 (.tmp 5) (.tmp 21) rfl (w.heap.size + 1 + 1 + 1) rfl lR rfl LR.out (zeros 4) G4.out rfl ?_
 refine hK.out _ _ (⟨blk_rangeV (G7.out.row (natsV .u64 lR).toArray (show w1.heap.size ≠ w.heap.size + 1 + 1 + 1 by omega)), blk_rangeV (G8.out.row (natsV .u64 lR).toArray (show w1.heap.size + 1 ≠ w.heap.size + 1 + 1 + 1 by omega))⟩) (fun hHeld2 => ?_)
 clear hK K hHeld
 have hHeld := hHeld2
 clear hHeld2
 try simp only [Act.put, zq]
 refine th1 4 rfl hHeld ?_
 try simp only [Act.put, zq]
 refine wpAnyH_done (by kernel_rfl) ?_ _
 have j5 := G4.out.setRow (natsV .u64 lR)
 have j4 := G3.out.row (natsV .u64 lR).toArray (show w.heap.size + 1 + 1 ≠ w.heap.size + 1 + 1 + 1 by omega)
 have hb2 := below_setRow' bel4 (show w.heap.size ≤ w.heap.size + 1 + 1 + 1 by omega) (natsV .u64 lR).toArray
 go_wp2_with fail
 refine bodyPost_ret (v := .tuple #[.agg (natsV .u64 lQ).toArray, .agg (natsV .u64 lR).toArray, .int .i64 0]) ?_ rfl ⟨rfl, hb2⟩
 exact results_three Try.results73 _ _ (w.heap.size + 1 + 1) (w.heap.size + 1 + 1 + 1) 103 24 _ _ (0, 0) (0, 0) _ _ _ rfl rfl rfl j4 j5 Try.underlying103 rfl (by rw [info26, size_nats, LQ.out]) Try.underlying24 rfl (by rw [info24, size_nats, LR.out])
set_option maxRecDepth 100000
def primL (lm : List Nat) (f : Nat) : List Value := natsV .u64 lm ++ [.int .u32 (f : Nat)]
theorem primL_len (lm : List Nat) (f : Nat) (h : lm.length = 4) : (primL lm f).length = 5 := by simp [primL, natsV_length, h]
theorem primL_one (lm : List Nat) (f : Nat) : (primL lm f).toArray.all (·.oneCell') = true := Array.all_eq_true_iff_forall_mem.2 (fun v hv => by
 have hv' : v ∈ natsV .u64 lm ++ [.int .u32 (f : Nat)] := by simpa [primL] using hv
 rcases List.mem_append.1 hv' with h | h
 · exact natsV_one _ _ v h
 · have := List.mem_singleton.1 h; subst this; rfl)
theorem info83 : (Try.prog.info? 82).map (·.size) = some 5 := by kernel_rfl
theorem primL_range {w : World} {g : Nat} {lm : List Nat} {f : Nat} (h : Blk w g 82 (primL lm f)) : w.rangeAt g 0 (natsV .u64 lm) := by
 intro j v hv
 have hj : j < (natsV .u64 lm).length := (List.getElem?_eq_some_iff.1 hv).1
 rw [Nat.zero_add, h.cell, primL, List.getElem?_append_left hj]
 exact hv
theorem primL_fac {w : World} {g : Nat} {lm : List Nat} {f : Nat} (h : Blk w g 82 (primL lm f)) (hl : lm.length = 4) : w.cell? ⟨g, 4, none⟩ = some (.int .u32 (f : Nat)) := by
 rw [h.cell, primL, List.getElem?_append_right (by rw [natsV_length, hl]; exact Nat.le_refl _)]
 rw [natsV_length, hl]; rfl
section
variable {w : World} {ops : Array Oper} {rest : List Oper} {o : Oper} {a : Act} {Q : Exit → Act → World → Prop}
theorem ld83 (hgd : o.guard = none) (x : Operand) (ho : o.op = .load 82 x) (g : Nat) (hx : a.eval x = .pointer (some ⟨g, 0, none⟩)) (cs : List Value) (hg : Blk w g 82 cs) (hl : cs.length = 5)
   (h : wpList Try.prog ops Q rest (a.put o.dst (.agg cs.toArray)) w) : wpList Try.prog ops Q (o :: rest) a w :=
 wpList_load_row hgd 82 x ho g hx 82 cs.toArray (0, 0) _ hg Try.underlying82 rfl (by rw [info83]; simp [hl]) h
theorem ldm (hgd : o.guard = none) (x : Operand) (ho : o.op = .load 24 x) (g : Nat) (hx : a.eval x = .pointer (some ⟨g, 0, none⟩)) (lm : List Nat) (f : Nat) (hg : Blk w g 82 (primL lm f)) (hl : lm.length = 4)
   (h : wpList Try.prog ops Q rest (a.put o.dst (.agg (natsV .u64 lm).toArray)) w) : wpList Try.prog ops Q (o :: rest) a w :=
 wpList_load_mid hgd 24 x ho g 0 hx (natsV .u64 lm) _ (primL_range hg) Try.underlying24 rfl (by rw [info24, natsV_length, hl]) h
theorem st83 (hgd : o.guard = none) (x y : Operand) (ho : o.op = .store 82 x y) (g : Nat) (hx : a.eval x = .pointer (some ⟨g, 0, none⟩)) (cs : List Value) (hy : a.eval y = .agg cs.toArray) (hl : cs.length = 5 ∧ cs.toArray.all (·.oneCell') = true) (old : List Value) (hg : Blk w g 82 old) (ho4 : old.length = 5)
   (h : wpList Try.prog ops Q rest (a.put o.dst undef) (w.setRow g cs.toArray)) : wpList Try.prog ops Q (o :: rest) a w :=
 wpList_store_row hgd 82 x y ho g cs.toArray hx hy 82 old.toArray hg (by rw [info83]; simp [hl.1]) (by simp [hl.1, ho4]) hl.2 h
end
theorem ret83x {fn : Func} {p q : Tmp} (h : fn.results = #[.cell p 82, .tmp q]) (tmps : Array Value) (w : World) (g : Nat) (cs : List Value) (v : Value) (hp : tmps.getD p undef = .pointer (some ⟨g, 0, none⟩)) (hv : tmps.getD q undef = v) (hg : Blk w g 82 cs) (hl : cs.length = 5) :
   (results fn tmps).run Try.prog w = .ok (.tuple #[.agg cs.toArray, v]) w :=
 results_two h tmps w g 82 _ (0, 0) _ v hp hv hg Try.underlying82 rfl (by rw [info83]; simp [hl])
structure Fld (m f v : Nat) : Prop where
 lt : m < 2 ^ 256
 gt : 2 ^ 255 < m
 fl : f < 4294967296
 neg : (m * f + 1) % 4294967296 = 0
 inv : v * 2 ^ 256 % m = 1
 prime : IsPrime m
def fN : Nat := 3993025615
def vP : Nat := 115792089183396302114378112356516095823261736990586219612555396166510339686400
def vN : Nat := 43790243014242295660885426880012836369732278457577312309071968676491870960761
theorem fld_P : Fld mP 1 vP := ⟨by decide +kernel, by decide +kernel, by decide +kernel, by decide +kernel, by decide +kernel, prime_mP⟩
theorem fld_N : Fld mN fN vN := ⟨by decide +kernel, by decide +kernel, by decide +kernel, by decide +kernel, by decide +kernel, prime_mN⟩
def toF (m x : Nat) : Nat := x * 2 ^ 256 % m
def ofF (m v x : Nat) : Nat := x * v % m
theorem Fld.pos {m f v : Nat} (h : Fld m f v) : 0 < m := by have := h.gt; omega
theorem mulmod_left (a b m : Nat) : a % m * b % m = a * b % m := by rw [Nat.mul_mod, Nat.mod_mod, ← Nat.mul_mod]
theorem mulmod_right (a b m : Nat) : a * (b % m) % m = a * b % m := by rw [Nat.mul_mod, Nat.mod_mod, ← Nat.mul_mod]
theorem Fld.of_to {m f v : Nat} (h : Fld m f v) (x : Nat) : ofF m v (toF m x) = x % m := by
 unfold ofF toF
 rw [mulmod_left, Nat.mul_assoc, Nat.mul_comm (2 ^ 256) v, ← mulmod_right, h.inv, Nat.mul_one]
theorem Fld.to_of {m f v : Nat} (h : Fld m f v) (x : Nat) : toF m (ofF m v x) = x % m := by
 unfold ofF toF
 rw [mulmod_left, Nat.mul_assoc, ← mulmod_right, h.inv, Nat.mul_one]
theorem toF_lt {m f v : Nat} (h : Fld m f v) (x : Nat) : toF m x < m := Nat.mod_lt _ h.pos
end Go.Proofs.Ytdkkombpkojjaaa
