/- Keccak-f[1600], whole: the project's function answers the plain one. Condition: 25 words of 64 bits; the table of constants. -/
import Derived.Test.YtidnlaibfkjgpaaDoorKMove
namespace Go.Proofs.YtidnlaibfkjgpaaDoor
open Go.RowKit
set_option linter.unusedVariables false
theorem rc_lt : ∀ t, t < 24 → rcT.getD t 0 < 2 ^ 64 := by decide +kernel
theorem iota_len {s : List Nat} (r : Nat) (h : s.length = 25) : (iota r s).length = 25 := by simp [iota, h]
set_option maxRecDepth 100000 in
set_option maxHeartbeats 4000000 in
theorem permute_any (s : List Nat) (w : World) (hs : Good s) (htab : Tabs w) : Calls Tryd.prog 9 #[.agg (natsV .u64 s).toArray] w (WordsIs (perm s) w) := by
  have HS := Lib.hid hs
  have HTAB := Lib.hid htab
  have B1 := Lib.hid ((((Blk.new w 23 (natsV .u64 s)).alloc (.cells (natsV .u64 (zeros 25)).toArray 23))))
  have B2 := Lib.hid ((Blk.new2 w (.cells (natsV .u64 s).toArray 23) 23 (natsV .u64 (zeros 25))))
  have BEL := Lib.hid ((((Below.refl w.heap.size w).alloc (Nat.le_refl _) (.cells (natsV .u64 s).toArray 23)).alloc (by simp) (.cells (natsV .u64 (zeros 25)).toArray 23)))
  clear hs htab
  go_enter Tryd.func9, Tryd.ntmps9
  go_wp2_with fail
  go_loopw [4] (fun i wr => ∃ t : Nat, t ≤ 24 ∧ i = .int .i64 t ∧ Blk wr w.heap.size 23 (natsV .u64 (rounds s t)) ∧ Blk wr (w.heap.size + 1) 23 (natsV .u64 (zeros 25)) ∧ Below w.heap.size w wr) (fun i _ => 24 - (intOf i).toNat)
  case atStart => exact ⟨0, by omega, rfl, B1.out, B2.out, BEL.out⟩
  case round =>
    clear B1 B2 BEL
    obtain ⟨t, ht, rfl, k1, k2, hbel⟩ := hrel
    by_cases h24 : t < 24
    · as_aux_lemma =>
      have hti : (t : Int) < 24 := by omega
      have hg := rounds_good HS.out t
      have HR := Lib.hid (show rounds s (t + 1) = iota t (chi (move (theta (rounds s t)))) from rfl)
      generalize rounds s t = c at *
      have K1 := Lib.hid k1
      have K2 := Lib.hid k2
      have hL := hg.1
      have HL := Lib.hid hL
      have HTH := Lib.hid (fun w => mixColumns_any c w hg)
      have HMV := Lib.hid (fun w => turnAndMove_any (theta c) w (theta_good c))
      have HCH := Lib.hid (fun w => mixRows_any (move (theta c)) w (move_good (theta_good c)))
      have HL1 := Lib.hid (theta_good c).1
      have HL2 := Lib.hid (move_good (theta_good c)).1
      have HG3 := Lib.hid (chi_good (move (theta c)))
      clear k1 k2 hg hL
      generalize theta c = c1 at *
      generalize move c1 = c2 at *
      generalize chi c2 = c3 at *
      go_wp2_with (refine wpList_load_row rfl 23 (.tmp 1) rfl w.heap.size rfl 23 (natsV .u64 c).toArray (0, 0) _ K1.out Tryd.underlying23 rfl (by rw [info23, size_nats, HL.out]) ?_)
      refine (HTH.out _).mono ?_
      rintro e w1 ⟨rfl, hb1⟩
      have J1 := Lib.hid (K1.out.below' hb1)
      have J2 := Lib.hid (K2.out.below' hb1)
      have hbel1 := hbel.trans (hb1.mono hbel.size)
      clear K1 K2 hbel hb1 HTH
      have M1 := Lib.hid (J1.out.setRow (natsV .u64 c1))
      have M2 := Lib.hid (J2.out.of (setRow_other w1 w.heap.size (w.heap.size + 1) (natsV .u64 c1).toArray (by omega)))
      have hbel2 := below_setRow' hbel1 (Nat.le_refl _) (natsV .u64 c1).toArray
      go_wp2_with (first | (refine wpList_store_row rfl 23 (.tmp 1) (.tmp 8) rfl w.heap.size (natsV .u64 c1).toArray rfl rfl 23 (natsV .u64 c).toArray J1.out (by rw [info23, size_nats, HL1.out]) (by rw [size_nats, size_nats, HL1.out, HL.out]) (all_nats _ _) ?_) | (refine wpList_load_row rfl 23 (.tmp 1) rfl w.heap.size rfl 23 (natsV .u64 c1).toArray (0, 0) _ M1.out Tryd.underlying23 rfl (by rw [info23, size_nats, HL1.out]) ?_))
      refine (HMV.out _).mono ?_
      rintro e w3 ⟨rfl, hb3⟩
      have J3 := Lib.hid (M1.out.below' hb3)
      have J4 := Lib.hid (M2.out.below' hb3)
      have hbel3 := hbel2.trans (hb3.mono hbel2.size)
      clear J1 J2 M1 M2 hbel1 hbel2 hb3 HMV
      have M1 := Lib.hid (J3.out.setRow (natsV .u64 c2))
      have M2 := Lib.hid (J4.out.of (setRow_other w3 w.heap.size (w.heap.size + 1) (natsV .u64 c2).toArray (by omega)))
      have hbel4 := below_setRow' hbel3 (Nat.le_refl _) (natsV .u64 c2).toArray
      go_wp2_with (first | (refine wpList_store_row rfl 23 (.tmp 1) (.tmp 10) rfl w.heap.size (natsV .u64 c2).toArray rfl rfl 23 (natsV .u64 c1).toArray J3.out (by rw [info23, size_nats, HL2.out]) (by rw [size_nats, size_nats, HL2.out, HL1.out]) (all_nats _ _) ?_) | (refine wpList_load_row rfl 23 (.tmp 1) rfl w.heap.size rfl 23 (natsV .u64 c2).toArray (0, 0) _ M1.out Tryd.underlying23 rfl (by rw [info23, size_nats, HL2.out]) ?_))
      refine (HCH.out _).mono ?_
      rintro e w5 ⟨rfl, hb5⟩
      have J5 := Lib.hid (M1.out.below' hb5)
      have J6 := Lib.hid (M2.out.below' hb5)
      have hbel5 := hbel4.trans (hb5.mono hbel4.size)
      clear J3 J4 M1 M2 hbel3 hbel4 hb5 HCH
      have N1 := Lib.hid (J5.out.setRow (natsV .u64 c3))
      have N2 := Lib.hid (J6.out.of (setRow_other w5 w.heap.size (w.heap.size + 1) (natsV .u64 c3).toArray (by omega)))
      have hbel6 := below_setRow' hbel5 (Nat.le_refl _) (natsV .u64 c3).toArray
      go_wp2_with (refine wpList_store_row rfl 23 (.tmp 1) (.tmp 12) rfl w.heap.size (natsV .u64 c3).toArray rfl rfl 23 (natsV .u64 c2).toArray J5.out (by rw [info23, size_nats, HG3.out.1]) (by rw [size_nats, size_nats, HG3.out.1, HL2.out]) (all_nats _ _) ?_)
      obtain ⟨W6, hW6⟩ : ∃ W6 : World, w5.setRow w.heap.size (natsV .u64 c3).toArray = W6 := ⟨_, rfl⟩
      rw [hW6] at N1 N2 hbel6 ⊢
      clear hW6 J5 J6 hbel5
      have ck := (HTAB.out.of hbel6 HTAB.out.size) t h24
      have c0 := N1.out.nat 0 (by rw [HG3.out.1]; decide)
      have hf := N1.out.free 0
      have HV := Lib.hid (show iota t c3 = c3.set 0 (xo (c3.getD 0 0) (rcT.getD t 0)) from rfl)
      generalize rcT.getD t 0 = rc at *
      generalize c3.getD 0 0 = x0 at *
      have rx := u64_xo
      go_region
      all_goals
        have n1 := N1.out.natSet 0 (xo x0 rc)
        rw [← HV.out, ← HR.out] at n1
        have n2 := N2.out.other ⟨w.heap.size, 0, none⟩ (.int .u64 (xo x0 rc : Nat)) (by simp)
        have hb2 := hbel6.setCell (p := ⟨w.heap.size, 0, none⟩) (Nat.le_refl _) (.int .u64 (xo x0 rc : Nat))
        clear rx
        go_wp2_with fail
        go_roundw
        case rel => exact ⟨t + 1, by omega, by go_num, n1, n2, hb2.drew⟩
        case measure => simp [intOf]; omega
    · obtain rfl : t = 24 := by omega
      rw [show ((24 : Nat) : Int) = 24 from rfl]
      have J1 := Lib.hid (show Blk wr w.heap.size 23 (natsV .u64 (perm s)) from k1)
      have K2 := Lib.hid k2
      have HL := Lib.hid (perm_good HS.out).1
      clear k1 k2
      generalize perm s = m at *
      go_wp2_with (first | (refine wpList_load_row rfl 23 (.tmp 1) rfl w.heap.size rfl 23 (natsV .u64 m).toArray (0, 0) _ J1.out Tryd.underlying23 rfl (by rw [info23, size_nats, HL.out]) ?_) | (refine wpList_store_row rfl 23 (.tmp 2) (.tmp 21) rfl (w.heap.size + 1) (natsV .u64 m).toArray rfl rfl 23 (natsV .u64 (zeros 25)).toArray K2.out (by rw [info23, size_nats, HL.out]) (by rw [size_nats, size_nats, HL.out]; rfl) (all_nats _ _) ?_))
      have j2 := K2.out.setRow (natsV .u64 m)
      have hb2 := below_setRow' hbel (show w.heap.size ≤ w.heap.size + 1 by omega) (natsV .u64 m).toArray
      refine bodyPost_ret (v := .agg (natsV .u64 m).toArray) ?_ rfl ⟨rfl, hb2⟩
      exact results_cell_row Tryd.results9 _ _ (w.heap.size + 1) 23 _ (0, 0) _ rfl j2 Tryd.underlying23 rfl (by rw [info23, size_nats, HL.out])
end Go.Proofs.YtidnlaibfkjgpaaDoor
