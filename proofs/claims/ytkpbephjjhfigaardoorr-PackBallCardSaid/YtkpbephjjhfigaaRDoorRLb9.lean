/- PackBall's walk: it answers true for any seed. Condition: the table of constants. -/
import Derived.Test.YtkpbephjjhfigaaRDoorRBm9
namespace Go.Proofs.YtkpbephjjhfigaaRDoorR
open Go.RowKit
set_option linter.unusedVariables false
set_option linter.unusedSimpArgs false
set_option maxRecDepth 100000 in
set_option maxHeartbeats 8000000 in
theorem ball_walk (A : Option Addr) (n cp : Nat) (L : List Nat) (w : World) (hb : BIn w A n cp L) (htab : Tabs w) :
    Calls Tryd.prog 4 #[.slice A n cp] w fun e w' => e = .returned (.bool true) ∧ Below w.heap.size w w' := by
  have HA := Lib.hid (fun w => awake_any w)
  have HB := Lib.hid hb
  have HT := Lib.hid htab
  obtain ⟨p1, p2⟩ := copy_in hb 48
  obtain ⟨r1, r2⟩ := copy_in hb 66
  have HC1 := Lib.hid p1
  have HC2 := Lib.hid r1
  have HP1 := Lib.hid (splice_pad 48 L)
  have HP2 := Lib.hid (splice_pad 66 L)
  have HD1 := Lib.hid (padL_len 48 L)
  have HD2 := Lib.hid (padL_len 66 L)
  have HX1 := Lib.hid (padL_lt (d := 48) hb.1.2.2.1)
  have HX2 := Lib.hid (padL_lt (d := 66) hb.1.2.2.1)
  have HBA := Lib.hid (fun g W h t => Ball_any (some ⟨g, 0, none⟩) 48 48 (padL 48 L) W h t)
  have HBF := Lib.hid (ball_facts 5 (padL 48 L))
  have HSF := Lib.hid (small_facts 5 (padL 66 L) (2 * 2000))
  have HE1 := Lib.hid (show baE (padL 48 L) = blE 5 (padL 48 L) ∧ baP (padL 48 L) = blP 5 (padL 48 L) from ⟨if_pos (padL_len _ _), if_pos (padL_len _ _)⟩)
  have HE2 := Lib.hid (show smE (padL 66 L) = fiE (accL (smA 5 (padL 66 L)) (smV 5 (padL 66 L)) (2 * 2000)) ∧ smP (padL 66 L) = fiP (accL (smA 5 (padL 66 L)) (smV 5 (padL 66 L)) (2 * 2000)) from ⟨if_pos (padL_len _ _), if_pos (padL_len _ _)⟩)
  have LB := Lib.hid (blP_len 5 (padL 48 L))
  have LS := Lib.hid (fiP_len (accL (smA 5 (padL 66 L)) (smV 5 (padL 66 L)) (2 * 2000)))
  have HMK := Lib.hid (fun w => show (Instr.makeSlice 22 (.int .i64 48) (.int .i64 48)).run Tryd.prog w = .ok (.slice (some ⟨w.heap.size, 0, none⟩) 48 48) (w.alloc (.cells (natsV .u8 (zeros 48)).toArray 5)) from mk_u8 48 (by omega) w)
  have HMK2 := Lib.hid (fun w => show (Instr.makeSlice 22 (.int .i64 66) (.int .i64 66)).run Tryd.prog w = .ok (.slice (some ⟨w.heap.size, 0, none⟩) 66 66) (w.alloc (.cells (natsV .u8 (zeros 66)).toArray 5)) from mk_u8 66 (by omega) w)
  have HSM := Lib.hid (fun g W h t => Small_any (some ⟨g, 0, none⟩) 66 66 (padL 66 L) W h t)
  rw [HE1.out.1, HE1.out.2] at HBA
  rw [HE2.out.1, HE2.out.2] at HSM
  clear HE1 HE2
  generalize padL 48 L = O1 at *
  generalize padL 66 L = O2 at *
  generalize blE 5 O1 = eb at *
  generalize blP 5 O1 = pb at *
  generalize fiE (accL (smA 5 O2) (smV 5 O2) (2 * 2000)) = es at *
  generalize fiP (accL (smA 5 O2) (smV 5 O2) (2 * 2000)) = ps at *
  have LZ1 := Lib.hid (show (zeros 48).length = 48 from rfl)
  have LZ2 := Lib.hid (show (zeros 66).length = 66 from rfl)
  clear hb htab p1 r1 p2 r2
  go_enter Tryd.func4, Tryd.ntmps4
  go_wp2_with fail
  refine (HA.out _).mono ?_
  rintro e w1 ⟨rfl, hb1⟩
  have hmk := HMK.out
  have hz1 := hb1.size
  have ba := hb1.alloc hz1 (.cells (natsV .u8 (zeros 48)).toArray 5)
  have HBa := Lib.hid (HB.out.below ba)
  have BN1 := Lib.hid (Blk.new w1 5 (natsV .u8 (zeros 48)))
  generalize zeros 48 = Z1 at *
  go_wp2_with (refine wpList_copy_blk rfl (.tmp 15) (.tmp 16) 22 22 rfl 5 Tryd.underlying22 info5s (some ⟨w1.heap.size, 0, none⟩) A 48 48 n cp rfl rfl w1.heap.size 0 (natsV .u8 Z1) 5 BN1.out _ (copy_in HBa.out 48).1 (fun hp => ⟨rfl, (copy_in HBa.out 48).2 hp⟩) ?fit (natsV_one _ _) ?_)
  case fit => rw [(copy_in HBa.out 48).1, natsV_length, LZ1.out, Nat.zero_add]; exact Nat.min_le_right _ _
  intro w2 hblk hgr
  rw [HP1.out] at hblk
  have bel2 := ba.grown hgr (by have := ba.size; omega) (fun j hj => by injection hj with hj; omega)
  have D1 := Lib.hid hblk
  have hz2 := bel2.size
  have hd1 := hblk.lt
  clear hblk hgr hmk ba hb1
  generalize w1.heap.size = G1 at *
  have hmk2 := HMK2.out
  have bb := bel2.alloc hz2 (.cells (natsV .u8 (zeros 66)).toArray 5)
  have HBb := Lib.hid (HB.out.below bb)
  have BN2 := Lib.hid (Blk.new w2 5 (natsV .u8 (zeros 66)))
  have D1b := Lib.hid (D1.out.alloc (.cells (natsV .u8 (zeros 66)).toArray 5))
  generalize zeros 66 = Z2 at *
  go_wp2_with (refine wpList_copy_blk rfl (.tmp 19) (.tmp 20) 22 22 rfl 5 Tryd.underlying22 info5s (some ⟨w2.heap.size, 0, none⟩) A 66 66 n cp rfl rfl w2.heap.size 0 (natsV .u8 Z2) 5 BN2.out _ (copy_in HBb.out 66).1 (fun hp => ⟨rfl, (copy_in HBb.out 66).2 hp⟩) ?fit2 (natsV_one _ _) ?_)
  case fit2 => rw [(copy_in HBb.out 66).1, natsV_length, LZ2.out, Nat.zero_add]; exact Nat.min_le_right _ _
  intro w3 hblk hgr
  rw [HP2.out] at hblk
  have bel3 := bb.grown hgr (by have := bb.size; omega) (fun j hj => by injection hj with hj; omega)
  have D2 := Lib.hid hblk
  have E1 := Lib.hid (D1b.out.grown hgr (by simp; omega))
  clear hblk hgr hmk2 bb bel2 D1 D1b BN1 BN2 HMK HMK2
  generalize w2.heap.size = G2 at *
  have HT3 := Lib.hid (HT.out.below bel3)
  have HB1 := Lib.hid (HBA.out G1 w3 (bin_blk E1.out HD1.out (by omega) HX1.out) HT3.out)
  have z23 := zero23
  have LZ := Lib.hid zerI_length
  generalize zerI = Z at *
  go_wp2_with fail
  refine HB1.out.mono ?_
  rintro e w4 ⟨rfl, hb4⟩
  have bel4 := bel3.trans (hb4.mono bel3.size)
  have E2 := Lib.hid (D2.out.below' hb4)
  clear hb4 HB1 E1 HBA
  go_wp2_with (first | (refine wpList_store_row rfl 25 (.tmp 6) (.tmp 25) rfl w4.heap.size (iv pb).toArray rfl rfl 25 (iv Z).toArray (Blk.new w4 25 (iv Z)) (j23 LB.out) (by rw [iv_size, iv_size, LZ.out, LB.out]) (iv_all _) ?_; generalize hW : World.setRow _ _ _ = w5; obtain ⟨hg5, hD5⟩ := newfacts hW; clear hW; have bel5 := bel4.trans (Below.mono hg5 bel4.size); have E3 := Lib.hid (E2.out.gr hg5); have Q1 := Lib.hid hD5; clear hg5 hD5 bel4 E2; generalize w4.heap.size = G3 at *))
  have HT5 := Lib.hid (HT.out.below bel5)
  refine (HSM.out G2 w5 (bin_blk E3.out HD2.out (by omega) HX2.out) HT5.out).mono ?_
  rintro e w6 ⟨rfl, hb6⟩
  have bel6 := bel5.trans (hb6.mono bel5.size)
  have Q2 := Lib.hid (Q1.out.below' hb6)
  clear hb6 Q1 E3 HSM bel5 bel3
  obtain ⟨hbe, hbi, hbn⟩ := HBF.out
  obtain ⟨hse, hsi⟩ := HSF.out
  have HBI := Lib.hid hbi
  have HBN := Lib.hid hbn
  have HSI := Lib.hid hsi
  have HBE := Lib.hid hbe
  have HSE := Lib.hid hse
  clear hbi hbn hsi HBF HSF hbe hse
  have step : ∀ (eb es : Nat), (eb = 0 ∨ eb = 94) → (es = 0 ∨ es = 94) → True := fun _ _ _ _ => trivial
  clear step
  rcases HBE.out with hbe | hbe <;> rcases HSE.out with hse | hse <;> subst hbe <;> subst hse
  all_goals
    as_aux_lemma =>
      go_wp2_with (first | (refine wpList_store_row rfl 25 (.tmp 8) (.tmp 30) rfl w6.heap.size (iv ps).toArray rfl rfl 25 (iv Z).toArray (Blk.new w6 25 (iv Z)) (j23 LS.out) (by rw [iv_size, iv_size, LZ.out, LS.out]) (iv_all _) ?_; generalize hW : World.setRow _ _ _ = w7; obtain ⟨hg7, hD7⟩ := newfacts hW; clear hW; have bel7 := bel6.trans (Below.mono hg7 bel6.size); have Q3 := Lib.hid (Q2.out.gr hg7); have Q4 := Lib.hid hD7; clear hg7 hD7 bel6 Q2 z23; generalize w6.heap.size = G4 at *))
      go_loop [10, 11] (fun v10 v11 => ∃ t : Nat, t ≤ 256 ∧ v11 = .int .i64 t ∧ v10 = .int .i64 (nzc pb t : Nat)) (fun _ v11 => 256 - (intOf v11).toNat)
      case atStart => exact ⟨0, by omega, rfl, rfl⟩
      case round =>
        obtain ⟨t, ht, rfl, rfl⟩ := hrel
        by_cases h5 : t < 256
        · as_aux_lemma =>
          have i1 : (t : Int) < 256 := by omega
          have c1 := Q3.out.iv t (by rw [LB.out]; exact h5)
          have c2 := Q4.out.iv t (by rw [LS.out]; exact h5)
          obtain ⟨⟨z1, z2⟩, z3, z4⟩ := HSI.out t h5
          have HC := Lib.hid (fun w => dCentred_any (ps.getD t 0) z1 z2 w)
          have HNZ := Lib.hid (show nzc pb (t + 1) = nzc pb t + if pb.getD t 0 = 0 then 0 else 1 from rfl)
          have hib := HBI.out t h5
          have hnb := nzc_le pb t
          generalize cen (ps.getD t 0) = c at *
          generalize ps.getD t 0 = z at *
          generalize pb.getD t 0 = x at *
          rcases hib with rfl | rfl | rfl
          · have HNZ2 := Lib.hid (show nzc pb (t + 1) = nzc pb t from HNZ.out)
            clear HNZ
            generalize nzc pb t = m at *
            go_wp2_with (first | (go_at_call 12; refine (HC.out _).mono ?_; rintro e w' ⟨rfl, rfl⟩))
            go_round
            case rel => exact ⟨t + 1, by omega, by go_num, by rw [HNZ2.out]⟩
            case measure => simp [intOf]; omega
          · have HNZ2 := Lib.hid (show nzc pb (t + 1) = nzc pb t + 1 from HNZ.out)
            clear HNZ
            generalize nzc pb t = m at *
            go_wp2_with (first | (go_at_call 12; refine (HC.out _).mono ?_; rintro e w' ⟨rfl, rfl⟩))
            go_round
            case rel => exact ⟨t + 1, by omega, by go_num, by rw [HNZ2.out]; go_num⟩
            case measure => simp [intOf]; omega
          · have HNZ2 := Lib.hid (show nzc pb (t + 1) = nzc pb t + 1 from HNZ.out)
            clear HNZ
            generalize nzc pb t = m at *
            go_wp2_with (first | (go_at_call 12; refine (HC.out _).mono ?_; rintro e w' ⟨rfl, rfl⟩))
            go_round
            case rel => exact ⟨t + 1, by omega, by go_num, by rw [HNZ2.out]; go_num⟩
            case measure => simp [intOf]; omega
        · obtain rfl : t = 256 := by omega
          have hn := HBN.out
          generalize nzc pb 256 = m at *
          first
            | (have hm := hn (Eq.refl 0); subst hm; clear hn; go_wp2_with fail; go_ret; exact ⟨rfl, bel7⟩)
            | (have hm := hn True.intro; subst hm; clear hn; go_wp2_with fail; go_ret; exact ⟨rfl, bel7⟩)
            | (clear hn; go_wp2_with fail; go_ret; exact ⟨rfl, bel7⟩)
end Go.Proofs.YtkpbephjjhfigaaRDoorR
