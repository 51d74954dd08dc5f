/- The document's uniform polynomial. Condition: the seed's bytes are there. -/
import Derived.Test.YtlbfnmmankoddaaDoorRr
import Derived.Test.YtlbfnmmankoddaaDoorUn9
namespace Go.Proofs.YtlbfnmmankoddaaDoor
open Go.RowKit
set_option linter.unusedVariables false
set_option linter.unusedSimpArgs false
theorem built44 (k : Int) (A : Option Addr) (n c : Nat) : Tryd.prog.built 43 [(0, .int .i64 k), (1, .slice A n c)] = some (rsV (.int .i64 k) (.slice A n c) (.bool false) (.int .i64 0) (zeros 25) (.int .i64 0)).toArray := by kernel_rfl
theorem rd_fp {l : List Int} (h : ∀ x ∈ l, 0 ≤ x ∧ x < 8380417) : rdL (fpL l) = fpL l := by
  have := (pln_iff (fpL_len l)).2 (fun i hi => by
    rw [show (fpL l).getD i 0 = l.getD i 0 from tellI_get _ _ _ hi]
    by_cases h2 : i < l.length
    · rw [List.getD_eq_getElem?_getD, List.getElem?_eq_getElem h2]; exact h _ (List.getElem_mem h2)
    · rw [List.getD_eq_getElem?_getD, List.getElem?_eq_none (by omega)]; exact ⟨by simp, by decide⟩)
  exact of_decide_eq_true this
theorem un_rd (k : Nat) (L : List Nat) (j : Nat) : rdL (fpL (accL (unA k L) (unV k L) j)) = fpL (accL (unA k L) (unV k L) j) := rd_fp fun x hx => by
  obtain ⟨y, _, h2, rfl⟩ := accL_mem hx
  have : un3 k L y < 8380417 := of_decide_eq_true h2
  unfold unV; omega
theorem own_three {w : World} {B n : Nat} {v : Value} {l : List Nat} (h : w.ownsRow B 5 1 v n (bytesV l)) (hn : 0 < n) : ∃ g c, v = .slice (some ⟨g, 0, none⟩) n c ∧ B ≤ g ∧ g < w.heap.size ∧ ∀ i, i < n → w.cell? ⟨g, i, none⟩ = some (.int .u8 (l.getD i 0 : Nat)) := by
  rcases h.2 with ⟨_, h0⟩ | ⟨g, cap, cur, rfl, hb, hg, _⟩
  · omega
  · refine ⟨g, cap, rfl, hb, (Array.getElem?_eq_some_iff.1 hg).1, fun i hi => ?_⟩
    have := (own_cells h).2 i hi
    rw [Nat.zero_add] at this; exact this
set_option maxRecDepth 100000 in
set_option maxHeartbeats 4000000 in
theorem dUniform_any (A : Option Addr) (n cp : Nat) (L : List Nat) (w : World) (hb : BIn w A n cp L) :
    Calls Tryd.prog 8 #[.slice A n cp] w fun e w' => e = .returned (.tuple #[.agg (iv (unP L)).toArray, .int .i64 (unE L : Nat)]) ∧ Below w.heap.size w w' := by
  have B1 := Lib.hid ((Blk.new w 25 (iv zerI)).alloc (.cells (iv zerI).toArray 25))
  have B2 := Lib.hid (Blk.new2 w (.cells (iv zerI).toArray 25) 25 (iv zerI))
  have BEL := Lib.hid (((Below.refl w.heap.size w).alloc (Nat.le_refl _) (.cells (iv zerI).toArray 25)).alloc (by simp) (.cells (iv zerI).toArray 25))
  have HZC := Lib.hid zc23
  have LZ := Lib.hid zerI_length
  have z23 := zero23
  have HLN := Lib.hid hb.1.1
  have HB := Lib.hid hb
  by_cases hn : n = 34
  · have hm : n ≤ 140737488351232 := by omega
    obtain ⟨er, her⟩ : ∃ er, unE L = er := ⟨_, rfl⟩
    obtain ⟨eP, heP⟩ : ∃ eP, unP L = eP := ⟨_, rfl⟩
    rw [her, heP]
    have hE1 : fiE (accL (unA 4 L) (unV 4 L) 2016) = er := by rw [← her]; exact (if_pos (by rw [HLN.out, hn])).symm
    have hP1 : fiP (accL (unA 4 L) (unV 4 L) 2016) = eP := by rw [← heP]; exact (if_pos (by rw [HLN.out, hn])).symm
    have HNO := Lib.hid (fun j hj h hx => @fi_no (unA 4 L) (unV 4 L) j 2016 hj h hx)
    have HYE := Lib.hid (fun j hj h => @fi_yes (unA 4 L) (unV 4 L) j 2016 hj h)
    rw [hE1, hP1] at HNO HYE
    have HRD := Lib.hid (fun j => un_rd 4 L j)
    have HNX := Lib.hid (fun j x h hx ha => @accL_next (unA 4 L) (unV 4 L) j x h hx ha)
    have HSK := Lib.hid (fun j x h hx => accL_skip (unA 4 L) (unV 4 L) j x h hx)
    have HA0 := Lib.hid (show accL (unA 4 L) (unV 4 L) 0 = [] from rfl)
    have HF0 := Lib.hid fpL_nil
    have HSET := Lib.hid fpL_set
    have HFL := Lib.hid fpL_len
    have HBT := Lib.hid (built44 4 A n cp)
    have BS := Lib.hid (Blk.new ((w.alloc (.cells (iv zerI).toArray 25)).alloc (.cells (iv zerI).toArray 25)) 43 (rsV (.int .i64 (4 : Nat)) (.slice A n cp) (.bool false) (.int .i64 0) (zeros 25) (.int .i64 0)))
    have hsz2 : ((w.alloc (.cells (iv zerI).toArray 25)).alloc (.cells (iv zerI).toArray 25)).heap.size = w.heap.size + 2 := by simp
    rw [hsz2] at BS
    have BEL3 := Lib.hid (BEL.out.alloc BEL.out.size (.cells (rsV (.int .i64 (4 : Nat)) (.slice A n cp) (.bool false) (.int .i64 0) (zeros 25) (.int .i64 0)).toArray 43))
    have B1b := Lib.hid (B1.out.alloc (.cells (rsV (.int .i64 (4 : Nat)) (.slice A n cp) (.bool false) (.int .i64 0) (zeros 25) (.int .i64 0)).toArray 43))
    have B2b := Lib.hid (B2.out.alloc (.cells (rsV (.int .i64 (4 : Nat)) (.slice A n cp) (.bool false) (.int .i64 0) (zeros 25) (.int .i64 0)).toArray 43))
    rw [show ((4 : Nat) : Int) = 4 from rfl] at BEL3 B1b B2b BS
    generalize accL (unA 4 L) (unV 4 L) = AL at *
    generalize zerI = Z at *
    generalize fpL = FP at *
    clear her heP hE1 hP1 hb hsz2
    subst hn
    go_enter Tryd.func8, Tryd.ntmps8
    go_wp2_with (first | (refine wpList_build_is rfl 43 _ rfl _ HBT.out ?_))
    clear z23
    go_loopw [6, 7] (fun v6 v7 wr => ∃ j m : Nat, j ≤ 2016 ∧ m ≤ 256 ∧ (AL j).length = m ∧ v7 = .int .i64 j ∧ v6 = .int .i64 m ∧ Blk wr w.heap.size 25 (iv Z) ∧ Blk wr (w.heap.size + 1) 25 (iv (FP (AL j))) ∧ RefSt (w.heap.size + 2) 4 A 34 cp L wr (3 * j) ∧ Below w.heap.size w wr) (fun _ v7 _ => 2016 - (intOf v7).toNat)
    case atStart => exact ⟨0, 0, by omega, by omega, by rw [HA0.out]; rfl, rfl, rfl, B1b.out, by rw [HA0.out, HF0.out]; exact B2b.out, .inl ⟨rfl, BS.out⟩, BEL3.out⟩
    case round =>
      clear B1 B2 BEL B1b B2b BS BEL3
      obtain ⟨j, m, hj, hm2, hl, rfl, rfl, k1, k2, hs, hbel⟩ := hrel
      have J1 := Lib.hid k1
      have J2 := Lib.hid k2
      have HS := Lib.hid hs
      have HL := Lib.hid hl
      have hzw := k2.lt
      have hz3 : w.heap.size + 2 < wr.heap.size := by rcases hs with ⟨_, h⟩ | h <;> exact h.lt
      clear k1 k2 hs hl
      by_cases h5 : j < 2016 ∧ m < 256
      · obtain ⟨h6, h7⟩ := h5
        have i1 : (j : Int) < 2016 := by omega
        have i2 : (m : Int) < 256 := by omega
        have HR := Lib.hid (show Calls Tryd.prog 18 #[.pointer (some ⟨w.heap.size + 2, 0, none⟩), .int .i64 3] wr (RefRd (w.heap.size + 2) 4 A 34 cp L (3 * j) 3 wr) from ref_read (w.heap.size + 2) 4 (by simp [IsKind]) A 34 cp L (3 * j) 3 (by omega) (by omega) wr (HB.out.below hbel) HS.out)
        go_wp2_with fail
        refine HR.out.mono ?_
        rintro e w2 ⟨v, rfl, ho, hs2, hg⟩
        obtain ⟨G, c, rfl, hG1, hG2, hce⟩ := own_three ho (by decide)
        have c0 := hce 0 (by decide)
        have c1 := hce 1 (by decide)
        have c2 := hce 2 (by decide)
        rw [stR_get 4 L _ 3 _ (by decide)] at c0 c1 c2
        rw [Nat.add_zero] at c0
        have D1 := Lib.hid (J1.out.grown hg (by simp))
        have D2 := Lib.hid (J2.out.grown hg (by simp))
        have HS2 := Lib.hid hs2
        have bel2 := hbel.grown hg (by have := hbel.size; omega) (fun i hi => by injection hi with hi; omega)
        have y1 := stY_lt 4 L (3 * j)
        have y2 := stY_lt 4 L (3 * j + 1)
        have y3 := stY_lt 4 L (3 * j + 2)
        have HUV := Lib.hid (show ((un3 4 L j : Nat) : Int) = (stY 4 L (3 * j) : Nat) + 256 * (stY 4 L (3 * j + 1) : Nat) + 65536 * ((stY 4 L (3 * j + 2) : Nat) % 128 : Int) from by unfold un3; omega)
        generalize stY 4 L (3 * j) = b1 at *
        generalize stY 4 L (3 * j + 1) = b2 at *
        generalize stY 4 L (3 * j + 2) = b3 at *
        clear ho hs2 hg hce HR
        go_wp2_with fail
        go_quiet (fail)
        have HAV := Lib.hid (show (unA 4 L j = true ↔ ((un3 4 L j : Nat) : Int) < 8380417) ∧ unV 4 L j = ((un3 4 L j : Nat) : Int) from ⟨by unfold unA; rw [decide_eq_true_iff]; omega, rfl⟩)
        have hub := un3_lt 4 L j
        generalize hx : ((b1 : Nat) : Int) + 256 * ((b2 : Nat) : Int) + 65536 * (((b3 : Nat) : Int) % 128) = x at *
        have HX := Lib.hid hx
        clear hx
        rw [HUV.out] at HAV
        have F1 := Lib.hid (D1.out.drewN nq)
        have F2 := Lib.hid (D2.out.drewN nq)
        have FS := Lib.hid (HS2.out.of (w' := w2.drewN nq) rfl)
        have bel3 := below_drewN bel2 nq
        clear D1 D2 HS2 bel2 c0 c1 c2 y1 y2 y3 HUV hub
        generalize w2.drewN nq = w3 at *
        have hx3 : 3 * (j + 1) = 3 * j + 3 := by omega
        rw [← hx3] at FS
        clear hx3
        by_cases hlt : x < 8380417
        · have HN2 := Lib.hid (HNX.out j j (Nat.le_refl _) (fun y h1 h2 => by omega) (HAV.out.1.2 hlt))
          rw [HAV.out.2] at HN2
          have d1 := F2.out.iv m (by rw [HFL.out]; exact h7)
          have f1 := F2.out.free m
          have k2 := F2.out.ivSet m x
          have hset := HSET.out (AL j) x (by rw [HL.out]; exact h7)
          rw [HL.out, ← HN2.out] at hset
          rw [hset] at k2
          have E2 := Lib.hid k2
          have E1 := Lib.hid (F1.out.other ⟨w.heap.size + 1, m, none⟩ (.int .i32 x) (by simp))
          have ES := Lib.hid (FS.out.of (w' := w3.setCell ⟨w.heap.size + 1, m, none⟩ (.int .i32 x)) (heap_setCell_other w3 ⟨w.heap.size + 1, m, none⟩ _ _ (by simp)))
          have bel4 := bel3.setCell (p := ⟨w.heap.size + 1, m, none⟩) (by simp) (.int .i32 x)
          have LE := Lib.hid (show (AL (j + 1)).length = m + 1 by rw [HN2.out, List.length_append, HL.out]; rfl)
          clear k2 hset
          go_wp2_with fail
          go_roundw
          case rel => exact ⟨j + 1, m + 1, by omega, by omega, LE.out, by go_num, by go_num, E1.out, E2.out, ES.out, bel4⟩
          case measure => simp [intOf]; omega
        · have HN2 := Lib.hid (HSK.out j (j + 1) (by omega) (fun y h1 h2 => by
            obtain rfl : y = j := by omega
            exact Bool.eq_false_iff.2 (fun ha => hlt (HAV.out.1.1 ha))))
          have hlt2 : 8380417 ≤ x := by omega
          clear hlt
          go_wp2_with fail
          go_roundw
          case rel => exact ⟨j + 1, m, by omega, by omega, by rw [HN2.out]; exact HL.out, by go_num, rfl, F1.out, by rw [HN2.out]; exact F2.out, FS.out, bel3⟩
          case measure => simp [intOf]; omega
      · have hend : j = 2016 ∨ m = 256 := by omega
        clear h5
        by_cases hm6 : m < 256
        · obtain rfl : j = 2016 := by omega
          obtain ⟨rfl, rfl⟩ := HNO.out 2016 (Nat.le_refl _) (by rw [HL.out]; exact hm6) (fun y h1 h2 => by omega)
          have i2 : (m : Int) < 256 := by omega
          clear hend
          go_wp2_with (first | (refine wpList_store_row rfl 25 (.tmp 2) (.tmp 53) rfl w.heap.size (iv eP).toArray rfl (congrArg Value.agg HZC.out) 25 (iv eP).toArray J1.out (j23 LZ.out) rfl (iv_all _) ?_))
          have j2 := J1.out.setRow (iv eP)
          have hb9 := below_setRow' hbel (show w.heap.size ≤ w.heap.size by omega) (iv eP).toArray
          refine bodyPost_ret (v := .tuple #[.agg (iv eP).toArray, .int .i64 94]) ?_ rfl ⟨rfl, hb9⟩
          exact results_two Tryd.results8 _ _ w.heap.size 25 _ (0, 0) _ _ rfl rfl j2 Tryd.underlying25 rfl (j23 LZ.out)
        · obtain rfl : m = 256 := by omega
          obtain ⟨rfl, hep⟩ := HYE.out j hj HL.out
          rw [HRD.out] at hep
          have LP := Lib.hid (show eP.length = 256 by rw [hep]; exact HFL.out _)
          rw [← hep] at J2
          clear hend hm6 hep
          by_cases hj6 : j < 2016
          · have i1 : (j : Int) < 2016 := by omega
            clear hj6
            go_wp2_with (first | (refine wpList_load_row rfl 25 (.tmp 4) rfl (w.heap.size + 1) rfl 25 (iv eP).toArray (0, 0) _ J2.out Tryd.underlying25 rfl (j23 LP.out) ?_) | (refine wpList_store_row rfl 25 (.tmp 2) (.tmp 54) rfl w.heap.size (iv eP).toArray rfl rfl 25 (iv Z).toArray J1.out (j23 LP.out) (by rw [iv_size, iv_size, LZ.out, LP.out]) (iv_all _) ?_))
            have j2 := J1.out.setRow (iv eP)
            have hb9 := below_setRow' hbel (show w.heap.size ≤ w.heap.size by omega) (iv eP).toArray
            refine bodyPost_ret (v := .tuple #[.agg (iv eP).toArray, .int .i64 0]) ?_ rfl ⟨rfl, hb9⟩
            exact results_two Tryd.results8 _ _ w.heap.size 25 _ (0, 0) _ _ rfl rfl j2 Tryd.underlying25 rfl (j23 LP.out)
          · obtain rfl : j = 2016 := by omega
            clear hj6
            go_wp2_with (first | (refine wpList_load_row rfl 25 (.tmp 4) rfl (w.heap.size + 1) rfl 25 (iv eP).toArray (0, 0) _ J2.out Tryd.underlying25 rfl (j23 LP.out) ?_) | (refine wpList_store_row rfl 25 (.tmp 2) (.tmp 54) rfl w.heap.size (iv eP).toArray rfl rfl 25 (iv Z).toArray J1.out (j23 LP.out) (by rw [iv_size, iv_size, LZ.out, LP.out]) (iv_all _) ?_))
            have j2 := J1.out.setRow (iv eP)
            have hb9 := below_setRow' hbel (show w.heap.size ≤ w.heap.size by omega) (iv eP).toArray
            refine bodyPost_ret (v := .tuple #[.agg (iv eP).toArray, .int .i64 0]) ?_ rfl ⟨rfl, hb9⟩
            exact results_two Tryd.results8 _ _ w.heap.size 25 _ (0, 0) _ _ rfl rfl j2 Tryd.underlying25 rfl (j23 LP.out)
  · have e1 : unE L = 91 := if_neg (by rw [HLN.out]; exact hn)
    have e2 : unP L = zerI := if_neg (by rw [HLN.out]; exact hn)
    rw [e1, e2]
    have hne : ((n : Int) != 34) = true := by simp; omega
    generalize zerI = Z at *
    clear hb e1 e2 hn
    go_enter Tryd.func8, Tryd.ntmps8
    go_wp2_with (first | (refine wpList_load_row rfl 25 (.tmp 4) rfl (w.heap.size + 1) rfl 25 (iv Z).toArray (0, 0) _ B2.out Tryd.underlying25 rfl (j23 LZ.out) ?_) | (refine wpList_store_row rfl 25 (.tmp 2) (.tmp 13) rfl w.heap.size (iv Z).toArray rfl rfl 25 (iv Z).toArray B1.out (j23 LZ.out) rfl (iv_all _) ?_))
    have j2 := B1.out.setRow (iv Z)
    have hb9 := below_setRow' BEL.out (show w.heap.size ≤ w.heap.size by omega) (iv Z).toArray
    refine bodyPost_ret (v := .tuple #[.agg (iv Z).toArray, .int .i64 91]) ?_ rfl ⟨rfl, hb9⟩
    exact results_two Tryd.results8 _ _ w.heap.size 25 _ (0, 0) _ _ rfl rfl j2 Tryd.underlying25 rfl (j23 LZ.out)
end Go.Proofs.YtlbfnmmankoddaaDoor
