/- The document's small polynomial. Condition: the seed's bytes are there. -/
import Derived.Test.YtlbfnmmankoddaaDoorDu9
import Derived.Test.YtlbfnmmankoddaaDoorSm9
namespace Go.Proofs.YtlbfnmmankoddaaDoor
open Go.RowKit
set_option linter.unusedVariables false
set_option linter.unusedSimpArgs false
set_option maxHeartbeats 400000 in
theorem Mod_any (x : Int) (w : World) (h1 : -4611686018427387904 ≤ x) (h2 : x ≤ 4611686018427387904) :
    Calls Tryd.prog 19 #[.int .i64 x] w fun e w' => e = .returned (.int .i32 (x % 8380417)) ∧ w = w' := by
  have hb := tmod_bd x
  have he := Lib.hid (tmod_emod x)
  by_cases hn : x.tmod 8380417 < 0
  · go_enter Tryd.func19, Tryd.ntmps19
    go_wp2_with fail
    go_ret
    exact ⟨ret1 (by have := he.out; omega), rfl⟩
  · go_enter Tryd.func19, Tryd.ntmps19
    go_wp2_with fail
    go_ret
    exact ⟨ret1 (by have := he.out; omega), rfl⟩
/-- what the document's polynomial holds -/
def smD (l : List Int) : List Int := rdL (fpL l)
theorem smD_nil : smD [] = zerI := by
  unfold smD
  rw [rd_fp (fun x hx => by cases hx), fpL_nil]
theorem smD_len (l : List Int) : (smD l).length = 256 := rdL_len _
theorem smD_set (l : List Int) (v : Int) (h : l.length < 256) : (smD l).set l.length (v % 8380417) = smD (l ++ [v]) := by
  unfold smD
  rw [← fpL_set l v h]
  unfold rdL
  rw [tellI_set]
  refine tellI_congr fun i hi => ?_
  rw [rI_val, rI_val]
  by_cases e : i = l.length
  · subst e
    rw [if_pos rfl]
    have hh : l.length < (fpL l).length := by rw [fpL_len]; exact h
    simp [List.getD_eq_getElem?_getD, List.getElem?_set, hh]
  · rw [if_neg e]
    simp [List.getD_eq_getElem?_getD, List.getElem?_set, Ne.symm e]
theorem hv_even (k : Nat) (L : List Nat) (j : Nat) : hvB k L (2 * j) = stY k L j % 16 := by
  unfold hvB; rw [if_pos (by omega), show 2 * j / 2 = j by omega]
theorem hv_odd (k : Nat) (L : List Nat) (j : Nat) : hvB k L (2 * j + 1) = stY k L j / 16 := by
  unfold hvB; rw [if_neg (by omega), show (2 * j + 1) / 2 = j by omega]
/-- one half byte: what it does to the list -/
theorem sm_step (L : List Nat) (h : Nat) (x : Int) (hx : ((hvB 5 L h : Nat) : Int) = x) :
    (x < 9 → accL (smA 5 L) (smV 5 L) (h + 1) = accL (smA 5 L) (smV 5 L) h ++ [4 - x]) ∧ (9 ≤ x → accL (smA 5 L) (smV 5 L) (h + 1) = accL (smA 5 L) (smV 5 L) h) := by
  refine ⟨fun h1 => ?_, fun h1 => ?_⟩
  · rw [accL_next (Nat.le_refl h) (fun y h2 h3 => by omega) (show smA 5 L h = true from decide_eq_true (by omega))]
    unfold smV; rw [hx]
  · exact accL_skip _ _ h (h + 1) (by omega) (fun y h2 h3 => by
      obtain rfl : y = h := by omega
      exact decide_eq_false (by omega))
set_option maxRecDepth 100000 in
set_option maxHeartbeats 4000000 in
theorem dSmall_any (A : Option Addr) (n cp : Nat) (L : List Nat) (w : World) (hb : BIn w A n cp L) :
    Calls Tryd.prog 9 #[.slice A n cp] w fun e w' => e = .returned (.tuple #[.agg (iv (smP L)).toArray, .int .i64 (smE L : Nat)]) ∧ Below w.heap.size w w' := by
  have B1 := Lib.hid ((Blk.new w 25 (iv zerI)).alloc (.cells (iv zerI).toArray 25))
  have B2 := Lib.hid (Blk.new2 w (.cells (iv zerI).toArray 25) 25 (iv zerI))
  have BEL := Lib.hid (((Below.refl w.heap.size w).alloc (Nat.le_refl _) (.cells (iv zerI).toArray 25)).alloc (by simp) (.cells (iv zerI).toArray 25))
  have HZC := Lib.hid zc23
  have LZ := Lib.hid zerI_length
  have z23 := zero23
  have HLN := Lib.hid hb.1.1
  have HB := Lib.hid hb
  by_cases hn : n = 66
  · have hm : n ≤ 140737488351232 := by omega
    obtain ⟨er, her⟩ : ∃ er, smE L = er := ⟨_, rfl⟩
    obtain ⟨eP, heP⟩ : ∃ eP, smP L = eP := ⟨_, rfl⟩
    rw [her, heP]
    have hE1 : fiE (accL (smA 5 L) (smV 5 L) (2 * 2000)) = er := by rw [← her]; exact (if_pos (by rw [HLN.out, hn])).symm
    have hP1 : fiP (accL (smA 5 L) (smV 5 L) (2 * 2000)) = eP := by rw [← heP]; exact (if_pos (by rw [HLN.out, hn])).symm
    have HNO := Lib.hid (show ∀ j, j ≤ 2 * 2000 → (accL (smA 5 L) (smV 5 L) j).length < 256 → 2 * 2000 ≤ j → er = 94 ∧ eP = zerI from fun j hj h hx => by
      have h := @fi_no (smA 5 L) (smV 5 L) j (2 * 2000) hj h (fun y h1 h2 => by omega)
      rw [hE1, hP1] at h; exact h)
    have HYE := Lib.hid (show ∀ j, j ≤ 2 * 2000 → (accL (smA 5 L) (smV 5 L) j).length = 256 → er = 0 ∧ eP = smD (accL (smA 5 L) (smV 5 L) j) from fun j hj h => by
      have h := @fi_yes (smA 5 L) (smV 5 L) j (2 * 2000) hj h
      rw [hE1, hP1] at h; exact h)
    have HST := Lib.hid (sm_step L)
    have HA0 := Lib.hid (show accL (smA 5 L) (smV 5 L) 0 = [] from rfl)
    have HF0 := Lib.hid smD_nil
    have HSET := Lib.hid smD_set
    have HFL := Lib.hid smD_len
    have HBT := Lib.hid (built44 5 A n cp)
    have HMD := Lib.hid (fun (x : Int) (h : 0 ≤ x ∧ x < 16) w => Mod_any (4 - x) w (by omega) (by omega))
    have BS := Lib.hid (Blk.new ((w.alloc (.cells (iv zerI).toArray 25)).alloc (.cells (iv zerI).toArray 25)) 43 (rsV (.int .i64 (5 : Nat)) (.slice A n cp) (.bool false) (.int .i64 0) (zeros 25) (.int .i64 0)))
    have hsz2 : ((w.alloc (.cells (iv zerI).toArray 25)).alloc (.cells (iv zerI).toArray 25)).heap.size = w.heap.size + 2 := by simp
    rw [hsz2] at BS
    have BEL3 := Lib.hid (BEL.out.alloc BEL.out.size (.cells (rsV (.int .i64 (5 : Nat)) (.slice A n cp) (.bool false) (.int .i64 0) (zeros 25) (.int .i64 0)).toArray 43))
    have B1b := Lib.hid (B1.out.alloc (.cells (rsV (.int .i64 (5 : Nat)) (.slice A n cp) (.bool false) (.int .i64 0) (zeros 25) (.int .i64 0)).toArray 43))
    have B2b := Lib.hid (B2.out.alloc (.cells (rsV (.int .i64 (5 : Nat)) (.slice A n cp) (.bool false) (.int .i64 0) (zeros 25) (.int .i64 0)).toArray 43))
    rw [show ((5 : Nat) : Int) = 5 from rfl] at BEL3 B1b B2b BS
    generalize accL (smA 5 L) (smV 5 L) = AL at *
    generalize zerI = Z at *
    generalize smD = FP at *
    clear her heP hE1 hP1 hb hsz2
    subst hn
    go_enter Tryd.func9, Tryd.ntmps9
    go_wp2_with (first | (refine wpList_build_is rfl 43 _ rfl _ HBT.out ?_))
    clear z23
    go_loopw [6, 7] (fun v6 v7 wr => ∃ k j m : Nat, k ≤ 2000 ∧ j ≤ 2 * k ∧ m ≤ 256 ∧ (j = 2 * k ∨ m = 256) ∧ (AL j).length = m ∧ v7 = .int .i64 k ∧ v6 = .int .i64 m ∧ Blk wr w.heap.size 25 (iv Z) ∧ Blk wr (w.heap.size + 1) 25 (iv (FP (AL j))) ∧ RefSt (w.heap.size + 2) 5 A 66 cp L wr k ∧ Below w.heap.size w wr) (fun _ v7 _ => 2000 - (intOf v7).toNat)
    case atStart => exact ⟨0, 0, 0, by omega, by omega, by omega, .inl rfl, by rw [HA0.out]; rfl, rfl, rfl, B1b.out, by rw [HA0.out, HF0.out]; exact B2b.out, .inl ⟨rfl, BS.out⟩, BEL3.out⟩
    case round =>
      clear B1 B2 BEL B1b B2b BS BEL3
      obtain ⟨k, j, m, hk, hj, hm2, hjm, hl, rfl, rfl, k1, k2, hs, hbel⟩ := hrel
      have J1 := Lib.hid k1
      have J2 := Lib.hid k2
      have HS := Lib.hid hs
      have HL := Lib.hid hl
      have hzw := k2.lt
      have hz3 : w.heap.size + 2 < wr.heap.size := by rcases hs with ⟨_, h⟩ | h <;> exact h.lt
      clear k1 k2 hs hl
      by_cases h5 : k < 2000 ∧ m < 256
      · obtain ⟨h6, h7⟩ := h5
        obtain rfl : j = 2 * k := by omega
        clear hjm hj
        have i1 : (k : Int) < 2000 := by omega
        have i2 : (m : Int) < 256 := by omega
        have HR := Lib.hid (show Calls Tryd.prog 18 #[.pointer (some ⟨w.heap.size + 2, 0, none⟩), .int .i64 1] wr (RefRd (w.heap.size + 2) 5 A 66 cp L k 1 wr) from ref_read (w.heap.size + 2) 5 (by simp [IsKind]) A 66 cp L k 1 (by omega) (by omega) wr (HB.out.below hbel) HS.out)
        go_wp2_with fail
        refine HR.out.mono ?_
        rintro e w2 ⟨v, rfl, ho, hs2, hg⟩
        obtain ⟨G, c, rfl, hG1, hG2, hce⟩ := own_three ho (by decide)
        have c0 := hce 0 (by decide)
        rw [stR_get 5 L _ 1 _ (by decide), Nat.add_zero] at c0
        have D1 := Lib.hid (J1.out.grown hg (by simp))
        have D2 := Lib.hid (J2.out.grown hg (by simp))
        have HS2 := Lib.hid hs2
        have bel2 := hbel.grown hg (by have := hbel.size; omega) (fun i hi => by injection hi with hi; omega)
        have y1 := stY_lt 5 L k
        have hv1 := hv_even 5 L k
        have hv2 := hv_odd 5 L k
        generalize stY 5 L k = b at *
        clear ho hs2 hg hce HR
        have HM1 := Lib.hid (HMD.out (((b : Nat) : Int) % 16) (by omega))
        have HM2 := Lib.hid (HMD.out (((b : Nat) : Int) / 16) (by omega))
        by_cases hx : ((b : Nat) : Int) % 16 < 9
        · have HN1 := Lib.hid ((HST.out (2 * k) (((b : Nat) : Int) % 16) (by rw [hv1]; omega)).1 hx)
          have d1 := D2.out.iv (m) (by rw [HFL.out]; omega)
          have f1 := D2.out.free (m)
          have k2 := D2.out.ivSet (m) ((4 - ((b : Nat) : Int) % 16) % 8380417)
          have hset := HSET.out (AL (2 * k)) (4 - ((b : Nat) : Int) % 16) (by rw [HL.out]; omega)
          rw [HL.out, ← HN1.out] at hset
          rw [hset] at k2
          have E2 := Lib.hid k2
          have E1 := Lib.hid (D1.out.other ⟨w.heap.size + 1, m, none⟩ (.int .i32 ((4 - ((b : Nat) : Int) % 16) % 8380417)) (by simp))
          have ES := Lib.hid (HS2.out.of (w' := (w2.setCell ⟨w.heap.size + 1, m, none⟩ (.int .i32 ((4 - ((b : Nat) : Int) % 16) % 8380417)))) (heap_setCell_other w2 ⟨w.heap.size + 1, m, none⟩ _ _ (by simp)))
          have belE := Lib.hid (bel2.setCell (p := ⟨w.heap.size + 1, m, none⟩) (by simp) (.int .i32 ((4 - ((b : Nat) : Int) % 16) % 8380417)))
          have LE := Lib.hid (show (AL (2 * k + 1)).length = m + 1 by rw [HN1.out, List.length_append, HL.out]; rfl)
          clear k2 hset
          go_wp2_with fail
          refine (HM1.out _).mono ?_
          rintro e w' ⟨rfl, rfl⟩
          by_cases hy : (((b : Nat) : Int) / 16 < 9) ∧ m + 1 < 256
          · obtain ⟨hy, h8⟩ := hy
            have i3 : (m : Int) + 1 < 256 := by omega
            have HN2 := Lib.hid ((HST.out (2 * k + 1) (((b : Nat) : Int) / 16) (by rw [hv2]; omega)).1 hy)
            go_wp2_with fail
            generalize hw3 : (w2.setCell ⟨w.heap.size + 1, m, none⟩ (.int .i32 ((4 - ((b : Nat) : Int) % 16) % 8380417))) = w3 at *
            have d2 := E2.out.iv (m + 1) (by rw [HFL.out]; omega)
            have f2 := E2.out.free (m + 1)
            have k2 := E2.out.ivSet (m + 1) ((4 - ((b : Nat) : Int) / 16) % 8380417)
            have hset := HSET.out (AL (2 * k + 1)) (4 - ((b : Nat) : Int) / 16) (by rw [LE.out]; omega)
            rw [LE.out, ← HN2.out] at hset
            rw [hset] at k2
            have G2 := Lib.hid k2
            have G1 := Lib.hid (E1.out.other ⟨w.heap.size + 1, m + 1, none⟩ (.int .i32 ((4 - ((b : Nat) : Int) / 16) % 8380417)) (by simp))
            have GS := Lib.hid (ES.out.of (w' := (w3.setCell ⟨w.heap.size + 1, m + 1, none⟩ (.int .i32 ((4 - ((b : Nat) : Int) / 16) % 8380417)))) (heap_setCell_other w3 ⟨w.heap.size + 1, m + 1, none⟩ _ _ (by simp)))
            have belG := Lib.hid (belE.out.setCell (p := ⟨w.heap.size + 1, m + 1, none⟩) (by simp) (.int .i32 ((4 - ((b : Nat) : Int) / 16) % 8380417)))
            have LG := Lib.hid (show (AL (2 * k + 1 + 1)).length = m + 1 + 1 by rw [HN2.out, List.length_append, LE.out]; rfl)
            clear k2 hset
            refine (HM2.out _).mono ?_
            rintro e w' ⟨rfl, rfl⟩
            go_wp2_with fail
            go_roundw
            case rel => exact ⟨k + 1, 2 * k + 1 + 1, m + 1 + 1, by omega, by omega, by omega, by omega, LG.out, by go_num, by go_num, G1.out, G2.out, GS.out, belG.out⟩
            case measure => simp [intOf]; omega
          · by_cases h8 : m + 1 < 256
            · have i3 : (m : Int) + 1 < 256 := by omega
              have hy2 : 9 ≤ ((b : Nat) : Int) / 16 := by omega
              clear hy
              have HN2 := Lib.hid ((HST.out (2 * k + 1) (((b : Nat) : Int) / 16) (by rw [hv2]; omega)).2 hy2)
              go_wp2_with fail
              go_roundw
              case rel => exact ⟨k + 1, 2 * k + 1 + 1, m + 1, by omega, by omega, by omega, by omega, by rw [HN2.out]; exact LE.out, by go_num, by go_num, E1.out, by rw [HN2.out]; exact E2.out, ES.out, belE.out⟩
              case measure => simp [intOf]; omega
            · obtain rfl : m = 255 := by omega
              clear hy h8
              by_cases hy : ((b : Nat) : Int) / 16 < 9
              · go_wp2_with fail
                go_roundw
                case rel => exact ⟨k + 1, 2 * k + 1, 255 + 1, by omega, by omega, by omega, by omega, LE.out, by go_num, by go_num, E1.out, E2.out, ES.out, belE.out⟩
                case measure => simp [intOf]; omega
              · have hy2 : 9 ≤ ((b : Nat) : Int) / 16 := by omega
                clear hy
                go_wp2_with fail
                go_roundw
                case rel => exact ⟨k + 1, 2 * k + 1, 255 + 1, by omega, by omega, by omega, by omega, LE.out, by go_num, by go_num, E1.out, E2.out, ES.out, belE.out⟩
                case measure => simp [intOf]; omega
        · have hx2 : 9 ≤ ((b : Nat) : Int) % 16 := by omega
          clear hx
          have HN1 := Lib.hid ((HST.out (2 * k) (((b : Nat) : Int) % 16) (by rw [hv1]; omega)).2 hx2)
          rw [← HN1.out] at D2 HL
          by_cases hy : ((b : Nat) : Int) / 16 < 9
          · have HN2 := Lib.hid ((HST.out (2 * k + 1) (((b : Nat) : Int) / 16) (by rw [hv2]; omega)).1 hy)
            have d2 := D2.out.iv (m) (by rw [HFL.out]; omega)
            have f2 := D2.out.free (m)
            have k2 := D2.out.ivSet (m) ((4 - ((b : Nat) : Int) / 16) % 8380417)
            have hset := HSET.out (AL (2 * k + 1)) (4 - ((b : Nat) : Int) / 16) (by rw [HL.out]; omega)
            rw [HL.out, ← HN2.out] at hset
            rw [hset] at k2
            have G2 := Lib.hid k2
            have G1 := Lib.hid (D1.out.other ⟨w.heap.size + 1, m, none⟩ (.int .i32 ((4 - ((b : Nat) : Int) / 16) % 8380417)) (by simp))
            have GS := Lib.hid (HS2.out.of (w' := (w2.setCell ⟨w.heap.size + 1, m, none⟩ (.int .i32 ((4 - ((b : Nat) : Int) / 16) % 8380417)))) (heap_setCell_other w2 ⟨w.heap.size + 1, m, none⟩ _ _ (by simp)))
            have belG := Lib.hid (bel2.setCell (p := ⟨w.heap.size + 1, m, none⟩) (by simp) (.int .i32 ((4 - ((b : Nat) : Int) / 16) % 8380417)))
            have LG := Lib.hid (show (AL (2 * k + 1 + 1)).length = m + 1 by rw [HN2.out, List.length_append, HL.out]; rfl)
            clear k2 hset
            go_wp2_with fail
            refine (HM2.out _).mono ?_
            rintro e w' ⟨rfl, rfl⟩
            go_wp2_with fail
            go_roundw
            case rel => exact ⟨k + 1, 2 * k + 1 + 1, m + 1, by omega, by omega, by omega, by omega, LG.out, by go_num, by go_num, G1.out, G2.out, GS.out, belG.out⟩
            case measure => simp [intOf]; omega
          · have hy2 : 9 ≤ ((b : Nat) : Int) / 16 := by omega
            clear hy
            have HN2 := Lib.hid ((HST.out (2 * k + 1) (((b : Nat) : Int) / 16) (by rw [hv2]; omega)).2 hy2)
            go_wp2_with fail
            go_roundw
            case rel => exact ⟨k + 1, 2 * k + 1 + 1, m, by omega, by omega, by omega, by omega, by rw [HN2.out]; exact HL.out, by go_num, by go_num, D1.out, by rw [HN2.out]; exact D2.out, HS2.out, bel2⟩
            case measure => simp [intOf]; omega
      · have hend : k = 2000 ∨ m = 256 := by omega
        clear h5
        by_cases hm6 : m < 256
        · obtain rfl : k = 2000 := by omega
          obtain rfl : j = 2 * 2000 := by omega
          obtain ⟨rfl, rfl⟩ := HNO.out (2 * 2000) (Nat.le_refl _) (by rw [HL.out]; exact hm6) (Nat.le_refl _)
          have i2 : (m : Int) < 256 := by omega
          clear hend hjm
          go_wp2_with (first | (refine wpList_store_row rfl 25 (.tmp 2) (.tmp 59) rfl w.heap.size (iv eP).toArray rfl (congrArg Value.agg HZC.out) 25 (iv eP).toArray J1.out (j23 LZ.out) rfl (iv_all _) ?_))
          have j2 := J1.out.setRow (iv eP)
          have hb9 := below_setRow' hbel (show w.heap.size ≤ w.heap.size by omega) (iv eP).toArray
          refine bodyPost_ret (v := .tuple #[.agg (iv eP).toArray, .int .i64 94]) ?_ rfl ⟨rfl, hb9⟩
          exact results_two Tryd.results9 _ _ w.heap.size 25 _ (0, 0) _ _ rfl rfl j2 Tryd.underlying25 rfl (j23 LZ.out)
        · obtain rfl : m = 256 := by omega
          obtain ⟨rfl, hep⟩ := HYE.out j (by omega) HL.out
          have LP := Lib.hid (show eP.length = 256 by rw [hep]; exact HFL.out _)
          rw [← hep] at J2
          clear hend hm6 hep hjm
          by_cases hj6 : k < 2000
          · have i1 : (k : Int) < 2000 := by omega
            clear hj6
            go_wp2_with (first | (refine wpList_load_row rfl 25 (.tmp 4) rfl (w.heap.size + 1) rfl 25 (iv eP).toArray (0, 0) _ J2.out Tryd.underlying25 rfl (j23 LP.out) ?_) | (refine wpList_store_row rfl 25 (.tmp 2) (.tmp 60) rfl w.heap.size (iv eP).toArray rfl rfl 25 (iv Z).toArray J1.out (j23 LP.out) (by rw [iv_size, iv_size, LZ.out, LP.out]) (iv_all _) ?_))
            have j2 := J1.out.setRow (iv eP)
            have hb9 := below_setRow' hbel (show w.heap.size ≤ w.heap.size by omega) (iv eP).toArray
            refine bodyPost_ret (v := .tuple #[.agg (iv eP).toArray, .int .i64 0]) ?_ rfl ⟨rfl, hb9⟩
            exact results_two Tryd.results9 _ _ w.heap.size 25 _ (0, 0) _ _ rfl rfl j2 Tryd.underlying25 rfl (j23 LP.out)
          · obtain rfl : k = 2000 := by omega
            clear hj6
            go_wp2_with (first | (refine wpList_load_row rfl 25 (.tmp 4) rfl (w.heap.size + 1) rfl 25 (iv eP).toArray (0, 0) _ J2.out Tryd.underlying25 rfl (j23 LP.out) ?_) | (refine wpList_store_row rfl 25 (.tmp 2) (.tmp 60) rfl w.heap.size (iv eP).toArray rfl rfl 25 (iv Z).toArray J1.out (j23 LP.out) (by rw [iv_size, iv_size, LZ.out, LP.out]) (iv_all _) ?_))
            have j2 := J1.out.setRow (iv eP)
            have hb9 := below_setRow' hbel (show w.heap.size ≤ w.heap.size by omega) (iv eP).toArray
            refine bodyPost_ret (v := .tuple #[.agg (iv eP).toArray, .int .i64 0]) ?_ rfl ⟨rfl, hb9⟩
            exact results_two Tryd.results9 _ _ w.heap.size 25 _ (0, 0) _ _ rfl rfl j2 Tryd.underlying25 rfl (j23 LP.out)
  · have e1 : smE L = 91 := if_neg (by rw [HLN.out]; exact hn)
    have e2 : smP L = zerI := if_neg (by rw [HLN.out]; exact hn)
    rw [e1, e2]
    have hne : ((n : Int) != 66) = true := by simp; omega
    generalize zerI = Z at *
    clear hb e1 e2 hn
    go_enter Tryd.func9, Tryd.ntmps9
    go_wp2_with (first | (refine wpList_load_row rfl 25 (.tmp 4) rfl (w.heap.size + 1) rfl 25 (iv Z).toArray (0, 0) _ B2.out Tryd.underlying25 rfl (j23 LZ.out) ?_) | (refine wpList_store_row rfl 25 (.tmp 2) (.tmp 13) rfl w.heap.size (iv Z).toArray rfl rfl 25 (iv Z).toArray B1.out (j23 LZ.out) rfl (iv_all _) ?_))
    have j2 := B1.out.setRow (iv Z)
    have hb9 := below_setRow' BEL.out (show w.heap.size ≤ w.heap.size by omega) (iv Z).toArray
    refine bodyPost_ret (v := .tuple #[.agg (iv Z).toArray, .int .i64 91]) ?_ rfl ⟨rfl, hb9⟩
    exact results_two Tryd.results9 _ _ w.heap.size 25 _ (0, 0) _ _ rfl rfl j2 Tryd.underlying25 rfl (j23 LZ.out)
end Go.Proofs.YtlbfnmmankoddaaDoor
