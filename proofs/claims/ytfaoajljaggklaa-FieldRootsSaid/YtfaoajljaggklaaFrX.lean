/- FieldRoots: cases. No condition but 256 bits. -/
import Derived.Test.YtfaoajljaggklaaRt
import Derived.Deep.DeepCutAuto
namespace Go.Proofs.Ytfaoajljaggklaa
open Go.RowKit
set_option linter.unusedVariables false
set_option linter.unusedSimpArgs false
set_option maxRecDepth 100000 in
set_option maxHeartbeats 3200000 in
theorem roots5_11 (a b : Nat) (w : World) (ha : a < 2 ^ 256) (hb : b < 2 ^ 256) (hc : ¬ a < mP) (hv : rN (b % mP * (b % mP) % mP) = b % mP) :
    Calls Try.prog 8 #[.agg (natsV .u64 (wds 4 a)).toArray, .agg (natsV .u64 (wds 4 b)).toArray] w fun e w' => e = .returned (.bool true) ∧ Below w.heap.size w w' := by
  have H := fld_P
  have hm := H.lt
  have hgt := H.gt
  have HP := Lib.hid DP_any
  have HL := Lib.hid (fun w => Less_any a mP w ha hm)
  rw [decide_eq_false hc] at HL
  have HR1 := Lib.hid (fun w => Root_no a w ha (fun h => hc h.1))
  have HRS := Lib.hid (fun w => Rest_any b mP false w hm hb (by simp; omega))
  rw [show (b + 2 ^ 256 * false.toNat) % mP = b % mP by simp] at HRS
  have hub : b % mP < mP := Nat.mod_lt _ mP_pos
  generalize b % mP = ub at *
  have HMU := Lib.hid (fun w => Mul5_any ub ub mP w (Nat.lt_trans hub hm) (Nat.lt_trans hub hm) hm hgt)
  have hok := okR_sq ub hub
  have hsq := rN_sq _ hok
  have hwl : ub * ub % mP < mP := Nat.mod_lt _ mP_pos
  obtain ⟨W0, hW0⟩ : ∃ W0, W0 = ub * ub % mP := ⟨_, rfl⟩
  rw [← hW0] at HMU hok hsq hwl hv
  have HFO := Lib.hid (fun w => Form_any W0 mP 1 vP w H hwl)
  have hof : ofF mP vP (toF mP W0) = W0 := by rw [H.of_to, Nat.mod_eq_of_lt hwl]
  have HR2 := Lib.hid (fun w => Root_good (toF mP W0) w (toF_lt H W0) (by rw [hof]; exact hok))
  rw [hof] at HR2
  have HOU := Lib.hid (fun w => Out_ok 1 mP 1 vP (toF mP (rN W0)) w H (Nat.lt_trans (toF_lt H _) hm) (pok_1 1 mP 1 vP _ .p (toF_lt H _)))
  rw [H.of_to, Nat.mod_eq_of_lt (rN_lt W0)] at HOU
  have e0 := dgt0_odd (rN W0)
  rw [rN_even W0] at e0
  have V0 := wds_at 4 (rN W0) 0 (by omega)
  generalize dgt (2 ^ 64) (rN W0) 0 = d0 at *
  have hi0 : (d0 : Int) % 2 = 0 := by omega
  have LT := Lib.hid (wds_len 4 (toF mP (rN W0)))
  have LW := Lib.hid (wds_len 4 (toF mP W0))
  have LV := Lib.hid (wds_len 4 (rN W0))
  have LUB := Lib.hid (wds_len 4 ub)
  have LM := Lib.hid (wds_len 4 mP)
  rw [hv] at HOU V0 LV HR2
  rw [hv] at LT
  generalize wds 4 (toF mP ub) = lt at *
  generalize wds 4 (toF mP W0) = lw at *
  generalize wds 4 W0 = lw0 at *
  generalize wds 4 ub = lub at *
  generalize wds 4 mP = lm at *
  clear H hm hgt hub hok hsq hwl hof e0 hv hc hW0
  have LA := Lib.hid (wds_len 4 a)
  have LB := Lib.hid (wds_len 4 b)
  generalize wds 4 a = la at *
  generalize wds 4 b = lb at *
  clear ha hb
  have i24m : (Try.prog.info? 24).map (·.size) = some (natsV .u64 lm).length := by rw [info24, natsV_length, LM.out]
  have i24ub : (Try.prog.info? 24).map (·.size) = some (natsV .u64 lub).length := by rw [info24, natsV_length, LUB.out]
  have B1 := Lib.hid ((Blk.new w 24 (natsV .u64 la)).alloc (.cells (natsV .u64 lb).toArray 24))
  have B2 := Lib.hid (Blk.new2 w (.cells (natsV .u64 la).toArray 24) 24 (natsV .u64 lb))
  have BEL := Lib.hid (((Below.refl w.heap.size w).alloc (Nat.le_refl _) (.cells (natsV .u64 la).toArray 24)).alloc (by simp) (.cells (natsV .u64 lb).toArray 24))
  go_enter Try.func8, Try.ntmps8
  go_wp2_with fail
  refine (fawake_any _).mono ?_
  rintro e w1 ⟨rfl, hbw1⟩
  have C2 := Lib.hid (B1.out.below' hbw1)
  have C3 := Lib.hid (B2.out.below' hbw1)
  have hbel4 := BEL.out.trans (hbw1.mono BEL.out.size)
  clear B1 B2 hbw1
  go_wp2_with fail
  refine (HP.out _).mono ?_
  rintro e w5 ⟨rfl, hbw5⟩
  have C6 := Lib.hid (C2.out.below' hbw5)
  have C7 := Lib.hid (C3.out.below' hbw5)
  have hbel8 := hbel4.trans (hbw5.mono hbel4.size)
  clear C2 C3 hbw5 hbel4
  have Z10 := Lib.hid (Blk.new w5 24 (natsV .u64 (zeros 4)))
  have hz11 := Lib.hid (below_setRow' (hbel8.alloc hbel8.size (.cells (natsV .u64 (zeros 4)).toArray 24)) hbel8.size (natsV .u64 lm).toArray)
  have Y12 := Lib.hid ((C6.out.alloc (.cells (natsV .u64 (zeros 4)).toArray 24)).row (natsV .u64 lm).toArray (Nat.ne_of_lt C6.out.lt))
  have Y13 := Lib.hid ((C7.out.alloc (.cells (natsV .u64 (zeros 4)).toArray 24)).row (natsV .u64 lm).toArray (Nat.ne_of_lt C7.out.lt))
  have Y14 := Lib.hid (Z10.out.setRow (natsV .u64 lm))
  go_wp2_with (first | (refine st24 rfl (.tmp 6) (.tmp 19) rfl w5.heap.size rfl lm rfl LM.out (zeros 4) Z10.out rfl ?_; generalize hW : World.setRow _ _ _ = w9; have D16 := Lib.hid (show Blk w9 w.heap.size 24 (natsV .u64 la) from (by rw [← hW]; exact Y12.out)); have D17 := Lib.hid (show Blk w9 (w.heap.size + 1) 24 (natsV .u64 lb) from (by rw [← hW]; exact Y13.out)); have D18 := Lib.hid (show Blk w9 w5.heap.size 24 (natsV .u64 lm) from (by rw [← hW]; exact Y14.out)); have LE_D18 := (hbel8).size; have NE_D16 := Nat.ne_of_lt C6.out.lt; have NE_D17 := Nat.ne_of_lt C7.out.lt; have hbel19 : Below w.heap.size w w9 := (by rw [← hW]; exact hz11.out); clear hW Z10 hz11 C6 C7 Y12 Y13 Y14 hbel8; generalize w5.heap.size = G15 at *) | (refine ld24 rfl (.tmp 2) rfl w.heap.size rfl la D16.out LA.out ?_))
  refine (HR1.out _).mono ?_
  rintro e w20 ⟨rfl, hbw20⟩
  have C21 := Lib.hid (D16.out.below' hbw20)
  have C22 := Lib.hid (D17.out.below' hbw20)
  have C23 := Lib.hid (D18.out.below' hbw20)
  have hbel24 := hbel19.trans (hbw20.mono hbel19.size)
  clear D16 D17 D18 hbw20 hbel19
  have Z26 := Lib.hid (Blk.new w20 24 (natsV .u64 (zeros 4)))
  have hz27 := Lib.hid (below_setRow' (hbel24.alloc hbel24.size (.cells (natsV .u64 (zeros 4)).toArray 24)) hbel24.size (natsV .u64 (zeros 4)).toArray)
  have Y28 := Lib.hid ((C21.out.alloc (.cells (natsV .u64 (zeros 4)).toArray 24)).row (natsV .u64 (zeros 4)).toArray (Nat.ne_of_lt C21.out.lt))
  have Y29 := Lib.hid ((C22.out.alloc (.cells (natsV .u64 (zeros 4)).toArray 24)).row (natsV .u64 (zeros 4)).toArray (Nat.ne_of_lt C22.out.lt))
  have Y30 := Lib.hid ((C23.out.alloc (.cells (natsV .u64 (zeros 4)).toArray 24)).row (natsV .u64 (zeros 4)).toArray (Nat.ne_of_lt C23.out.lt))
  have Y31 := Lib.hid (Z26.out.setRow (natsV .u64 (zeros 4)))
  go_wp2_with (first | (refine st24 rfl (.tmp 7) (.tmp 23) rfl w20.heap.size rfl (zeros 4) rfl rfl (zeros 4) Z26.out rfl ?_; generalize hW : World.setRow _ _ _ = w25; have D33 := Lib.hid (show Blk w25 w.heap.size 24 (natsV .u64 la) from (by rw [← hW]; exact Y28.out)); have D34 := Lib.hid (show Blk w25 (w.heap.size + 1) 24 (natsV .u64 lb) from (by rw [← hW]; exact Y29.out)); have D35 := Lib.hid (show Blk w25 G15 24 (natsV .u64 lm) from (by rw [← hW]; exact Y30.out)); have D36 := Lib.hid (show Blk w25 w20.heap.size 24 (natsV .u64 (zeros 4)) from (by rw [← hW]; exact Y31.out)); have LE_D36 := (hbel24).size; have NE_D33 := Nat.ne_of_lt C21.out.lt; have NE_D34 := Nat.ne_of_lt C22.out.lt; have NE_D35 := Nat.ne_of_lt C23.out.lt; have hbel37 : Below w.heap.size w w25 := (by rw [← hW]; exact hz27.out); clear hW Z26 hz27 C21 C22 C23 Y28 Y29 Y30 Y31 hbel24; generalize w20.heap.size = G32 at *) | (refine ld24 rfl (.tmp 2) rfl w.heap.size rfl la D33.out LA.out ?_) | (refine ld24 rfl (.tmp 6) rfl G15 rfl lm D35.out LM.out ?_))
  refine (HL.out _).mono ?_
  rintro e w38 ⟨rfl, hbw38⟩
  have C39 := Lib.hid (D33.out.below' hbw38)
  have C40 := Lib.hid (D34.out.below' hbw38)
  have C41 := Lib.hid (D35.out.below' hbw38)
  have C42 := Lib.hid (D36.out.below' hbw38)
  have hbel43 := hbel37.trans (hbw38.mono hbel37.size)
  clear D33 D34 D35 D36 hbw38 hbel37
  as_aux_lemma =>
  have q := neZ
  go_wp2_with (first | (refine ldn 24 (.tmp 7) rfl G32 rfl .u64 (zeros 4) C42.out _ _ Try.underlying24 (by rw [info24]; rfl) 4 rfl 32 rfl rfl ?_) | (refine ld24 rfl (.tmp 3) rfl (w.heap.size + 1) rfl lb C40.out LB.out ?_) | (refine ld24 rfl (.tmp 6) rfl G15 rfl lm C41.out LM.out ?_))
  clear q
  clear C42 C39
  refine (HRS.out _).mono ?_
  rintro e w44 ⟨rfl, hbw44⟩
  have C45 := Lib.hid (C40.out.below' hbw44)
  have C46 := Lib.hid (C41.out.below' hbw44)
  have hbel47 := hbel43.trans (hbw44.mono hbel43.size)
  clear C40 C41 hbw44 hbel43
  clear C45
  have Z49 := Lib.hid (Blk.new w44 24 (natsV .u64 (zeros 4)))
  have hz50 := Lib.hid (below_setRow' (hbel47.alloc hbel47.size (.cells (natsV .u64 (zeros 4)).toArray 24)) hbel47.size (natsV .u64 lub).toArray)
  have Y51 := Lib.hid ((C46.out.alloc (.cells (natsV .u64 (zeros 4)).toArray 24)).row (natsV .u64 lub).toArray (Nat.ne_of_lt C46.out.lt))
  have Y52 := Lib.hid (Z49.out.setRow (natsV .u64 lub))
  go_upto_region 12 with (first | (refine st24 rfl (.tmp 12) (.tmp 70) rfl w44.heap.size rfl lub rfl LUB.out (zeros 4) Z49.out rfl ?_; generalize hW : World.setRow _ _ _ = w48; have D54 := Lib.hid (show Blk w48 G15 24 (natsV .u64 lm) from (by rw [← hW]; exact Y51.out)); have D55 := Lib.hid (show Blk w48 w44.heap.size 24 (natsV .u64 lub) from (by rw [← hW]; exact Y52.out)); have LE_D55 := (hbel47).size; have NE_D54 := Nat.ne_of_lt C46.out.lt; have hbel56 : Below w.heap.size w w48 := (by rw [← hW]; exact hz50.out); clear hW Z49 hz50 C46 Y51 Y52 hbel47; generalize w44.heap.size = G53 at *))
  try simp only [Act.put]
  go_cut [13] (fun v13 wx => ∃ g : Nat, v13 = .pointer (some ⟨g, 0, none⟩) ∧ Blk wx g 24 (natsV .u64 lw) ∧ Blk wx G15 24 (natsV .u64 lm) ∧ Blk wx G53 24 (natsV .u64 lub) ∧ Below w.heap.size w wx)
  case first =>
    as_aux_lemma =>
    refine wp_region_held_drew (S := (fun w' => w'.rangeAt G53 0 (natsV .u64 lub) ∧ w'.rangeAt G15 0 (natsV .u64 lm))) (by kernel_rfl) ⟨blk_rangeV D55.out.drew, blk_rangeV D54.out.drew⟩ (fun hHeld => ?_)
    refine wpAnyH_take (i := 0) (oi := _) (v := _) rfl (by kernel_rfl) (by kernel_rfl) (by kernel_rfl) (fun _ _ _ h => h) (yieldsIf_load_mid (by rfl) _ _ rfl _ _ rfl _ _ (by intro w hSw; exact hSw.1) Try.underlying24 rfl i24ub) hHeld ?_
    try simp only [Act.put, List.getElem_toArray, List.getElem_cons_succ, List.getElem_cons_zero, List.setIfInBounds_toArray, List.set_cons_zero, List.set_cons_succ]
    refine wpAnyH_take (i := 1) (oi := _) (v := _) rfl (by kernel_rfl) (by kernel_rfl) (by kernel_rfl) (fun _ _ _ h => h) (yieldsIf_load_mid (by rfl) _ _ rfl _ _ rfl _ _ (by intro w hSw; exact hSw.1) Try.underlying24 rfl i24ub) hHeld ?_
    try simp only [Act.put, List.getElem_toArray, List.getElem_cons_succ, List.getElem_cons_zero, List.setIfInBounds_toArray, List.set_cons_zero, List.set_cons_succ]
    refine wpAnyH_take (i := 2) (oi := _) (v := _) rfl (by kernel_rfl) (by kernel_rfl) (by kernel_rfl) (fun _ _ _ h => h) (yieldsIf_load_mid (by rfl) _ _ rfl _ _ rfl _ _ (by intro w hSw; exact hSw.2) Try.underlying24 rfl i24m) hHeld ?_
    try simp only [Act.put, List.getElem_toArray, List.getElem_cons_succ, List.getElem_cons_zero, List.setIfInBounds_toArray, List.set_cons_zero, List.set_cons_succ]
    refine wpAnyH_take (i := 4) (oi := _) (v := _) rfl (by kernel_rfl) (by kernel_rfl) (by kernel_rfl) (fun _ _ _ h => h) (yieldsIf_load_mid (by rfl) _ _ rfl _ _ rfl _ _ (by intro w hSw; exact hSw.2) Try.underlying24 rfl i24m) hHeld ?_
    try simp only [Act.put, List.getElem_toArray, List.getElem_cons_succ, List.getElem_cons_zero, List.setIfInBounds_toArray, List.set_cons_zero, List.set_cons_succ]
    refine wpAnyH_ready (rs := [3, 6]) (by kernel_rfl) (by simp) ?_
    refine AllReadyH.cons (o := _) rfl (fun K hK => ?_) (AllReadyH.cons (o := _) rfl (fun K hK => ?_) AllReadyH.nil)
    · go_simp
      go_at_call 30
      refine (HMU.out _).mono ?_
      rintro e wx1_ ⟨rfl, hwx1_⟩
      refine hK.out _ _ (keepF2 hwx1_ hHeld) (fun hHeld2 => ?_)
      clear hK K hHeld
      have hHeld := hHeld2
      clear hHeld2
      try simp only [Act.put, List.getElem_toArray, List.getElem_cons_succ, List.getElem_cons_zero, List.setIfInBounds_toArray, List.set_cons_zero, List.set_cons_succ]
      have X2_ := Lib.hid (D55.out.drew.below' hwx1_)
      have X3_ := Lib.hid (D54.out.drew.below' hwx1_)
      have bel4_ := hbel56.drew.trans (hwx1_.mono hbel56.drew.size)
      refine wpAnyH_ready (rs := [5, 6]) (by kernel_rfl) (by simp) ?_
      refine AllReadyH.cons (o := _) rfl (fun K hK => ?_) (AllReadyH.cons (o := _) rfl (fun K hK => ?_) AllReadyH.nil)
      · go_simp
        go_at_call 23
        refine (HFO.out _).mono ?_
        rintro e wx5_ ⟨rfl, hwx5_⟩
        refine hK.out _ _ (keepF2 hwx5_ hHeld) (fun hHeld2 => ?_)
        clear hK K hHeld
        have hHeld := hHeld2
        clear hHeld2
        try simp only [Act.put, List.getElem_toArray, List.getElem_cons_succ, List.getElem_cons_zero, List.setIfInBounds_toArray, List.set_cons_zero, List.set_cons_succ]
        have X6_ := Lib.hid (X2_.out.below' hwx5_)
        have X7_ := Lib.hid (X3_.out.below' hwx5_)
        have bel8_ := bel4_.trans (hwx5_.mono bel4_.size)
        refine wpAnyH_ready (rs := [6]) (by kernel_rfl) (by simp) ?_
        refine AllReadyH.cons (o := _) rfl (fun K hK => ?_) AllReadyH.nil
        have hnb6_u := X6_.out.lt
        have hnb6_m := X7_.out.lt
        go_simp
        refine hK.out _ _ (keepF2 ((Below.refl _ _).alloc (Nat.le_refl _) _) hHeld) (fun hHeld2 => ?_)
        clear hK K hHeld
        have hHeld := hHeld2
        clear hHeld2
        try simp only [Act.put, List.getElem_toArray, List.getElem_cons_succ, List.getElem_cons_zero, List.setIfInBounds_toArray, List.set_cons_zero, List.set_cons_succ]
        obtain ⟨wy9_, hwy9_⟩ : ∃ W_ : World, W_ = (wx5_).alloc (.cells (natsV .u64 (zeros 4)).toArray 24) := ⟨_, rfl⟩
        have X10_ := Lib.hid (show Blk wy9_ G53 24 (natsV .u64 lub) from by rw [hwy9_]; exact X6_.out.alloc (.cells (natsV .u64 (zeros 4)).toArray 24))
        have X11_ := Lib.hid (show Blk wy9_ G15 24 (natsV .u64 lm) from by rw [hwy9_]; exact X7_.out.alloc (.cells (natsV .u64 (zeros 4)).toArray 24))
        have Z12_ := Lib.hid (show Blk wy9_ (wx5_.heap.size) 24 (natsV .u64 (zeros 4)) from by rw [hwy9_]; exact Blk.new _ _ _)
        have bel13_ : Below w.heap.size w wy9_ := by rw [hwy9_]; exact (bel8_.alloc bel8_.size (.cells (natsV .u64 (zeros 4)).toArray 24))
        have hHeld3 : wy9_.rangeAt G53 0 (natsV .u64 lub) ∧ wy9_.rangeAt G15 0 (natsV .u64 lm) := by rw [hwy9_]; exact hHeld
        clear hHeld
        have hHeld := hHeld3
        clear hHeld3
        refine world_as_ hwy9_ ?_
        clear hwy9_
        have hlu := X10_.out.lt
        have hlm := X11_.out.lt
        have hlz := (bel13_).size
        refine wpAnyH_ready (rs := [7]) (by kernel_rfl) (by simp) ?_
        refine AllReadyH.cons (o := _) rfl (fun K hK => ?_) AllReadyH.nil
        rw [if_pos (by rfl)]
        refine wst24 (.tmp 13) (.tmp 76) rfl (wx5_.heap.size) rfl lw rfl LW.out (zeros 4) Z12_.out rfl ?_
        refine hK.out _ _ (⟨blk_rangeV (X10_.out.row (natsV .u64 lw).toArray (show G53 ≠ (wx5_.heap.size) by first | assumption | exact Ne.symm (by assumption) | omega)), blk_rangeV (X11_.out.row (natsV .u64 lw).toArray (show G15 ≠ (wx5_.heap.size) by first | assumption | exact Ne.symm (by assumption) | omega))⟩) (fun hHeld2 => ?_)
        clear hK K hHeld
        have hHeld := hHeld2
        clear hHeld2
        try simp only [Act.put, List.getElem_toArray, List.getElem_cons_succ, List.getElem_cons_zero, List.setIfInBounds_toArray, List.set_cons_zero, List.set_cons_succ]
        refine wpAnyH_done (by kernel_rfl) ?_ _
        go_wp2_with fail
        go_meet
        exact ⟨_, rfl, Z12_.out.setRow (natsV .u64 lw), X11_.out.row _ (show G15 ≠ (wx5_.heap.size) by first | assumption | exact Ne.symm (by assumption) | omega), X10_.out.row _ (show G53 ≠ (wx5_.heap.size) by first | assumption | exact Ne.symm (by assumption) | omega), below_setRow' bel13_ (by omega) _⟩
      · have hnb6_u := X2_.out.lt
        have hnb6_m := X3_.out.lt
        go_simp
        refine hK.out _ _ (keepF2 ((Below.refl _ _).alloc (Nat.le_refl _) _) hHeld) (fun hHeld2 => ?_)
        clear hK K hHeld
        have hHeld := hHeld2
        clear hHeld2
        try simp only [Act.put, List.getElem_toArray, List.getElem_cons_succ, List.getElem_cons_zero, List.setIfInBounds_toArray, List.set_cons_zero, List.set_cons_succ]
        obtain ⟨wy14_, hwy14_⟩ : ∃ W_ : World, W_ = (wx1_).alloc (.cells (natsV .u64 (zeros 4)).toArray 24) := ⟨_, rfl⟩
        have X15_ := Lib.hid (show Blk wy14_ G53 24 (natsV .u64 lub) from by rw [hwy14_]; exact X2_.out.alloc (.cells (natsV .u64 (zeros 4)).toArray 24))
        have X16_ := Lib.hid (show Blk wy14_ G15 24 (natsV .u64 lm) from by rw [hwy14_]; exact X3_.out.alloc (.cells (natsV .u64 (zeros 4)).toArray 24))
        have Z17_ := Lib.hid (show Blk wy14_ (wx1_.heap.size) 24 (natsV .u64 (zeros 4)) from by rw [hwy14_]; exact Blk.new _ _ _)
        have bel18_ : Below w.heap.size w wy14_ := by rw [hwy14_]; exact (bel4_.alloc bel4_.size (.cells (natsV .u64 (zeros 4)).toArray 24))
        have hHeld3 : wy14_.rangeAt G53 0 (natsV .u64 lub) ∧ wy14_.rangeAt G15 0 (natsV .u64 lm) := by rw [hwy14_]; exact hHeld
        clear hHeld
        have hHeld := hHeld3
        clear hHeld3
        refine world_as_ hwy14_ ?_
        clear hwy14_
        refine wpAnyH_ready (rs := [5]) (by kernel_rfl) (by simp) ?_
        refine AllReadyH.cons (o := _) rfl (fun K hK => ?_) AllReadyH.nil
        go_simp
        go_at_call 23
        refine (HFO.out _).mono ?_
        rintro e wx19_ ⟨rfl, hwx19_⟩
        refine hK.out _ _ (keepF2 hwx19_ hHeld) (fun hHeld2 => ?_)
        clear hK K hHeld
        have hHeld := hHeld2
        clear hHeld2
        try simp only [Act.put, List.getElem_toArray, List.getElem_cons_succ, List.getElem_cons_zero, List.setIfInBounds_toArray, List.set_cons_zero, List.set_cons_succ]
        have X20_ := Lib.hid (X15_.out.below' hwx19_)
        have X21_ := Lib.hid (X16_.out.below' hwx19_)
        have X22_ := Lib.hid (Z17_.out.below' hwx19_)
        have bel23_ := bel18_.trans (hwx19_.mono bel18_.size)
        have hlu := X20_.out.lt
        have hlm := X21_.out.lt
        have hlz := (bel23_).size
        refine wpAnyH_ready (rs := [7]) (by kernel_rfl) (by simp) ?_
        refine AllReadyH.cons (o := _) rfl (fun K hK => ?_) AllReadyH.nil
        rw [if_pos (by rfl)]
        refine wst24 (.tmp 13) (.tmp 76) rfl (wx1_.heap.size) rfl lw rfl LW.out (zeros 4) X22_.out rfl ?_
        refine hK.out _ _ (⟨blk_rangeV (X20_.out.row (natsV .u64 lw).toArray (show G53 ≠ (wx1_.heap.size) by first | assumption | exact Ne.symm (by assumption) | omega)), blk_rangeV (X21_.out.row (natsV .u64 lw).toArray (show G15 ≠ (wx1_.heap.size) by first | assumption | exact Ne.symm (by assumption) | omega))⟩) (fun hHeld2 => ?_)
        clear hK K hHeld
        have hHeld := hHeld2
        clear hHeld2
        try simp only [Act.put, List.getElem_toArray, List.getElem_cons_succ, List.getElem_cons_zero, List.setIfInBounds_toArray, List.set_cons_zero, List.set_cons_succ]
        refine wpAnyH_done (by kernel_rfl) ?_ _
        go_wp2_with fail
        go_meet
        exact ⟨_, rfl, X22_.out.setRow (natsV .u64 lw), X21_.out.row _ (show G15 ≠ (wx1_.heap.size) by first | assumption | exact Ne.symm (by assumption) | omega), X20_.out.row _ (show G53 ≠ (wx1_.heap.size) by first | assumption | exact Ne.symm (by assumption) | omega), below_setRow' bel23_ (by omega) _⟩
    · have hnb6_u := D55.out.drew.lt
      have hnb6_m := D54.out.drew.lt
      go_simp
      refine hK.out _ _ (keepF2 ((Below.refl _ _).alloc (Nat.le_refl _) _) hHeld) (fun hHeld2 => ?_)
      clear hK K hHeld
      have hHeld := hHeld2
      clear hHeld2
      try simp only [Act.put, List.getElem_toArray, List.getElem_cons_succ, List.getElem_cons_zero, List.setIfInBounds_toArray, List.set_cons_zero, List.set_cons_succ]
      obtain ⟨wy24_, hwy24_⟩ : ∃ W_ : World, W_ = (w48.drew).alloc (.cells (natsV .u64 (zeros 4)).toArray 24) := ⟨_, rfl⟩
      have X25_ := Lib.hid (show Blk wy24_ G53 24 (natsV .u64 lub) from by rw [hwy24_]; exact D55.out.drew.alloc (.cells (natsV .u64 (zeros 4)).toArray 24))
      have X26_ := Lib.hid (show Blk wy24_ G15 24 (natsV .u64 lm) from by rw [hwy24_]; exact D54.out.drew.alloc (.cells (natsV .u64 (zeros 4)).toArray 24))
      have Z27_ := Lib.hid (show Blk wy24_ (w48.drew.heap.size) 24 (natsV .u64 (zeros 4)) from by rw [hwy24_]; exact Blk.new _ _ _)
      have bel28_ : Below w.heap.size w wy24_ := by rw [hwy24_]; exact (hbel56.drew.alloc hbel56.drew.size (.cells (natsV .u64 (zeros 4)).toArray 24))
      have hHeld3 : wy24_.rangeAt G53 0 (natsV .u64 lub) ∧ wy24_.rangeAt G15 0 (natsV .u64 lm) := by rw [hwy24_]; exact hHeld
      clear hHeld
      have hHeld := hHeld3
      clear hHeld3
      refine world_as_ hwy24_ ?_
      clear hwy24_
      refine wpAnyH_ready (rs := [3]) (by kernel_rfl) (by simp) ?_
      refine AllReadyH.cons (o := _) rfl (fun K hK => ?_) AllReadyH.nil
      go_simp
      go_at_call 30
      refine (HMU.out _).mono ?_
      rintro e wx29_ ⟨rfl, hwx29_⟩
      refine hK.out _ _ (keepF2 hwx29_ hHeld) (fun hHeld2 => ?_)
      clear hK K hHeld
      have hHeld := hHeld2
      clear hHeld2
      try simp only [Act.put, List.getElem_toArray, List.getElem_cons_succ, List.getElem_cons_zero, List.setIfInBounds_toArray, List.set_cons_zero, List.set_cons_succ]
      have X30_ := Lib.hid (X25_.out.below' hwx29_)
      have X31_ := Lib.hid (X26_.out.below' hwx29_)
      have X32_ := Lib.hid (Z27_.out.below' hwx29_)
      have bel33_ := bel28_.trans (hwx29_.mono bel28_.size)
      refine wpAnyH_ready (rs := [5]) (by kernel_rfl) (by simp) ?_
      refine AllReadyH.cons (o := _) rfl (fun K hK => ?_) AllReadyH.nil
      go_simp
      go_at_call 23
      refine (HFO.out _).mono ?_
      rintro e wx34_ ⟨rfl, hwx34_⟩
      refine hK.out _ _ (keepF2 hwx34_ hHeld) (fun hHeld2 => ?_)
      clear hK K hHeld
      have hHeld := hHeld2
      clear hHeld2
      try simp only [Act.put, List.getElem_toArray, List.getElem_cons_succ, List.getElem_cons_zero, List.setIfInBounds_toArray, List.set_cons_zero, List.set_cons_succ]
      have X35_ := Lib.hid (X30_.out.below' hwx34_)
      have X36_ := Lib.hid (X31_.out.below' hwx34_)
      have X37_ := Lib.hid (X32_.out.below' hwx34_)
      have bel38_ := bel33_.trans (hwx34_.mono bel33_.size)
      have hlu := X35_.out.lt
      have hlm := X36_.out.lt
      have hlz := (bel38_).size
      refine wpAnyH_ready (rs := [7]) (by kernel_rfl) (by simp) ?_
      refine AllReadyH.cons (o := _) rfl (fun K hK => ?_) AllReadyH.nil
      rw [if_pos (by rfl)]
      refine wst24 (.tmp 13) (.tmp 76) rfl (w48.drew.heap.size) rfl lw rfl LW.out (zeros 4) X37_.out rfl ?_
      refine hK.out _ _ (⟨blk_rangeV (X35_.out.row (natsV .u64 lw).toArray (show G53 ≠ (w48.drew.heap.size) by first | assumption | exact Ne.symm (by assumption) | omega)), blk_rangeV (X36_.out.row (natsV .u64 lw).toArray (show G15 ≠ (w48.drew.heap.size) by first | assumption | exact Ne.symm (by assumption) | omega))⟩) (fun hHeld2 => ?_)
      clear hK K hHeld
      have hHeld := hHeld2
      clear hHeld2
      try simp only [Act.put, List.getElem_toArray, List.getElem_cons_succ, List.getElem_cons_zero, List.setIfInBounds_toArray, List.set_cons_zero, List.set_cons_succ]
      refine wpAnyH_done (by kernel_rfl) ?_ _
      go_wp2_with fail
      go_meet
      exact ⟨_, rfl, X37_.out.setRow (natsV .u64 lw), X36_.out.row _ (show G15 ≠ (w48.drew.heap.size) by first | assumption | exact Ne.symm (by assumption) | omega), X35_.out.row _ (show G53 ≠ (w48.drew.heap.size) by first | assumption | exact Ne.symm (by assumption) | omega), below_setRow' bel38_ (by omega) _⟩
  case rest =>
  obtain ⟨g13, rfl, k1, k2, k3, hbelc⟩ := hcut
  have C1_ := Lib.hid k1
  have C2_ := Lib.hid k2
  have C3_ := Lib.hid k3
  clear k1 k2 k3 D54 D55
  as_aux_lemma =>
  go_wp2_with (first | (refine ld24 rfl (.tmp 13) rfl g13 rfl lw C1_.out LW.out ?_))
  refine (HR2.out _).mono ?_
  rintro e w57 ⟨rfl, hbw57⟩
  have C58 := Lib.hid (C1_.out.below' hbw57)
  have C59 := Lib.hid (C2_.out.below' hbw57)
  have C60 := Lib.hid (C3_.out.below' hbw57)
  have hbel61 := hbelc.trans (hbw57.mono hbelc.size)
  clear C1_ C2_ C3_ hbw57 hbelc
  have Z63 := Lib.hid (Blk.new w57 24 (natsV .u64 (zeros 4)))
  have hz64 := Lib.hid (below_setRow' (hbel61.alloc hbel61.size (.cells (natsV .u64 (zeros 4)).toArray 24)) hbel61.size (natsV .u64 lt).toArray)
  have Y65 := Lib.hid ((C58.out.alloc (.cells (natsV .u64 (zeros 4)).toArray 24)).row (natsV .u64 lt).toArray (Nat.ne_of_lt C58.out.lt))
  have Y66 := Lib.hid ((C59.out.alloc (.cells (natsV .u64 (zeros 4)).toArray 24)).row (natsV .u64 lt).toArray (Nat.ne_of_lt C59.out.lt))
  have Y67 := Lib.hid ((C60.out.alloc (.cells (natsV .u64 (zeros 4)).toArray 24)).row (natsV .u64 lt).toArray (Nat.ne_of_lt C60.out.lt))
  have Y68 := Lib.hid (Z63.out.setRow (natsV .u64 lt))
  go_wp2_with (first | (refine st24 rfl (.tmp 14) (.tmp 80) rfl w57.heap.size rfl lt rfl LT.out (zeros 4) Z63.out rfl ?_; generalize hW : World.setRow _ _ _ = w62; have D70 := Lib.hid (show Blk w62 g13 24 (natsV .u64 lw) from (by rw [← hW]; exact Y65.out)); have D71 := Lib.hid (show Blk w62 G15 24 (natsV .u64 lm) from (by rw [← hW]; exact Y66.out)); have D72 := Lib.hid (show Blk w62 G53 24 (natsV .u64 lub) from (by rw [← hW]; exact Y67.out)); have D73 := Lib.hid (show Blk w62 w57.heap.size 24 (natsV .u64 lt) from (by rw [← hW]; exact Y68.out)); have LE_D73 := (hbel61).size; have NE_D70 := Nat.ne_of_lt C58.out.lt; have NE_D71 := Nat.ne_of_lt C59.out.lt; have NE_D72 := Nat.ne_of_lt C60.out.lt; have hbel74 : Below w.heap.size w w62 := (by rw [← hW]; exact hz64.out); clear hW Z63 hz64 C58 C59 C60 Y65 Y66 Y67 Y68 hbel61; generalize w57.heap.size = G69 at *) | (refine ld24 rfl (.tmp 14) rfl G69 rfl lt D73.out LT.out ?_))
  refine (HOU.out _).mono ?_
  rintro e w75 ⟨rfl, hbw75⟩
  have C76 := Lib.hid (D70.out.below' hbw75)
  have C77 := Lib.hid (D71.out.below' hbw75)
  have C78 := Lib.hid (D72.out.below' hbw75)
  have C79 := Lib.hid (D73.out.below' hbw75)
  have hbel80 := hbel74.trans (hbw75.mono hbel74.size)
  clear D70 D71 D72 D73 hbw75 hbel74
  have Z82 := Lib.hid (Blk.new w75 24 (natsV .u64 (zeros 4)))
  have hz83 := Lib.hid (below_setRow' (hbel80.alloc hbel80.size (.cells (natsV .u64 (zeros 4)).toArray 24)) hbel80.size (natsV .u64 lub).toArray)
  have Y84 := Lib.hid ((C76.out.alloc (.cells (natsV .u64 (zeros 4)).toArray 24)).row (natsV .u64 lub).toArray (Nat.ne_of_lt C76.out.lt))
  have Y85 := Lib.hid ((C77.out.alloc (.cells (natsV .u64 (zeros 4)).toArray 24)).row (natsV .u64 lub).toArray (Nat.ne_of_lt C77.out.lt))
  have Y86 := Lib.hid ((C78.out.alloc (.cells (natsV .u64 (zeros 4)).toArray 24)).row (natsV .u64 lub).toArray (Nat.ne_of_lt C78.out.lt))
  have Y87 := Lib.hid ((C79.out.alloc (.cells (natsV .u64 (zeros 4)).toArray 24)).row (natsV .u64 lub).toArray (Nat.ne_of_lt C79.out.lt))
  have Y88 := Lib.hid (Z82.out.setRow (natsV .u64 lub))
  have q := eqS lub LUB.out
  go_wp2_with (first | (refine st24 rfl (.tmp 16) (.tmp 85) rfl w75.heap.size rfl lub rfl LV.out (zeros 4) Z82.out rfl ?_; generalize hW : World.setRow _ _ _ = w81; have D90 := Lib.hid (show Blk w81 g13 24 (natsV .u64 lw) from (by rw [← hW]; exact Y84.out)); have D91 := Lib.hid (show Blk w81 G15 24 (natsV .u64 lm) from (by rw [← hW]; exact Y85.out)); have D92 := Lib.hid (show Blk w81 G53 24 (natsV .u64 lub) from (by rw [← hW]; exact Y86.out)); have D93 := Lib.hid (show Blk w81 G69 24 (natsV .u64 lt) from (by rw [← hW]; exact Y87.out)); have D94 := Lib.hid (show Blk w81 w75.heap.size 24 (natsV .u64 lub) from (by rw [← hW]; exact Y88.out)); have LE_D94 := (hbel80).size; have NE_D90 := Nat.ne_of_lt C76.out.lt; have NE_D91 := Nat.ne_of_lt C77.out.lt; have NE_D92 := Nat.ne_of_lt C78.out.lt; have NE_D93 := Nat.ne_of_lt C79.out.lt; have hbel95 : Below w.heap.size w w81 := (by rw [← hW]; exact hz83.out); clear hW Z82 hz83 C76 C77 C78 C79 Y84 Y85 Y86 Y87 Y88 hbel80; generalize w75.heap.size = G89 at *; have c0 := D94.out.nat 0 (by rw [LV.out]; decide); rw [V0] at c0) | (refine ldw 24 (.tmp 16) rfl G89 rfl .u64 lub D94.out _ _ Try.underlying24 (by rw [info24, LV.out]) 14 rfl 101 rfl rfl ?_) | (refine ldw 24 (.tmp 12) rfl G53 rfl .u64 lub D92.out _ _ Try.underlying24 (by rw [info24, LUB.out]) 14 rfl 101 rfl rfl ?_; as_aux_lemma => (go_wp2_with fail; go_ret; exact ⟨rfl, hbel95⟩)))
set_option maxRecDepth 100000 in
set_option maxHeartbeats 3200000 in
theorem roots5_12 (a b : Nat) (w : World) (ha : a < 2 ^ 256) (hb : b < 2 ^ 256) (hc : ¬ a < mP) (hv : rN (b % mP * (b % mP) % mP) ≠ b % mP) :
    Calls Try.prog 8 #[.agg (natsV .u64 (wds 4 a)).toArray, .agg (natsV .u64 (wds 4 b)).toArray] w fun e w' => e = .returned (.bool true) ∧ Below w.heap.size w w' := by
  have H := fld_P
  have hm := H.lt
  have hgt := H.gt
  have HP := Lib.hid DP_any
  have HL := Lib.hid (fun w => Less_any a mP w ha hm)
  rw [decide_eq_false hc] at HL
  have HR1 := Lib.hid (fun w => Root_no a w ha (fun h => hc h.1))
  have HRS := Lib.hid (fun w => Rest_any b mP false w hm hb (by simp; omega))
  rw [show (b + 2 ^ 256 * false.toNat) % mP = b % mP by simp] at HRS
  have hub : b % mP < mP := Nat.mod_lt _ mP_pos
  generalize b % mP = ub at *
  have HMU := Lib.hid (fun w => Mul5_any ub ub mP w (Nat.lt_trans hub hm) (Nat.lt_trans hub hm) hm hgt)
  have hok := okR_sq ub hub
  have hsq := rN_sq _ hok
  have hwl : ub * ub % mP < mP := Nat.mod_lt _ mP_pos
  obtain ⟨W0, hW0⟩ : ∃ W0, W0 = ub * ub % mP := ⟨_, rfl⟩
  rw [← hW0] at HMU hok hsq hwl hv
  have HFO := Lib.hid (fun w => Form_any W0 mP 1 vP w H hwl)
  have hof : ofF mP vP (toF mP W0) = W0 := by rw [H.of_to, Nat.mod_eq_of_lt hwl]
  have HR2 := Lib.hid (fun w => Root_good (toF mP W0) w (toF_lt H W0) (by rw [hof]; exact hok))
  rw [hof] at HR2
  have HOU := Lib.hid (fun w => Out_ok 1 mP 1 vP (toF mP (rN W0)) w H (Nat.lt_trans (toF_lt H _) hm) (pok_1 1 mP 1 vP _ .p (toF_lt H _)))
  rw [H.of_to, Nat.mod_eq_of_lt (rN_lt W0)] at HOU
  have e0 := dgt0_odd (rN W0)
  rw [rN_even W0] at e0
  have V0 := wds_at 4 (rN W0) 0 (by omega)
  generalize dgt (2 ^ 64) (rN W0) 0 = d0 at *
  have hi0 : (d0 : Int) % 2 = 0 := by omega
  have LT := Lib.hid (wds_len 4 (toF mP (rN W0)))
  have LW := Lib.hid (wds_len 4 (toF mP W0))
  have LV := Lib.hid (wds_len 4 (rN W0))
  have LUB := Lib.hid (wds_len 4 ub)
  have LM := Lib.hid (wds_len 4 mP)
  have hsum : (rN W0 + ub) % mP = 0 := two_roots (rN W0) ub (rN_lt W0) hub (by rw [hsq, hW0]) hv
  have HDA := Lib.hid (fun w => DAdd_any (rN W0) ub mP w hm (rN_lt W0) hub)
  rw [hsum, num_zero] at HDA
  have QV := Lib.hid (fun w => show (binOp .eql 24 (.agg (natsV .u64 (wds 4 (rN W0))).toArray) (.agg (natsV .u64 (wds 4 ub)).toArray)).run Try.prog w = .ok (.bool false) w from by
    rw [eql24 _ _ (wds_len 4 _) (wds_len 4 _), wds_inj 4 _ ub (Nat.lt_trans (rN_lt W0) hm) (Nat.lt_trans hub hm), decide_eq_false hv])
  generalize wds 4 (toF mP (rN W0)) = lt at *
  generalize wds 4 (rN W0) = lv at *
  generalize wds 4 (toF mP W0) = lw at *
  generalize wds 4 W0 = lw0 at *
  generalize wds 4 ub = lub at *
  generalize wds 4 mP = lm at *
  clear H hm hgt hub hok hsq hwl hof e0 hv hc hW0 hsum
  have LA := Lib.hid (wds_len 4 a)
  have LB := Lib.hid (wds_len 4 b)
  generalize wds 4 a = la at *
  generalize wds 4 b = lb at *
  clear ha hb
  have i24m : (Try.prog.info? 24).map (·.size) = some (natsV .u64 lm).length := by rw [info24, natsV_length, LM.out]
  have i24ub : (Try.prog.info? 24).map (·.size) = some (natsV .u64 lub).length := by rw [info24, natsV_length, LUB.out]
  have B1 := Lib.hid ((Blk.new w 24 (natsV .u64 la)).alloc (.cells (natsV .u64 lb).toArray 24))
  have B2 := Lib.hid (Blk.new2 w (.cells (natsV .u64 la).toArray 24) 24 (natsV .u64 lb))
  have BEL := Lib.hid (((Below.refl w.heap.size w).alloc (Nat.le_refl _) (.cells (natsV .u64 la).toArray 24)).alloc (by simp) (.cells (natsV .u64 lb).toArray 24))
  go_enter Try.func8, Try.ntmps8
  go_wp2_with fail
  refine (fawake_any _).mono ?_
  rintro e w1 ⟨rfl, hbw1⟩
  have C2 := Lib.hid (B1.out.below' hbw1)
  have C3 := Lib.hid (B2.out.below' hbw1)
  have hbel4 := BEL.out.trans (hbw1.mono BEL.out.size)
  clear B1 B2 hbw1
  go_wp2_with fail
  refine (HP.out _).mono ?_
  rintro e w5 ⟨rfl, hbw5⟩
  have C6 := Lib.hid (C2.out.below' hbw5)
  have C7 := Lib.hid (C3.out.below' hbw5)
  have hbel8 := hbel4.trans (hbw5.mono hbel4.size)
  clear C2 C3 hbw5 hbel4
  have Z10 := Lib.hid (Blk.new w5 24 (natsV .u64 (zeros 4)))
  have hz11 := Lib.hid (below_setRow' (hbel8.alloc hbel8.size (.cells (natsV .u64 (zeros 4)).toArray 24)) hbel8.size (natsV .u64 lm).toArray)
  have Y12 := Lib.hid ((C6.out.alloc (.cells (natsV .u64 (zeros 4)).toArray 24)).row (natsV .u64 lm).toArray (Nat.ne_of_lt C6.out.lt))
  have Y13 := Lib.hid ((C7.out.alloc (.cells (natsV .u64 (zeros 4)).toArray 24)).row (natsV .u64 lm).toArray (Nat.ne_of_lt C7.out.lt))
  have Y14 := Lib.hid (Z10.out.setRow (natsV .u64 lm))
  go_wp2_with (first | (refine st24 rfl (.tmp 6) (.tmp 19) rfl w5.heap.size rfl lm rfl LM.out (zeros 4) Z10.out rfl ?_; generalize hW : World.setRow _ _ _ = w9; have D16 := Lib.hid (show Blk w9 w.heap.size 24 (natsV .u64 la) from (by rw [← hW]; exact Y12.out)); have D17 := Lib.hid (show Blk w9 (w.heap.size + 1) 24 (natsV .u64 lb) from (by rw [← hW]; exact Y13.out)); have D18 := Lib.hid (show Blk w9 w5.heap.size 24 (natsV .u64 lm) from (by rw [← hW]; exact Y14.out)); have LE_D18 := (hbel8).size; have NE_D16 := Nat.ne_of_lt C6.out.lt; have NE_D17 := Nat.ne_of_lt C7.out.lt; have hbel19 : Below w.heap.size w w9 := (by rw [← hW]; exact hz11.out); clear hW Z10 hz11 C6 C7 Y12 Y13 Y14 hbel8; generalize w5.heap.size = G15 at *) | (refine ld24 rfl (.tmp 2) rfl w.heap.size rfl la D16.out LA.out ?_))
  refine (HR1.out _).mono ?_
  rintro e w20 ⟨rfl, hbw20⟩
  have C21 := Lib.hid (D16.out.below' hbw20)
  have C22 := Lib.hid (D17.out.below' hbw20)
  have C23 := Lib.hid (D18.out.below' hbw20)
  have hbel24 := hbel19.trans (hbw20.mono hbel19.size)
  clear D16 D17 D18 hbw20 hbel19
  have Z26 := Lib.hid (Blk.new w20 24 (natsV .u64 (zeros 4)))
  have hz27 := Lib.hid (below_setRow' (hbel24.alloc hbel24.size (.cells (natsV .u64 (zeros 4)).toArray 24)) hbel24.size (natsV .u64 (zeros 4)).toArray)
  have Y28 := Lib.hid ((C21.out.alloc (.cells (natsV .u64 (zeros 4)).toArray 24)).row (natsV .u64 (zeros 4)).toArray (Nat.ne_of_lt C21.out.lt))
  have Y29 := Lib.hid ((C22.out.alloc (.cells (natsV .u64 (zeros 4)).toArray 24)).row (natsV .u64 (zeros 4)).toArray (Nat.ne_of_lt C22.out.lt))
  have Y30 := Lib.hid ((C23.out.alloc (.cells (natsV .u64 (zeros 4)).toArray 24)).row (natsV .u64 (zeros 4)).toArray (Nat.ne_of_lt C23.out.lt))
  have Y31 := Lib.hid (Z26.out.setRow (natsV .u64 (zeros 4)))
  go_wp2_with (first | (refine st24 rfl (.tmp 7) (.tmp 23) rfl w20.heap.size rfl (zeros 4) rfl rfl (zeros 4) Z26.out rfl ?_; generalize hW : World.setRow _ _ _ = w25; have D33 := Lib.hid (show Blk w25 w.heap.size 24 (natsV .u64 la) from (by rw [← hW]; exact Y28.out)); have D34 := Lib.hid (show Blk w25 (w.heap.size + 1) 24 (natsV .u64 lb) from (by rw [← hW]; exact Y29.out)); have D35 := Lib.hid (show Blk w25 G15 24 (natsV .u64 lm) from (by rw [← hW]; exact Y30.out)); have D36 := Lib.hid (show Blk w25 w20.heap.size 24 (natsV .u64 (zeros 4)) from (by rw [← hW]; exact Y31.out)); have LE_D36 := (hbel24).size; have NE_D33 := Nat.ne_of_lt C21.out.lt; have NE_D34 := Nat.ne_of_lt C22.out.lt; have NE_D35 := Nat.ne_of_lt C23.out.lt; have hbel37 : Below w.heap.size w w25 := (by rw [← hW]; exact hz27.out); clear hW Z26 hz27 C21 C22 C23 Y28 Y29 Y30 Y31 hbel24; generalize w20.heap.size = G32 at *) | (refine ld24 rfl (.tmp 2) rfl w.heap.size rfl la D33.out LA.out ?_) | (refine ld24 rfl (.tmp 6) rfl G15 rfl lm D35.out LM.out ?_))
  refine (HL.out _).mono ?_
  rintro e w38 ⟨rfl, hbw38⟩
  have C39 := Lib.hid (D33.out.below' hbw38)
  have C40 := Lib.hid (D34.out.below' hbw38)
  have C41 := Lib.hid (D35.out.below' hbw38)
  have C42 := Lib.hid (D36.out.below' hbw38)
  have hbel43 := hbel37.trans (hbw38.mono hbel37.size)
  clear D33 D34 D35 D36 hbw38 hbel37
  as_aux_lemma =>
  have q := neZ
  go_wp2_with (first | (refine ldn 24 (.tmp 7) rfl G32 rfl .u64 (zeros 4) C42.out _ _ Try.underlying24 (by rw [info24]; rfl) 4 rfl 32 rfl rfl ?_) | (refine ld24 rfl (.tmp 3) rfl (w.heap.size + 1) rfl lb C40.out LB.out ?_) | (refine ld24 rfl (.tmp 6) rfl G15 rfl lm C41.out LM.out ?_))
  clear q
  clear C42 C39
  refine (HRS.out _).mono ?_
  rintro e w44 ⟨rfl, hbw44⟩
  have C45 := Lib.hid (C40.out.below' hbw44)
  have C46 := Lib.hid (C41.out.below' hbw44)
  have hbel47 := hbel43.trans (hbw44.mono hbel43.size)
  clear C40 C41 hbw44 hbel43
  clear C45
  have Z49 := Lib.hid (Blk.new w44 24 (natsV .u64 (zeros 4)))
  have hz50 := Lib.hid (below_setRow' (hbel47.alloc hbel47.size (.cells (natsV .u64 (zeros 4)).toArray 24)) hbel47.size (natsV .u64 lub).toArray)
  have Y51 := Lib.hid ((C46.out.alloc (.cells (natsV .u64 (zeros 4)).toArray 24)).row (natsV .u64 lub).toArray (Nat.ne_of_lt C46.out.lt))
  have Y52 := Lib.hid (Z49.out.setRow (natsV .u64 lub))
  go_upto_region 12 with (first | (refine st24 rfl (.tmp 12) (.tmp 70) rfl w44.heap.size rfl lub rfl LUB.out (zeros 4) Z49.out rfl ?_; generalize hW : World.setRow _ _ _ = w48; have D54 := Lib.hid (show Blk w48 G15 24 (natsV .u64 lm) from (by rw [← hW]; exact Y51.out)); have D55 := Lib.hid (show Blk w48 w44.heap.size 24 (natsV .u64 lub) from (by rw [← hW]; exact Y52.out)); have LE_D55 := (hbel47).size; have NE_D54 := Nat.ne_of_lt C46.out.lt; have hbel56 : Below w.heap.size w w48 := (by rw [← hW]; exact hz50.out); clear hW Z49 hz50 C46 Y51 Y52 hbel47; generalize w44.heap.size = G53 at *))
  try simp only [Act.put]
  go_cut [13] (fun v13 wx => ∃ g : Nat, v13 = .pointer (some ⟨g, 0, none⟩) ∧ Blk wx g 24 (natsV .u64 lw) ∧ Blk wx G15 24 (natsV .u64 lm) ∧ Blk wx G53 24 (natsV .u64 lub) ∧ Below w.heap.size w wx)
  case first =>
    as_aux_lemma =>
    refine wp_region_held_drew (S := (fun w' => w'.rangeAt G53 0 (natsV .u64 lub) ∧ w'.rangeAt G15 0 (natsV .u64 lm))) (by kernel_rfl) ⟨blk_rangeV D55.out.drew, blk_rangeV D54.out.drew⟩ (fun hHeld => ?_)
    refine wpAnyH_take (i := 0) (oi := _) (v := _) rfl (by kernel_rfl) (by kernel_rfl) (by kernel_rfl) (fun _ _ _ h => h) (yieldsIf_load_mid (by rfl) _ _ rfl _ _ rfl _ _ (by intro w hSw; exact hSw.1) Try.underlying24 rfl i24ub) hHeld ?_
    try simp only [Act.put, List.getElem_toArray, List.getElem_cons_succ, List.getElem_cons_zero, List.setIfInBounds_toArray, List.set_cons_zero, List.set_cons_succ]
    refine wpAnyH_take (i := 1) (oi := _) (v := _) rfl (by kernel_rfl) (by kernel_rfl) (by kernel_rfl) (fun _ _ _ h => h) (yieldsIf_load_mid (by rfl) _ _ rfl _ _ rfl _ _ (by intro w hSw; exact hSw.1) Try.underlying24 rfl i24ub) hHeld ?_
    try simp only [Act.put, List.getElem_toArray, List.getElem_cons_succ, List.getElem_cons_zero, List.setIfInBounds_toArray, List.set_cons_zero, List.set_cons_succ]
    refine wpAnyH_take (i := 2) (oi := _) (v := _) rfl (by kernel_rfl) (by kernel_rfl) (by kernel_rfl) (fun _ _ _ h => h) (yieldsIf_load_mid (by rfl) _ _ rfl _ _ rfl _ _ (by intro w hSw; exact hSw.2) Try.underlying24 rfl i24m) hHeld ?_
    try simp only [Act.put, List.getElem_toArray, List.getElem_cons_succ, List.getElem_cons_zero, List.setIfInBounds_toArray, List.set_cons_zero, List.set_cons_succ]
    refine wpAnyH_take (i := 4) (oi := _) (v := _) rfl (by kernel_rfl) (by kernel_rfl) (by kernel_rfl) (fun _ _ _ h => h) (yieldsIf_load_mid (by rfl) _ _ rfl _ _ rfl _ _ (by intro w hSw; exact hSw.2) Try.underlying24 rfl i24m) hHeld ?_
    try simp only [Act.put, List.getElem_toArray, List.getElem_cons_succ, List.getElem_cons_zero, List.setIfInBounds_toArray, List.set_cons_zero, List.set_cons_succ]
    refine wpAnyH_ready (rs := [3, 6]) (by kernel_rfl) (by simp) ?_
    refine AllReadyH.cons (o := _) rfl (fun K hK => ?_) (AllReadyH.cons (o := _) rfl (fun K hK => ?_) AllReadyH.nil)
    · go_simp
      go_at_call 30
      refine (HMU.out _).mono ?_
      rintro e wx1_ ⟨rfl, hwx1_⟩
      refine hK.out _ _ (keepF2 hwx1_ hHeld) (fun hHeld2 => ?_)
      clear hK K hHeld
      have hHeld := hHeld2
      clear hHeld2
      try simp only [Act.put, List.getElem_toArray, List.getElem_cons_succ, List.getElem_cons_zero, List.setIfInBounds_toArray, List.set_cons_zero, List.set_cons_succ]
      have X2_ := Lib.hid (D55.out.drew.below' hwx1_)
      have X3_ := Lib.hid (D54.out.drew.below' hwx1_)
      have bel4_ := hbel56.drew.trans (hwx1_.mono hbel56.drew.size)
      refine wpAnyH_ready (rs := [5, 6]) (by kernel_rfl) (by simp) ?_
      refine AllReadyH.cons (o := _) rfl (fun K hK => ?_) (AllReadyH.cons (o := _) rfl (fun K hK => ?_) AllReadyH.nil)
      · go_simp
        go_at_call 23
        refine (HFO.out _).mono ?_
        rintro e wx5_ ⟨rfl, hwx5_⟩
        refine hK.out _ _ (keepF2 hwx5_ hHeld) (fun hHeld2 => ?_)
        clear hK K hHeld
        have hHeld := hHeld2
        clear hHeld2
        try simp only [Act.put, List.getElem_toArray, List.getElem_cons_succ, List.getElem_cons_zero, List.setIfInBounds_toArray, List.set_cons_zero, List.set_cons_succ]
        have X6_ := Lib.hid (X2_.out.below' hwx5_)
        have X7_ := Lib.hid (X3_.out.below' hwx5_)
        have bel8_ := bel4_.trans (hwx5_.mono bel4_.size)
        refine wpAnyH_ready (rs := [6]) (by kernel_rfl) (by simp) ?_
        refine AllReadyH.cons (o := _) rfl (fun K hK => ?_) AllReadyH.nil
        have hnb6_u := X6_.out.lt
        have hnb6_m := X7_.out.lt
        go_simp
        refine hK.out _ _ (keepF2 ((Below.refl _ _).alloc (Nat.le_refl _) _) hHeld) (fun hHeld2 => ?_)
        clear hK K hHeld
        have hHeld := hHeld2
        clear hHeld2
        try simp only [Act.put, List.getElem_toArray, List.getElem_cons_succ, List.getElem_cons_zero, List.setIfInBounds_toArray, List.set_cons_zero, List.set_cons_succ]
        obtain ⟨wy9_, hwy9_⟩ : ∃ W_ : World, W_ = (wx5_).alloc (.cells (natsV .u64 (zeros 4)).toArray 24) := ⟨_, rfl⟩
        have X10_ := Lib.hid (show Blk wy9_ G53 24 (natsV .u64 lub) from by rw [hwy9_]; exact X6_.out.alloc (.cells (natsV .u64 (zeros 4)).toArray 24))
        have X11_ := Lib.hid (show Blk wy9_ G15 24 (natsV .u64 lm) from by rw [hwy9_]; exact X7_.out.alloc (.cells (natsV .u64 (zeros 4)).toArray 24))
        have Z12_ := Lib.hid (show Blk wy9_ (wx5_.heap.size) 24 (natsV .u64 (zeros 4)) from by rw [hwy9_]; exact Blk.new _ _ _)
        have bel13_ : Below w.heap.size w wy9_ := by rw [hwy9_]; exact (bel8_.alloc bel8_.size (.cells (natsV .u64 (zeros 4)).toArray 24))
        have hHeld3 : wy9_.rangeAt G53 0 (natsV .u64 lub) ∧ wy9_.rangeAt G15 0 (natsV .u64 lm) := by rw [hwy9_]; exact hHeld
        clear hHeld
        have hHeld := hHeld3
        clear hHeld3
        refine world_as_ hwy9_ ?_
        clear hwy9_
        have hlu := X10_.out.lt
        have hlm := X11_.out.lt
        have hlz := (bel13_).size
        refine wpAnyH_ready (rs := [7]) (by kernel_rfl) (by simp) ?_
        refine AllReadyH.cons (o := _) rfl (fun K hK => ?_) AllReadyH.nil
        rw [if_pos (by rfl)]
        refine wst24 (.tmp 13) (.tmp 76) rfl (wx5_.heap.size) rfl lw rfl LW.out (zeros 4) Z12_.out rfl ?_
        refine hK.out _ _ (⟨blk_rangeV (X10_.out.row (natsV .u64 lw).toArray (show G53 ≠ (wx5_.heap.size) by first | assumption | exact Ne.symm (by assumption) | omega)), blk_rangeV (X11_.out.row (natsV .u64 lw).toArray (show G15 ≠ (wx5_.heap.size) by first | assumption | exact Ne.symm (by assumption) | omega))⟩) (fun hHeld2 => ?_)
        clear hK K hHeld
        have hHeld := hHeld2
        clear hHeld2
        try simp only [Act.put, List.getElem_toArray, List.getElem_cons_succ, List.getElem_cons_zero, List.setIfInBounds_toArray, List.set_cons_zero, List.set_cons_succ]
        refine wpAnyH_done (by kernel_rfl) ?_ _
        go_wp2_with fail
        go_meet
        exact ⟨_, rfl, Z12_.out.setRow (natsV .u64 lw), X11_.out.row _ (show G15 ≠ (wx5_.heap.size) by first | assumption | exact Ne.symm (by assumption) | omega), X10_.out.row _ (show G53 ≠ (wx5_.heap.size) by first | assumption | exact Ne.symm (by assumption) | omega), below_setRow' bel13_ (by omega) _⟩
      · have hnb6_u := X2_.out.lt
        have hnb6_m := X3_.out.lt
        go_simp
        refine hK.out _ _ (keepF2 ((Below.refl _ _).alloc (Nat.le_refl _) _) hHeld) (fun hHeld2 => ?_)
        clear hK K hHeld
        have hHeld := hHeld2
        clear hHeld2
        try simp only [Act.put, List.getElem_toArray, List.getElem_cons_succ, List.getElem_cons_zero, List.setIfInBounds_toArray, List.set_cons_zero, List.set_cons_succ]
        obtain ⟨wy14_, hwy14_⟩ : ∃ W_ : World, W_ = (wx1_).alloc (.cells (natsV .u64 (zeros 4)).toArray 24) := ⟨_, rfl⟩
        have X15_ := Lib.hid (show Blk wy14_ G53 24 (natsV .u64 lub) from by rw [hwy14_]; exact X2_.out.alloc (.cells (natsV .u64 (zeros 4)).toArray 24))
        have X16_ := Lib.hid (show Blk wy14_ G15 24 (natsV .u64 lm) from by rw [hwy14_]; exact X3_.out.alloc (.cells (natsV .u64 (zeros 4)).toArray 24))
        have Z17_ := Lib.hid (show Blk wy14_ (wx1_.heap.size) 24 (natsV .u64 (zeros 4)) from by rw [hwy14_]; exact Blk.new _ _ _)
        have bel18_ : Below w.heap.size w wy14_ := by rw [hwy14_]; exact (bel4_.alloc bel4_.size (.cells (natsV .u64 (zeros 4)).toArray 24))
        have hHeld3 : wy14_.rangeAt G53 0 (natsV .u64 lub) ∧ wy14_.rangeAt G15 0 (natsV .u64 lm) := by rw [hwy14_]; exact hHeld
        clear hHeld
        have hHeld := hHeld3
        clear hHeld3
        refine world_as_ hwy14_ ?_
        clear hwy14_
        refine wpAnyH_ready (rs := [5]) (by kernel_rfl) (by simp) ?_
        refine AllReadyH.cons (o := _) rfl (fun K hK => ?_) AllReadyH.nil
        go_simp
        go_at_call 23
        refine (HFO.out _).mono ?_
        rintro e wx19_ ⟨rfl, hwx19_⟩
        refine hK.out _ _ (keepF2 hwx19_ hHeld) (fun hHeld2 => ?_)
        clear hK K hHeld
        have hHeld := hHeld2
        clear hHeld2
        try simp only [Act.put, List.getElem_toArray, List.getElem_cons_succ, List.getElem_cons_zero, List.setIfInBounds_toArray, List.set_cons_zero, List.set_cons_succ]
        have X20_ := Lib.hid (X15_.out.below' hwx19_)
        have X21_ := Lib.hid (X16_.out.below' hwx19_)
        have X22_ := Lib.hid (Z17_.out.below' hwx19_)
        have bel23_ := bel18_.trans (hwx19_.mono bel18_.size)
        have hlu := X20_.out.lt
        have hlm := X21_.out.lt
        have hlz := (bel23_).size
        refine wpAnyH_ready (rs := [7]) (by kernel_rfl) (by simp) ?_
        refine AllReadyH.cons (o := _) rfl (fun K hK => ?_) AllReadyH.nil
        rw [if_pos (by rfl)]
        refine wst24 (.tmp 13) (.tmp 76) rfl (wx1_.heap.size) rfl lw rfl LW.out (zeros 4) X22_.out rfl ?_
        refine hK.out _ _ (⟨blk_rangeV (X20_.out.row (natsV .u64 lw).toArray (show G53 ≠ (wx1_.heap.size) by first | assumption | exact Ne.symm (by assumption) | omega)), blk_rangeV (X21_.out.row (natsV .u64 lw).toArray (show G15 ≠ (wx1_.heap.size) by first | assumption | exact Ne.symm (by assumption) | omega))⟩) (fun hHeld2 => ?_)
        clear hK K hHeld
        have hHeld := hHeld2
        clear hHeld2
        try simp only [Act.put, List.getElem_toArray, List.getElem_cons_succ, List.getElem_cons_zero, List.setIfInBounds_toArray, List.set_cons_zero, List.set_cons_succ]
        refine wpAnyH_done (by kernel_rfl) ?_ _
        go_wp2_with fail
        go_meet
        exact ⟨_, rfl, X22_.out.setRow (natsV .u64 lw), X21_.out.row _ (show G15 ≠ (wx1_.heap.size) by first | assumption | exact Ne.symm (by assumption) | omega), X20_.out.row _ (show G53 ≠ (wx1_.heap.size) by first | assumption | exact Ne.symm (by assumption) | omega), below_setRow' bel23_ (by omega) _⟩
    · have hnb6_u := D55.out.drew.lt
      have hnb6_m := D54.out.drew.lt
      go_simp
      refine hK.out _ _ (keepF2 ((Below.refl _ _).alloc (Nat.le_refl _) _) hHeld) (fun hHeld2 => ?_)
      clear hK K hHeld
      have hHeld := hHeld2
      clear hHeld2
      try simp only [Act.put, List.getElem_toArray, List.getElem_cons_succ, List.getElem_cons_zero, List.setIfInBounds_toArray, List.set_cons_zero, List.set_cons_succ]
      obtain ⟨wy24_, hwy24_⟩ : ∃ W_ : World, W_ = (w48.drew).alloc (.cells (natsV .u64 (zeros 4)).toArray 24) := ⟨_, rfl⟩
      have X25_ := Lib.hid (show Blk wy24_ G53 24 (natsV .u64 lub) from by rw [hwy24_]; exact D55.out.drew.alloc (.cells (natsV .u64 (zeros 4)).toArray 24))
      have X26_ := Lib.hid (show Blk wy24_ G15 24 (natsV .u64 lm) from by rw [hwy24_]; exact D54.out.drew.alloc (.cells (natsV .u64 (zeros 4)).toArray 24))
      have Z27_ := Lib.hid (show Blk wy24_ (w48.drew.heap.size) 24 (natsV .u64 (zeros 4)) from by rw [hwy24_]; exact Blk.new _ _ _)
      have bel28_ : Below w.heap.size w wy24_ := by rw [hwy24_]; exact (hbel56.drew.alloc hbel56.drew.size (.cells (natsV .u64 (zeros 4)).toArray 24))
      have hHeld3 : wy24_.rangeAt G53 0 (natsV .u64 lub) ∧ wy24_.rangeAt G15 0 (natsV .u64 lm) := by rw [hwy24_]; exact hHeld
      clear hHeld
      have hHeld := hHeld3
      clear hHeld3
      refine world_as_ hwy24_ ?_
      clear hwy24_
      refine wpAnyH_ready (rs := [3]) (by kernel_rfl) (by simp) ?_
      refine AllReadyH.cons (o := _) rfl (fun K hK => ?_) AllReadyH.nil
      go_simp
      go_at_call 30
      refine (HMU.out _).mono ?_
      rintro e wx29_ ⟨rfl, hwx29_⟩
      refine hK.out _ _ (keepF2 hwx29_ hHeld) (fun hHeld2 => ?_)
      clear hK K hHeld
      have hHeld := hHeld2
      clear hHeld2
      try simp only [Act.put, List.getElem_toArray, List.getElem_cons_succ, List.getElem_cons_zero, List.setIfInBounds_toArray, List.set_cons_zero, List.set_cons_succ]
      have X30_ := Lib.hid (X25_.out.below' hwx29_)
      have X31_ := Lib.hid (X26_.out.below' hwx29_)
      have X32_ := Lib.hid (Z27_.out.below' hwx29_)
      have bel33_ := bel28_.trans (hwx29_.mono bel28_.size)
      refine wpAnyH_ready (rs := [5]) (by kernel_rfl) (by simp) ?_
      refine AllReadyH.cons (o := _) rfl (fun K hK => ?_) AllReadyH.nil
      go_simp
      go_at_call 23
      refine (HFO.out _).mono ?_
      rintro e wx34_ ⟨rfl, hwx34_⟩
      refine hK.out _ _ (keepF2 hwx34_ hHeld) (fun hHeld2 => ?_)
      clear hK K hHeld
      have hHeld := hHeld2
      clear hHeld2
      try simp only [Act.put, List.getElem_toArray, List.getElem_cons_succ, List.getElem_cons_zero, List.setIfInBounds_toArray, List.set_cons_zero, List.set_cons_succ]
      have X35_ := Lib.hid (X30_.out.below' hwx34_)
      have X36_ := Lib.hid (X31_.out.below' hwx34_)
      have X37_ := Lib.hid (X32_.out.below' hwx34_)
      have bel38_ := bel33_.trans (hwx34_.mono bel33_.size)
      have hlu := X35_.out.lt
      have hlm := X36_.out.lt
      have hlz := (bel38_).size
      refine wpAnyH_ready (rs := [7]) (by kernel_rfl) (by simp) ?_
      refine AllReadyH.cons (o := _) rfl (fun K hK => ?_) AllReadyH.nil
      rw [if_pos (by rfl)]
      refine wst24 (.tmp 13) (.tmp 76) rfl (w48.drew.heap.size) rfl lw rfl LW.out (zeros 4) X37_.out rfl ?_
      refine hK.out _ _ (⟨blk_rangeV (X35_.out.row (natsV .u64 lw).toArray (show G53 ≠ (w48.drew.heap.size) by first | assumption | exact Ne.symm (by assumption) | omega)), blk_rangeV (X36_.out.row (natsV .u64 lw).toArray (show G15 ≠ (w48.drew.heap.size) by first | assumption | exact Ne.symm (by assumption) | omega))⟩) (fun hHeld2 => ?_)
      clear hK K hHeld
      have hHeld := hHeld2
      clear hHeld2
      try simp only [Act.put, List.getElem_toArray, List.getElem_cons_succ, List.getElem_cons_zero, List.setIfInBounds_toArray, List.set_cons_zero, List.set_cons_succ]
      refine wpAnyH_done (by kernel_rfl) ?_ _
      go_wp2_with fail
      go_meet
      exact ⟨_, rfl, X37_.out.setRow (natsV .u64 lw), X36_.out.row _ (show G15 ≠ (w48.drew.heap.size) by first | assumption | exact Ne.symm (by assumption) | omega), X35_.out.row _ (show G53 ≠ (w48.drew.heap.size) by first | assumption | exact Ne.symm (by assumption) | omega), below_setRow' bel38_ (by omega) _⟩
  case rest =>
  obtain ⟨g13, rfl, k1, k2, k3, hbelc⟩ := hcut
  have C1_ := Lib.hid k1
  have C2_ := Lib.hid k2
  have C3_ := Lib.hid k3
  clear k1 k2 k3 D54 D55
  as_aux_lemma =>
  go_wp2_with (first | (refine ld24 rfl (.tmp 13) rfl g13 rfl lw C1_.out LW.out ?_))
  refine (HR2.out _).mono ?_
  rintro e w57 ⟨rfl, hbw57⟩
  have C58 := Lib.hid (C1_.out.below' hbw57)
  have C59 := Lib.hid (C2_.out.below' hbw57)
  have C60 := Lib.hid (C3_.out.below' hbw57)
  have hbel61 := hbelc.trans (hbw57.mono hbelc.size)
  clear C1_ C2_ C3_ hbw57 hbelc
  have Z63 := Lib.hid (Blk.new w57 24 (natsV .u64 (zeros 4)))
  have hz64 := Lib.hid (below_setRow' (hbel61.alloc hbel61.size (.cells (natsV .u64 (zeros 4)).toArray 24)) hbel61.size (natsV .u64 lt).toArray)
  have Y65 := Lib.hid ((C58.out.alloc (.cells (natsV .u64 (zeros 4)).toArray 24)).row (natsV .u64 lt).toArray (Nat.ne_of_lt C58.out.lt))
  have Y66 := Lib.hid ((C59.out.alloc (.cells (natsV .u64 (zeros 4)).toArray 24)).row (natsV .u64 lt).toArray (Nat.ne_of_lt C59.out.lt))
  have Y67 := Lib.hid ((C60.out.alloc (.cells (natsV .u64 (zeros 4)).toArray 24)).row (natsV .u64 lt).toArray (Nat.ne_of_lt C60.out.lt))
  have Y68 := Lib.hid (Z63.out.setRow (natsV .u64 lt))
  go_wp2_with (first | (refine st24 rfl (.tmp 14) (.tmp 80) rfl w57.heap.size rfl lt rfl LT.out (zeros 4) Z63.out rfl ?_; generalize hW : World.setRow _ _ _ = w62; have D70 := Lib.hid (show Blk w62 g13 24 (natsV .u64 lw) from (by rw [← hW]; exact Y65.out)); have D71 := Lib.hid (show Blk w62 G15 24 (natsV .u64 lm) from (by rw [← hW]; exact Y66.out)); have D72 := Lib.hid (show Blk w62 G53 24 (natsV .u64 lub) from (by rw [← hW]; exact Y67.out)); have D73 := Lib.hid (show Blk w62 w57.heap.size 24 (natsV .u64 lt) from (by rw [← hW]; exact Y68.out)); have LE_D73 := (hbel61).size; have NE_D70 := Nat.ne_of_lt C58.out.lt; have NE_D71 := Nat.ne_of_lt C59.out.lt; have NE_D72 := Nat.ne_of_lt C60.out.lt; have hbel74 : Below w.heap.size w w62 := (by rw [← hW]; exact hz64.out); clear hW Z63 hz64 C58 C59 C60 Y65 Y66 Y67 Y68 hbel61; generalize w57.heap.size = G69 at *) | (refine ld24 rfl (.tmp 14) rfl G69 rfl lt D73.out LT.out ?_))
  refine (HOU.out _).mono ?_
  rintro e w75 ⟨rfl, hbw75⟩
  have C76 := Lib.hid (D70.out.below' hbw75)
  have C77 := Lib.hid (D71.out.below' hbw75)
  have C78 := Lib.hid (D72.out.below' hbw75)
  have C79 := Lib.hid (D73.out.below' hbw75)
  have hbel80 := hbel74.trans (hbw75.mono hbel74.size)
  clear D70 D71 D72 D73 hbw75 hbel74
  have Z82 := Lib.hid (Blk.new w75 24 (natsV .u64 (zeros 4)))
  have hz83 := Lib.hid (below_setRow' (hbel80.alloc hbel80.size (.cells (natsV .u64 (zeros 4)).toArray 24)) hbel80.size (natsV .u64 lv).toArray)
  have Y84 := Lib.hid ((C76.out.alloc (.cells (natsV .u64 (zeros 4)).toArray 24)).row (natsV .u64 lv).toArray (Nat.ne_of_lt C76.out.lt))
  have Y85 := Lib.hid ((C77.out.alloc (.cells (natsV .u64 (zeros 4)).toArray 24)).row (natsV .u64 lv).toArray (Nat.ne_of_lt C77.out.lt))
  have Y86 := Lib.hid ((C78.out.alloc (.cells (natsV .u64 (zeros 4)).toArray 24)).row (natsV .u64 lv).toArray (Nat.ne_of_lt C78.out.lt))
  have Y87 := Lib.hid ((C79.out.alloc (.cells (natsV .u64 (zeros 4)).toArray 24)).row (natsV .u64 lv).toArray (Nat.ne_of_lt C79.out.lt))
  have Y88 := Lib.hid (Z82.out.setRow (natsV .u64 lv))
  have q := QV.out
  go_wp2_with (first | (refine st24 rfl (.tmp 16) (.tmp 85) rfl w75.heap.size rfl lv rfl LV.out (zeros 4) Z82.out rfl ?_; generalize hW : World.setRow _ _ _ = w81; have D90 := Lib.hid (show Blk w81 g13 24 (natsV .u64 lw) from (by rw [← hW]; exact Y84.out)); have D91 := Lib.hid (show Blk w81 G15 24 (natsV .u64 lm) from (by rw [← hW]; exact Y85.out)); have D92 := Lib.hid (show Blk w81 G53 24 (natsV .u64 lub) from (by rw [← hW]; exact Y86.out)); have D93 := Lib.hid (show Blk w81 G69 24 (natsV .u64 lt) from (by rw [← hW]; exact Y87.out)); have D94 := Lib.hid (show Blk w81 w75.heap.size 24 (natsV .u64 lv) from (by rw [← hW]; exact Y88.out)); have LE_D94 := (hbel80).size; have NE_D90 := Nat.ne_of_lt C76.out.lt; have NE_D91 := Nat.ne_of_lt C77.out.lt; have NE_D92 := Nat.ne_of_lt C78.out.lt; have NE_D93 := Nat.ne_of_lt C79.out.lt; have hbel95 : Below w.heap.size w w81 := (by rw [← hW]; exact hz83.out); clear hW Z82 hz83 C76 C77 C78 C79 Y84 Y85 Y86 Y87 Y88 hbel80; generalize w75.heap.size = G89 at *; have c0 := D94.out.nat 0 (by rw [LV.out]; decide); rw [V0] at c0) | (refine ldw 24 (.tmp 16) rfl G89 rfl .u64 lv D94.out _ _ Try.underlying24 (by rw [info24, LV.out]) 14 rfl 101 rfl rfl ?_) | (refine ldw 24 (.tmp 12) rfl G53 rfl .u64 lub D92.out _ _ Try.underlying24 (by rw [info24, LUB.out]) 14 rfl 101 rfl rfl ?_) | (refine ldn 24 (.tmp 16) rfl G89 rfl .u64 lv D94.out _ _ Try.underlying24 (by rw [info24, LV.out]) 18 rfl 105 rfl rfl ?_) | (refine ldn 24 (.tmp 12) rfl G53 rfl .u64 lub D92.out _ _ Try.underlying24 (by rw [info24, LUB.out]) 18 rfl 105 rfl rfl ?_) | (refine ldn 24 (.tmp 6) rfl G15 rfl .u64 lm D91.out _ _ Try.underlying24 (by rw [info24, LM.out]) 18 rfl 105 rfl rfl ?_))
  clear q c0
  refine (HDA.out _).mono ?_
  rintro e w96 ⟨rfl, hbw96⟩
  have C97 := Lib.hid (D90.out.below' hbw96)
  have C98 := Lib.hid (D91.out.below' hbw96)
  have C99 := Lib.hid (D92.out.below' hbw96)
  have C100 := Lib.hid (D93.out.below' hbw96)
  have C101 := Lib.hid (D94.out.below' hbw96)
  have hbel102 := hbel95.trans (hbw96.mono hbel95.size)
  clear D90 D91 D92 D93 D94 hbw96 hbel95
  have q2 := eqZZ
  go_wp2_with fail
  go_ret
  exact ⟨rfl, hbel102⟩
set_option maxRecDepth 100000 in
set_option maxHeartbeats 3200000 in
theorem roots5_21 (a b : Nat) (w : World) (ha : a < 2 ^ 256) (hb : b < 2 ^ 256) (hc : a < mP) (ho : ¬ OkR (ofF mP vP a)) (hv : rN (b % mP * (b % mP) % mP) = b % mP) :
    Calls Try.prog 8 #[.agg (natsV .u64 (wds 4 a)).toArray, .agg (natsV .u64 (wds 4 b)).toArray] w fun e w' => e = .returned (.bool true) ∧ Below w.heap.size w w' := by
  have H := fld_P
  have hm := H.lt
  have hgt := H.gt
  have HP := Lib.hid DP_any
  have HL := Lib.hid (fun w => Less_any a mP w ha hm)
  rw [decide_eq_true hc] at HL
  have HPL := Lib.hid (fun w => Plain_any a mP 1 vP w H hc)
  have HR1 := Lib.hid (fun w => Root_no a w ha (fun h => ho h.2))
  have HD1 := Lib.hid (fun w => DRoot_none (ofF mP vP a) w (ofF_lt H a) ho)
  generalize wds 4 (ofF mP vP a) = lu at *
  have HRS := Lib.hid (fun w => Rest_any b mP false w hm hb (by simp; omega))
  rw [show (b + 2 ^ 256 * false.toNat) % mP = b % mP by simp] at HRS
  have hub : b % mP < mP := Nat.mod_lt _ mP_pos
  generalize b % mP = ub at *
  have HMU := Lib.hid (fun w => Mul5_any ub ub mP w (Nat.lt_trans hub hm) (Nat.lt_trans hub hm) hm hgt)
  have hok := okR_sq ub hub
  have hsq := rN_sq _ hok
  have hwl : ub * ub % mP < mP := Nat.mod_lt _ mP_pos
  obtain ⟨W0, hW0⟩ : ∃ W0, W0 = ub * ub % mP := ⟨_, rfl⟩
  rw [← hW0] at HMU hok hsq hwl hv
  have HFO := Lib.hid (fun w => Form_any W0 mP 1 vP w H hwl)
  have hof : ofF mP vP (toF mP W0) = W0 := by rw [H.of_to, Nat.mod_eq_of_lt hwl]
  have HR2 := Lib.hid (fun w => Root_good (toF mP W0) w (toF_lt H W0) (by rw [hof]; exact hok))
  rw [hof] at HR2
  have HOU := Lib.hid (fun w => Out_ok 1 mP 1 vP (toF mP (rN W0)) w H (Nat.lt_trans (toF_lt H _) hm) (pok_1 1 mP 1 vP _ .p (toF_lt H _)))
  rw [H.of_to, Nat.mod_eq_of_lt (rN_lt W0)] at HOU
  have e0 := dgt0_odd (rN W0)
  rw [rN_even W0] at e0
  have V0 := wds_at 4 (rN W0) 0 (by omega)
  generalize dgt (2 ^ 64) (rN W0) 0 = d0 at *
  have hi0 : (d0 : Int) % 2 = 0 := by omega
  have LT := Lib.hid (wds_len 4 (toF mP (rN W0)))
  have LW := Lib.hid (wds_len 4 (toF mP W0))
  have LV := Lib.hid (wds_len 4 (rN W0))
  have LUB := Lib.hid (wds_len 4 ub)
  have LM := Lib.hid (wds_len 4 mP)
  rw [hv] at HOU V0 LV HR2
  rw [hv] at LT
  generalize wds 4 (toF mP ub) = lt at *
  generalize wds 4 (toF mP W0) = lw at *
  generalize wds 4 W0 = lw0 at *
  generalize wds 4 ub = lub at *
  generalize wds 4 mP = lm at *
  clear H hm hgt hub hok hsq hwl hof e0 hv hc hW0 ho
  have LA := Lib.hid (wds_len 4 a)
  have LB := Lib.hid (wds_len 4 b)
  generalize wds 4 a = la at *
  generalize wds 4 b = lb at *
  clear ha hb
  have i24m : (Try.prog.info? 24).map (·.size) = some (natsV .u64 lm).length := by rw [info24, natsV_length, LM.out]
  have i24ub : (Try.prog.info? 24).map (·.size) = some (natsV .u64 lub).length := by rw [info24, natsV_length, LUB.out]
  have i24z : (Try.prog.info? 24).map (·.size) = some (natsV .u64 (zeros 4)).length := by rw [info24]; rfl
  have B1 := Lib.hid ((Blk.new w 24 (natsV .u64 la)).alloc (.cells (natsV .u64 lb).toArray 24))
  have B2 := Lib.hid (Blk.new2 w (.cells (natsV .u64 la).toArray 24) 24 (natsV .u64 lb))
  have BEL := Lib.hid (((Below.refl w.heap.size w).alloc (Nat.le_refl _) (.cells (natsV .u64 la).toArray 24)).alloc (by simp) (.cells (natsV .u64 lb).toArray 24))
  go_enter Try.func8, Try.ntmps8
  go_wp2_with fail
  refine (fawake_any _).mono ?_
  rintro e w1 ⟨rfl, hbw1⟩
  have C2 := Lib.hid (B1.out.below' hbw1)
  have C3 := Lib.hid (B2.out.below' hbw1)
  have hbel4 := BEL.out.trans (hbw1.mono BEL.out.size)
  clear B1 B2 hbw1
  go_wp2_with fail
  refine (HP.out _).mono ?_
  rintro e w5 ⟨rfl, hbw5⟩
  have C6 := Lib.hid (C2.out.below' hbw5)
  have C7 := Lib.hid (C3.out.below' hbw5)
  have hbel8 := hbel4.trans (hbw5.mono hbel4.size)
  clear C2 C3 hbw5 hbel4
  have Z10 := Lib.hid (Blk.new w5 24 (natsV .u64 (zeros 4)))
  have hz11 := Lib.hid (below_setRow' (hbel8.alloc hbel8.size (.cells (natsV .u64 (zeros 4)).toArray 24)) hbel8.size (natsV .u64 lm).toArray)
  have Y12 := Lib.hid ((C6.out.alloc (.cells (natsV .u64 (zeros 4)).toArray 24)).row (natsV .u64 lm).toArray (Nat.ne_of_lt C6.out.lt))
  have Y13 := Lib.hid ((C7.out.alloc (.cells (natsV .u64 (zeros 4)).toArray 24)).row (natsV .u64 lm).toArray (Nat.ne_of_lt C7.out.lt))
  have Y14 := Lib.hid (Z10.out.setRow (natsV .u64 lm))
  go_wp2_with (first | (refine st24 rfl (.tmp 6) (.tmp 19) rfl w5.heap.size rfl lm rfl LM.out (zeros 4) Z10.out rfl ?_; generalize hW : World.setRow _ _ _ = w9; have D16 := Lib.hid (show Blk w9 w.heap.size 24 (natsV .u64 la) from (by rw [← hW]; exact Y12.out)); have D17 := Lib.hid (show Blk w9 (w.heap.size + 1) 24 (natsV .u64 lb) from (by rw [← hW]; exact Y13.out)); have D18 := Lib.hid (show Blk w9 w5.heap.size 24 (natsV .u64 lm) from (by rw [← hW]; exact Y14.out)); have LE_D18 := (hbel8).size; have NE_D16 := Nat.ne_of_lt C6.out.lt; have NE_D17 := Nat.ne_of_lt C7.out.lt; have hbel19 : Below w.heap.size w w9 := (by rw [← hW]; exact hz11.out); clear hW Z10 hz11 C6 C7 Y12 Y13 Y14 hbel8; generalize w5.heap.size = G15 at *) | (refine ld24 rfl (.tmp 2) rfl w.heap.size rfl la D16.out LA.out ?_))
  refine (HR1.out _).mono ?_
  rintro e w20 ⟨rfl, hbw20⟩
  have C21 := Lib.hid (D16.out.below' hbw20)
  have C22 := Lib.hid (D17.out.below' hbw20)
  have C23 := Lib.hid (D18.out.below' hbw20)
  have hbel24 := hbel19.trans (hbw20.mono hbel19.size)
  clear D16 D17 D18 hbw20 hbel19
  have Z26 := Lib.hid (Blk.new w20 24 (natsV .u64 (zeros 4)))
  have hz27 := Lib.hid (below_setRow' (hbel24.alloc hbel24.size (.cells (natsV .u64 (zeros 4)).toArray 24)) hbel24.size (natsV .u64 (zeros 4)).toArray)
  have Y28 := Lib.hid ((C21.out.alloc (.cells (natsV .u64 (zeros 4)).toArray 24)).row (natsV .u64 (zeros 4)).toArray (Nat.ne_of_lt C21.out.lt))
  have Y29 := Lib.hid ((C22.out.alloc (.cells (natsV .u64 (zeros 4)).toArray 24)).row (natsV .u64 (zeros 4)).toArray (Nat.ne_of_lt C22.out.lt))
  have Y30 := Lib.hid ((C23.out.alloc (.cells (natsV .u64 (zeros 4)).toArray 24)).row (natsV .u64 (zeros 4)).toArray (Nat.ne_of_lt C23.out.lt))
  have Y31 := Lib.hid (Z26.out.setRow (natsV .u64 (zeros 4)))
  go_wp2_with (first | (refine st24 rfl (.tmp 7) (.tmp 23) rfl w20.heap.size rfl (zeros 4) rfl rfl (zeros 4) Z26.out rfl ?_; generalize hW : World.setRow _ _ _ = w25; have D33 := Lib.hid (show Blk w25 w.heap.size 24 (natsV .u64 la) from (by rw [← hW]; exact Y28.out)); have D34 := Lib.hid (show Blk w25 (w.heap.size + 1) 24 (natsV .u64 lb) from (by rw [← hW]; exact Y29.out)); have D35 := Lib.hid (show Blk w25 G15 24 (natsV .u64 lm) from (by rw [← hW]; exact Y30.out)); have D36 := Lib.hid (show Blk w25 w20.heap.size 24 (natsV .u64 (zeros 4)) from (by rw [← hW]; exact Y31.out)); have LE_D36 := (hbel24).size; have NE_D33 := Nat.ne_of_lt C21.out.lt; have NE_D34 := Nat.ne_of_lt C22.out.lt; have NE_D35 := Nat.ne_of_lt C23.out.lt; have hbel37 : Below w.heap.size w w25 := (by rw [← hW]; exact hz27.out); clear hW Z26 hz27 C21 C22 C23 Y28 Y29 Y30 Y31 hbel24; generalize w20.heap.size = G32 at *) | (refine ld24 rfl (.tmp 2) rfl w.heap.size rfl la D33.out LA.out ?_) | (refine ld24 rfl (.tmp 6) rfl G15 rfl lm D35.out LM.out ?_))
  refine (HL.out _).mono ?_
  rintro e w38 ⟨rfl, hbw38⟩
  have C39 := Lib.hid (D33.out.below' hbw38)
  have C40 := Lib.hid (D34.out.below' hbw38)
  have C41 := Lib.hid (D35.out.below' hbw38)
  have C42 := Lib.hid (D36.out.below' hbw38)
  have hbel43 := hbel37.trans (hbw38.mono hbel37.size)
  clear D33 D34 D35 D36 hbw38 hbel37
  as_aux_lemma =>
  go_wp2_with (first | (refine ld24 rfl (.tmp 2) rfl w.heap.size rfl la C39.out LA.out ?_) | (refine ld24 rfl (.tmp 6) rfl G15 rfl lm C41.out LM.out ?_))
  refine (HPL.out _).mono ?_
  rintro e w44 ⟨rfl, hbw44⟩
  have C45 := Lib.hid (C39.out.below' hbw44)
  have C46 := Lib.hid (C40.out.below' hbw44)
  have C47 := Lib.hid (C41.out.below' hbw44)
  have C48 := Lib.hid (C42.out.below' hbw44)
  have hbel49 := hbel43.trans (hbw44.mono hbel43.size)
  clear C39 C40 C41 C42 hbw44 hbel43
  go_wp2_with fail
  refine (HD1.out _).mono ?_
  rintro e w50 ⟨rfl, hbw50⟩
  have C51 := Lib.hid (C45.out.below' hbw50)
  have C52 := Lib.hid (C46.out.below' hbw50)
  have C53 := Lib.hid (C47.out.below' hbw50)
  have C54 := Lib.hid (C48.out.below' hbw50)
  have hbel55 := hbel49.trans (hbw50.mono hbel49.size)
  clear C45 C46 C47 C48 hbw50 hbel49
  have Z57 := Lib.hid (Blk.new w50 24 (natsV .u64 (zeros 4)))
  have hz58 := Lib.hid (below_setRow' (hbel55.alloc hbel55.size (.cells (natsV .u64 (zeros 4)).toArray 24)) hbel55.size (natsV .u64 (zeros 4)).toArray)
  have Y59 := Lib.hid ((C51.out.alloc (.cells (natsV .u64 (zeros 4)).toArray 24)).row (natsV .u64 (zeros 4)).toArray (Nat.ne_of_lt C51.out.lt))
  have Y60 := Lib.hid ((C52.out.alloc (.cells (natsV .u64 (zeros 4)).toArray 24)).row (natsV .u64 (zeros 4)).toArray (Nat.ne_of_lt C52.out.lt))
  have Y61 := Lib.hid ((C53.out.alloc (.cells (natsV .u64 (zeros 4)).toArray 24)).row (natsV .u64 (zeros 4)).toArray (Nat.ne_of_lt C53.out.lt))
  have Y62 := Lib.hid ((C54.out.alloc (.cells (natsV .u64 (zeros 4)).toArray 24)).row (natsV .u64 (zeros 4)).toArray (Nat.ne_of_lt C54.out.lt))
  have Y63 := Lib.hid (Z57.out.setRow (natsV .u64 (zeros 4)))
  go_wp2_with (first | (refine st24 rfl (.tmp 10) (.tmp 44) rfl w50.heap.size rfl (zeros 4) rfl rfl (zeros 4) Z57.out rfl ?_; generalize hW : World.setRow _ _ _ = w56; have D65 := Lib.hid (show Blk w56 w.heap.size 24 (natsV .u64 la) from (by rw [← hW]; exact Y59.out)); have D66 := Lib.hid (show Blk w56 (w.heap.size + 1) 24 (natsV .u64 lb) from (by rw [← hW]; exact Y60.out)); have D67 := Lib.hid (show Blk w56 G15 24 (natsV .u64 lm) from (by rw [← hW]; exact Y61.out)); have D68 := Lib.hid (show Blk w56 G32 24 (natsV .u64 (zeros 4)) from (by rw [← hW]; exact Y62.out)); have D69 := Lib.hid (show Blk w56 w50.heap.size 24 (natsV .u64 (zeros 4)) from (by rw [← hW]; exact Y63.out)); have LE_D69 := (hbel55).size; have NE_D65 := Nat.ne_of_lt C51.out.lt; have NE_D66 := Nat.ne_of_lt C52.out.lt; have NE_D67 := Nat.ne_of_lt C53.out.lt; have NE_D68 := Nat.ne_of_lt C54.out.lt; have hbel70 : Below w.heap.size w w56 := (by rw [← hW]; exact hz58.out); clear hW Z57 hz58 C51 C52 C53 C54 Y59 Y60 Y61 Y62 Y63 hbel55; generalize w50.heap.size = G64 at *))
  as_aux_lemma =>
  refine wp_region_held_drew (S := (fun w' => w'.rangeAt G32 0 (natsV .u64 (zeros 4)))) (by kernel_rfl) (blk_rangeV D68.out.drew) (fun hHeld => ?_)
  refine wpAnyH_take (i := 0) (oi := _) (v := _) rfl (by kernel_rfl) (by kernel_rfl) (by kernel_rfl) (fun _ _ _ h => h) (Or.inl ⟨by rfl, by intro w hSw; (try dsimp only at hSw); go_simp; first | done | with_reducible rfl⟩) hHeld ?_
  try simp only [Act.put, List.getElem_toArray, List.getElem_cons_succ, List.getElem_cons_zero, List.setIfInBounds_toArray, List.set_cons_zero, List.set_cons_succ]
  refine wpAnyH_take (i := 1) (oi := _) (v := _) rfl (by kernel_rfl) (by kernel_rfl) (by kernel_rfl) (fun _ _ _ h => h) (Or.inl ⟨by rfl, by intro w hSw; (try dsimp only at hSw); go_simp; first | done | with_reducible rfl⟩) hHeld ?_
  try simp only [Act.put, List.getElem_toArray, List.getElem_cons_succ, List.getElem_cons_zero, List.setIfInBounds_toArray, List.set_cons_zero, List.set_cons_succ]
  refine wpAnyH_take (i := 2) (oi := _) (v := _) rfl (by kernel_rfl) (by kernel_rfl) (by kernel_rfl) (fun _ _ _ h => h) (Or.inl ⟨by rfl, by intro w hSw; (try dsimp only at hSw); go_simp; first | done | with_reducible rfl⟩) hHeld ?_
  try simp only [Act.put, List.getElem_toArray, List.getElem_cons_succ, List.getElem_cons_zero, List.setIfInBounds_toArray, List.set_cons_zero, List.set_cons_succ]
  refine wpAnyH_take (i := 3) (oi := _) (v := _) rfl (by kernel_rfl) (by kernel_rfl) (by kernel_rfl) (fun _ _ _ h => h) (Or.inl ⟨by rfl, by intro w hSw; (try dsimp only at hSw); go_simp; first | done | with_reducible rfl⟩) hHeld ?_
  try simp only [Act.put, List.getElem_toArray, List.getElem_cons_succ, List.getElem_cons_zero, List.setIfInBounds_toArray, List.set_cons_zero, List.set_cons_succ]
  refine wpAnyH_take (i := 4) (oi := _) (v := _) rfl (by kernel_rfl) (by kernel_rfl) (by kernel_rfl) (fun _ _ _ h => h) (Or.inl ⟨by rfl, by intro w hSw; (try dsimp only at hSw); go_simp; first | done | with_reducible rfl⟩) hHeld ?_
  try simp only [Act.put, List.getElem_toArray, List.getElem_cons_succ, List.getElem_cons_zero, List.setIfInBounds_toArray, List.set_cons_zero, List.set_cons_succ]
  refine wpAnyH_take (i := 5) (oi := _) (v := _) rfl (by kernel_rfl) (by kernel_rfl) (by kernel_rfl) (fun _ _ _ h => h) (Or.inl ⟨by rfl, by intro w hSw; (try dsimp only at hSw); go_simp; first | done | with_reducible rfl⟩) hHeld ?_
  try simp only [Act.put, List.getElem_toArray, List.getElem_cons_succ, List.getElem_cons_zero, List.setIfInBounds_toArray, List.set_cons_zero, List.set_cons_succ]
  refine wpAnyH_take (i := 6) (oi := _) (v := _) rfl (by kernel_rfl) (by kernel_rfl) (by kernel_rfl) (fun _ _ _ h => h) (Or.inr ⟨by rfl, rfl⟩) hHeld ?_
  try simp only [Act.put, List.getElem_toArray, List.getElem_cons_succ, List.getElem_cons_zero, List.setIfInBounds_toArray, List.set_cons_zero, List.set_cons_succ]
  refine wpAnyH_take (i := 7) (oi := _) (v := _) rfl (by kernel_rfl) (by kernel_rfl) (by kernel_rfl) (fun _ _ _ h => h) (Or.inr ⟨by rfl, rfl⟩) hHeld ?_
  try simp only [Act.put, List.getElem_toArray, List.getElem_cons_succ, List.getElem_cons_zero, List.setIfInBounds_toArray, List.set_cons_zero, List.set_cons_succ]
  refine wpAnyH_take (i := 8) (oi := _) (v := _) rfl (by kernel_rfl) (by kernel_rfl) (by kernel_rfl) (fun _ _ _ h => h) (Or.inr ⟨by rfl, rfl⟩) hHeld ?_
  try simp only [Act.put, List.getElem_toArray, List.getElem_cons_succ, List.getElem_cons_zero, List.setIfInBounds_toArray, List.set_cons_zero, List.set_cons_succ]
  refine wpAnyH_ready (rs := [9]) (by kernel_rfl) (by simp) ?_
  refine AllReadyH.cons (o := _) rfl (fun K hK => ?_) AllReadyH.nil
  rw [if_neg (by change ¬ ((false : Bool) = true); decide)]
  refine hK.out _ _ hHeld (fun hHeld2 => ?_)
  clear hK K hHeld
  have hHeld := hHeld2
  clear hHeld2
  try simp only [Act.put, List.getElem_toArray, List.getElem_cons_succ, List.getElem_cons_zero, List.setIfInBounds_toArray, List.set_cons_zero, List.set_cons_succ]
  refine wpAnyH_take (i := 10) (oi := _) (v := _) rfl (by kernel_rfl) (by kernel_rfl) (by kernel_rfl) (fun _ _ _ h => h) (Or.inr ⟨by rfl, rfl⟩) hHeld ?_
  try simp only [Act.put, List.getElem_toArray, List.getElem_cons_succ, List.getElem_cons_zero, List.setIfInBounds_toArray, List.set_cons_zero, List.set_cons_succ]
  refine wpAnyH_take (i := 11) (oi := _) (v := _) rfl (by kernel_rfl) (by kernel_rfl) (by kernel_rfl) (fun _ _ _ h => h) (Or.inl ⟨by rfl, by intro w hSw; (try dsimp only at hSw); go_simp; first | done | with_reducible rfl⟩) hHeld ?_
  try simp only [Act.put, List.getElem_toArray, List.getElem_cons_succ, List.getElem_cons_zero, List.setIfInBounds_toArray, List.set_cons_zero, List.set_cons_succ]
  refine wpAnyH_take (i := 12) (oi := _) (v := _) rfl (by kernel_rfl) (by kernel_rfl) (by kernel_rfl) (fun _ _ _ h => h) (Or.inl ⟨by rfl, by intro w hSw; (try dsimp only at hSw); go_simp; first | done | with_reducible rfl⟩) hHeld ?_
  try simp only [Act.put, List.getElem_toArray, List.getElem_cons_succ, List.getElem_cons_zero, List.setIfInBounds_toArray, List.set_cons_zero, List.set_cons_succ]
  refine wpAnyH_take (i := 13) (oi := _) (v := _) rfl (by kernel_rfl) (by kernel_rfl) (by kernel_rfl) (fun _ _ _ h => h) (Or.inl ⟨by rfl, by intro w hSw; (try dsimp only at hSw); go_simp; first | done | with_reducible rfl⟩) hHeld ?_
  try simp only [Act.put, List.getElem_toArray, List.getElem_cons_succ, List.getElem_cons_zero, List.setIfInBounds_toArray, List.set_cons_zero, List.set_cons_succ]
  refine wpAnyH_take (i := 14) (oi := _) (v := _) rfl (by kernel_rfl) (by kernel_rfl) (by kernel_rfl) (fun _ _ _ h => h) (Or.inl ⟨by rfl, by intro w hSw; (try dsimp only at hSw); go_simp; first | done | with_reducible rfl⟩) hHeld ?_
  try simp only [Act.put, List.getElem_toArray, List.getElem_cons_succ, List.getElem_cons_zero, List.setIfInBounds_toArray, List.set_cons_zero, List.set_cons_succ]
  refine wpAnyH_take (i := 15) (oi := _) (v := _) rfl (by kernel_rfl) (by kernel_rfl) (by kernel_rfl) (fun _ _ _ h => h) (Or.inl ⟨by rfl, by intro w hSw; (try dsimp only at hSw); go_simp; first | done | with_reducible rfl⟩) hHeld ?_
  try simp only [Act.put, List.getElem_toArray, List.getElem_cons_succ, List.getElem_cons_zero, List.setIfInBounds_toArray, List.set_cons_zero, List.set_cons_succ]
  refine wpAnyH_take (i := 16) (oi := _) (v := _) rfl (by kernel_rfl) (by kernel_rfl) (by kernel_rfl) (fun _ _ _ h => h) (Or.inl ⟨by rfl, by intro w hSw; (try dsimp only at hSw); go_simp; first | done | with_reducible rfl⟩) hHeld ?_
  try simp only [Act.put, List.getElem_toArray, List.getElem_cons_succ, List.getElem_cons_zero, List.setIfInBounds_toArray, List.set_cons_zero, List.set_cons_succ]
  refine wpAnyH_take (i := 17) (oi := _) (v := _) rfl (by kernel_rfl) (by kernel_rfl) (by kernel_rfl) (fun _ _ _ h => h) (yieldsIf_load_mid (by rfl) _ _ rfl _ _ rfl _ _ (by intro w hSw; exact hSw) Try.underlying24 rfl i24z) hHeld ?_
  try simp only [Act.put, List.getElem_toArray, List.getElem_cons_succ, List.getElem_cons_zero, List.setIfInBounds_toArray, List.set_cons_zero, List.set_cons_succ]
  refine wpAnyH_take (i := 18) (oi := _) (v := _) rfl (by kernel_rfl) (by kernel_rfl) (by kernel_rfl) (fun _ _ _ h => h) (Or.inl ⟨by rfl, by intro w hSw; (try dsimp only at hSw); go_simp; first | done | with_reducible rfl⟩) hHeld ?_
  try simp only [Act.put, List.getElem_toArray, List.getElem_cons_succ, List.getElem_cons_zero, List.setIfInBounds_toArray, List.set_cons_zero, List.set_cons_succ]
  have q := neZ
  refine wpAnyH_take (i := 19) (oi := _) (v := _) rfl (by kernel_rfl) (by kernel_rfl) (by kernel_rfl) (fun _ _ _ h => h) (Or.inl ⟨by rfl, by intro w hSw; (try dsimp only at hSw); go_simp; first | done | with_reducible rfl⟩) hHeld ?_
  try simp only [Act.put, List.getElem_toArray, List.getElem_cons_succ, List.getElem_cons_zero, List.setIfInBounds_toArray, List.set_cons_zero, List.set_cons_succ]
  clear q
  refine wpAnyH_take (i := 20) (oi := _) (v := _) rfl (by kernel_rfl) (by kernel_rfl) (by kernel_rfl) (fun _ _ _ h => h) (Or.inl ⟨by rfl, by intro w hSw; (try dsimp only at hSw); go_simp; first | done | with_reducible rfl⟩) hHeld ?_
  try simp only [Act.put, List.getElem_toArray, List.getElem_cons_succ, List.getElem_cons_zero, List.setIfInBounds_toArray, List.set_cons_zero, List.set_cons_succ]
  refine wpAnyH_take (i := 21) (oi := _) (v := _) rfl (by kernel_rfl) (by kernel_rfl) (by kernel_rfl) (fun _ _ _ h => h) (Or.inl ⟨by rfl, by intro w hSw; (try dsimp only at hSw); go_simp; first | done | with_reducible rfl⟩) hHeld ?_
  try simp only [Act.put, List.getElem_toArray, List.getElem_cons_succ, List.getElem_cons_zero, List.setIfInBounds_toArray, List.set_cons_zero, List.set_cons_succ]
  refine wpAnyH_done (by kernel_rfl) ?_ _
  have E71 := Lib.hid D65.out.drew
  have E72 := Lib.hid D66.out.drew
  have E73 := Lib.hid D67.out.drew
  have E74 := Lib.hid D68.out.drew
  have E75 := Lib.hid D69.out.drew
  have hbel76 := hbel70.drew
  clear hHeld  D65 D66 D67 D68 D69
  as_aux_lemma =>
  go_wp2_with (first | (refine ld24 rfl (.tmp 3) rfl (w.heap.size + 1) rfl lb E72.out LB.out ?_) | (refine ld24 rfl (.tmp 6) rfl G15 rfl lm E73.out LM.out ?_))
  clear E75
  clear E74 E71
  refine (HRS.out _).mono ?_
  rintro e w77 ⟨rfl, hbw77⟩
  have C78 := Lib.hid (E72.out.below' hbw77)
  have C79 := Lib.hid (E73.out.below' hbw77)
  have hbel80 := hbel76.trans (hbw77.mono hbel76.size)
  clear E72 E73 hbw77 hbel76
  clear C78
  have Z82 := Lib.hid (Blk.new w77 24 (natsV .u64 (zeros 4)))
  have hz83 := Lib.hid (below_setRow' (hbel80.alloc hbel80.size (.cells (natsV .u64 (zeros 4)).toArray 24)) hbel80.size (natsV .u64 lub).toArray)
  have Y84 := Lib.hid ((C79.out.alloc (.cells (natsV .u64 (zeros 4)).toArray 24)).row (natsV .u64 lub).toArray (Nat.ne_of_lt C79.out.lt))
  have Y85 := Lib.hid (Z82.out.setRow (natsV .u64 lub))
  go_upto_region 12 with (first | (refine st24 rfl (.tmp 12) (.tmp 70) rfl w77.heap.size rfl lub rfl LUB.out (zeros 4) Z82.out rfl ?_; generalize hW : World.setRow _ _ _ = w81; have D87 := Lib.hid (show Blk w81 G15 24 (natsV .u64 lm) from (by rw [← hW]; exact Y84.out)); have D88 := Lib.hid (show Blk w81 w77.heap.size 24 (natsV .u64 lub) from (by rw [← hW]; exact Y85.out)); have LE_D88 := (hbel80).size; have NE_D87 := Nat.ne_of_lt C79.out.lt; have hbel89 : Below w.heap.size w w81 := (by rw [← hW]; exact hz83.out); clear hW Z82 hz83 C79 Y84 Y85 hbel80; generalize w77.heap.size = G86 at *))
  try simp only [Act.put]
  go_cut [13] (fun v13 wx => ∃ g : Nat, v13 = .pointer (some ⟨g, 0, none⟩) ∧ Blk wx g 24 (natsV .u64 lw) ∧ Blk wx G15 24 (natsV .u64 lm) ∧ Blk wx G86 24 (natsV .u64 lub) ∧ Below w.heap.size w wx)
  case first =>
    as_aux_lemma =>
    refine wp_region_held_drew (S := (fun w' => w'.rangeAt G86 0 (natsV .u64 lub) ∧ w'.rangeAt G15 0 (natsV .u64 lm))) (by kernel_rfl) ⟨blk_rangeV D88.out.drew, blk_rangeV D87.out.drew⟩ (fun hHeld => ?_)
    refine wpAnyH_take (i := 0) (oi := _) (v := _) rfl (by kernel_rfl) (by kernel_rfl) (by kernel_rfl) (fun _ _ _ h => h) (yieldsIf_load_mid (by rfl) _ _ rfl _ _ rfl _ _ (by intro w hSw; exact hSw.1) Try.underlying24 rfl i24ub) hHeld ?_
    try simp only [Act.put, List.getElem_toArray, List.getElem_cons_succ, List.getElem_cons_zero, List.setIfInBounds_toArray, List.set_cons_zero, List.set_cons_succ]
    refine wpAnyH_take (i := 1) (oi := _) (v := _) rfl (by kernel_rfl) (by kernel_rfl) (by kernel_rfl) (fun _ _ _ h => h) (yieldsIf_load_mid (by rfl) _ _ rfl _ _ rfl _ _ (by intro w hSw; exact hSw.1) Try.underlying24 rfl i24ub) hHeld ?_
    try simp only [Act.put, List.getElem_toArray, List.getElem_cons_succ, List.getElem_cons_zero, List.setIfInBounds_toArray, List.set_cons_zero, List.set_cons_succ]
    refine wpAnyH_take (i := 2) (oi := _) (v := _) rfl (by kernel_rfl) (by kernel_rfl) (by kernel_rfl) (fun _ _ _ h => h) (yieldsIf_load_mid (by rfl) _ _ rfl _ _ rfl _ _ (by intro w hSw; exact hSw.2) Try.underlying24 rfl i24m) hHeld ?_
    try simp only [Act.put, List.getElem_toArray, List.getElem_cons_succ, List.getElem_cons_zero, List.setIfInBounds_toArray, List.set_cons_zero, List.set_cons_succ]
    refine wpAnyH_take (i := 4) (oi := _) (v := _) rfl (by kernel_rfl) (by kernel_rfl) (by kernel_rfl) (fun _ _ _ h => h) (yieldsIf_load_mid (by rfl) _ _ rfl _ _ rfl _ _ (by intro w hSw; exact hSw.2) Try.underlying24 rfl i24m) hHeld ?_
    try simp only [Act.put, List.getElem_toArray, List.getElem_cons_succ, List.getElem_cons_zero, List.setIfInBounds_toArray, List.set_cons_zero, List.set_cons_succ]
    refine wpAnyH_ready (rs := [3, 6]) (by kernel_rfl) (by simp) ?_
    refine AllReadyH.cons (o := _) rfl (fun K hK => ?_) (AllReadyH.cons (o := _) rfl (fun K hK => ?_) AllReadyH.nil)
    · go_simp
      go_at_call 30
      refine (HMU.out _).mono ?_
      rintro e wx1_ ⟨rfl, hwx1_⟩
      refine hK.out _ _ (keepF2 hwx1_ hHeld) (fun hHeld2 => ?_)
      clear hK K hHeld
      have hHeld := hHeld2
      clear hHeld2
      try simp only [Act.put, List.getElem_toArray, List.getElem_cons_succ, List.getElem_cons_zero, List.setIfInBounds_toArray, List.set_cons_zero, List.set_cons_succ]
      have X2_ := Lib.hid (D88.out.drew.below' hwx1_)
      have X3_ := Lib.hid (D87.out.drew.below' hwx1_)
      have bel4_ := hbel89.drew.trans (hwx1_.mono hbel89.drew.size)
      refine wpAnyH_ready (rs := [5, 6]) (by kernel_rfl) (by simp) ?_
      refine AllReadyH.cons (o := _) rfl (fun K hK => ?_) (AllReadyH.cons (o := _) rfl (fun K hK => ?_) AllReadyH.nil)
      · go_simp
        go_at_call 23
        refine (HFO.out _).mono ?_
        rintro e wx5_ ⟨rfl, hwx5_⟩
        refine hK.out _ _ (keepF2 hwx5_ hHeld) (fun hHeld2 => ?_)
        clear hK K hHeld
        have hHeld := hHeld2
        clear hHeld2
        try simp only [Act.put, List.getElem_toArray, List.getElem_cons_succ, List.getElem_cons_zero, List.setIfInBounds_toArray, List.set_cons_zero, List.set_cons_succ]
        have X6_ := Lib.hid (X2_.out.below' hwx5_)
        have X7_ := Lib.hid (X3_.out.below' hwx5_)
        have bel8_ := bel4_.trans (hwx5_.mono bel4_.size)
        refine wpAnyH_ready (rs := [6]) (by kernel_rfl) (by simp) ?_
        refine AllReadyH.cons (o := _) rfl (fun K hK => ?_) AllReadyH.nil
        have hnb6_u := X6_.out.lt
        have hnb6_m := X7_.out.lt
        go_simp
        refine hK.out _ _ (keepF2 ((Below.refl _ _).alloc (Nat.le_refl _) _) hHeld) (fun hHeld2 => ?_)
        clear hK K hHeld
        have hHeld := hHeld2
        clear hHeld2
        try simp only [Act.put, List.getElem_toArray, List.getElem_cons_succ, List.getElem_cons_zero, List.setIfInBounds_toArray, List.set_cons_zero, List.set_cons_succ]
        obtain ⟨wy9_, hwy9_⟩ : ∃ W_ : World, W_ = (wx5_).alloc (.cells (natsV .u64 (zeros 4)).toArray 24) := ⟨_, rfl⟩
        have X10_ := Lib.hid (show Blk wy9_ G86 24 (natsV .u64 lub) from by rw [hwy9_]; exact X6_.out.alloc (.cells (natsV .u64 (zeros 4)).toArray 24))
        have X11_ := Lib.hid (show Blk wy9_ G15 24 (natsV .u64 lm) from by rw [hwy9_]; exact X7_.out.alloc (.cells (natsV .u64 (zeros 4)).toArray 24))
        have Z12_ := Lib.hid (show Blk wy9_ (wx5_.heap.size) 24 (natsV .u64 (zeros 4)) from by rw [hwy9_]; exact Blk.new _ _ _)
        have bel13_ : Below w.heap.size w wy9_ := by rw [hwy9_]; exact (bel8_.alloc bel8_.size (.cells (natsV .u64 (zeros 4)).toArray 24))
        have hHeld3 : wy9_.rangeAt G86 0 (natsV .u64 lub) ∧ wy9_.rangeAt G15 0 (natsV .u64 lm) := by rw [hwy9_]; exact hHeld
        clear hHeld
        have hHeld := hHeld3
        clear hHeld3
        refine world_as_ hwy9_ ?_
        clear hwy9_
        have hlu := X10_.out.lt
        have hlm := X11_.out.lt
        have hlz := (bel13_).size
        refine wpAnyH_ready (rs := [7]) (by kernel_rfl) (by simp) ?_
        refine AllReadyH.cons (o := _) rfl (fun K hK => ?_) AllReadyH.nil
        rw [if_pos (by rfl)]
        refine wst24 (.tmp 13) (.tmp 76) rfl (wx5_.heap.size) rfl lw rfl LW.out (zeros 4) Z12_.out rfl ?_
        refine hK.out _ _ (⟨blk_rangeV (X10_.out.row (natsV .u64 lw).toArray (show G86 ≠ (wx5_.heap.size) by first | assumption | exact Ne.symm (by assumption) | omega)), blk_rangeV (X11_.out.row (natsV .u64 lw).toArray (show G15 ≠ (wx5_.heap.size) by first | assumption | exact Ne.symm (by assumption) | omega))⟩) (fun hHeld2 => ?_)
        clear hK K hHeld
        have hHeld := hHeld2
        clear hHeld2
        try simp only [Act.put, List.getElem_toArray, List.getElem_cons_succ, List.getElem_cons_zero, List.setIfInBounds_toArray, List.set_cons_zero, List.set_cons_succ]
        refine wpAnyH_done (by kernel_rfl) ?_ _
        go_wp2_with fail
        go_meet
        exact ⟨_, rfl, Z12_.out.setRow (natsV .u64 lw), X11_.out.row _ (show G15 ≠ (wx5_.heap.size) by first | assumption | exact Ne.symm (by assumption) | omega), X10_.out.row _ (show G86 ≠ (wx5_.heap.size) by first | assumption | exact Ne.symm (by assumption) | omega), below_setRow' bel13_ (by omega) _⟩
      · have hnb6_u := X2_.out.lt
        have hnb6_m := X3_.out.lt
        go_simp
        refine hK.out _ _ (keepF2 ((Below.refl _ _).alloc (Nat.le_refl _) _) hHeld) (fun hHeld2 => ?_)
        clear hK K hHeld
        have hHeld := hHeld2
        clear hHeld2
        try simp only [Act.put, List.getElem_toArray, List.getElem_cons_succ, List.getElem_cons_zero, List.setIfInBounds_toArray, List.set_cons_zero, List.set_cons_succ]
        obtain ⟨wy14_, hwy14_⟩ : ∃ W_ : World, W_ = (wx1_).alloc (.cells (natsV .u64 (zeros 4)).toArray 24) := ⟨_, rfl⟩
        have X15_ := Lib.hid (show Blk wy14_ G86 24 (natsV .u64 lub) from by rw [hwy14_]; exact X2_.out.alloc (.cells (natsV .u64 (zeros 4)).toArray 24))
        have X16_ := Lib.hid (show Blk wy14_ G15 24 (natsV .u64 lm) from by rw [hwy14_]; exact X3_.out.alloc (.cells (natsV .u64 (zeros 4)).toArray 24))
        have Z17_ := Lib.hid (show Blk wy14_ (wx1_.heap.size) 24 (natsV .u64 (zeros 4)) from by rw [hwy14_]; exact Blk.new _ _ _)
        have bel18_ : Below w.heap.size w wy14_ := by rw [hwy14_]; exact (bel4_.alloc bel4_.size (.cells (natsV .u64 (zeros 4)).toArray 24))
        have hHeld3 : wy14_.rangeAt G86 0 (natsV .u64 lub) ∧ wy14_.rangeAt G15 0 (natsV .u64 lm) := by rw [hwy14_]; exact hHeld
        clear hHeld
        have hHeld := hHeld3
        clear hHeld3
        refine world_as_ hwy14_ ?_
        clear hwy14_
        refine wpAnyH_ready (rs := [5]) (by kernel_rfl) (by simp) ?_
        refine AllReadyH.cons (o := _) rfl (fun K hK => ?_) AllReadyH.nil
        go_simp
        go_at_call 23
        refine (HFO.out _).mono ?_
        rintro e wx19_ ⟨rfl, hwx19_⟩
        refine hK.out _ _ (keepF2 hwx19_ hHeld) (fun hHeld2 => ?_)
        clear hK K hHeld
        have hHeld := hHeld2
        clear hHeld2
        try simp only [Act.put, List.getElem_toArray, List.getElem_cons_succ, List.getElem_cons_zero, List.setIfInBounds_toArray, List.set_cons_zero, List.set_cons_succ]
        have X20_ := Lib.hid (X15_.out.below' hwx19_)
        have X21_ := Lib.hid (X16_.out.below' hwx19_)
        have X22_ := Lib.hid (Z17_.out.below' hwx19_)
        have bel23_ := bel18_.trans (hwx19_.mono bel18_.size)
        have hlu := X20_.out.lt
        have hlm := X21_.out.lt
        have hlz := (bel23_).size
        refine wpAnyH_ready (rs := [7]) (by kernel_rfl) (by simp) ?_
        refine AllReadyH.cons (o := _) rfl (fun K hK => ?_) AllReadyH.nil
        rw [if_pos (by rfl)]
        refine wst24 (.tmp 13) (.tmp 76) rfl (wx1_.heap.size) rfl lw rfl LW.out (zeros 4) X22_.out rfl ?_
        refine hK.out _ _ (⟨blk_rangeV (X20_.out.row (natsV .u64 lw).toArray (show G86 ≠ (wx1_.heap.size) by first | assumption | exact Ne.symm (by assumption) | omega)), blk_rangeV (X21_.out.row (natsV .u64 lw).toArray (show G15 ≠ (wx1_.heap.size) by first | assumption | exact Ne.symm (by assumption) | omega))⟩) (fun hHeld2 => ?_)
        clear hK K hHeld
        have hHeld := hHeld2
        clear hHeld2
        try simp only [Act.put, List.getElem_toArray, List.getElem_cons_succ, List.getElem_cons_zero, List.setIfInBounds_toArray, List.set_cons_zero, List.set_cons_succ]
        refine wpAnyH_done (by kernel_rfl) ?_ _
        go_wp2_with fail
        go_meet
        exact ⟨_, rfl, X22_.out.setRow (natsV .u64 lw), X21_.out.row _ (show G15 ≠ (wx1_.heap.size) by first | assumption | exact Ne.symm (by assumption) | omega), X20_.out.row _ (show G86 ≠ (wx1_.heap.size) by first | assumption | exact Ne.symm (by assumption) | omega), below_setRow' bel23_ (by omega) _⟩
    · have hnb6_u := D88.out.drew.lt
      have hnb6_m := D87.out.drew.lt
      go_simp
      refine hK.out _ _ (keepF2 ((Below.refl _ _).alloc (Nat.le_refl _) _) hHeld) (fun hHeld2 => ?_)
      clear hK K hHeld
      have hHeld := hHeld2
      clear hHeld2
      try simp only [Act.put, List.getElem_toArray, List.getElem_cons_succ, List.getElem_cons_zero, List.setIfInBounds_toArray, List.set_cons_zero, List.set_cons_succ]
      obtain ⟨wy24_, hwy24_⟩ : ∃ W_ : World, W_ = (w81.drew).alloc (.cells (natsV .u64 (zeros 4)).toArray 24) := ⟨_, rfl⟩
      have X25_ := Lib.hid (show Blk wy24_ G86 24 (natsV .u64 lub) from by rw [hwy24_]; exact D88.out.drew.alloc (.cells (natsV .u64 (zeros 4)).toArray 24))
      have X26_ := Lib.hid (show Blk wy24_ G15 24 (natsV .u64 lm) from by rw [hwy24_]; exact D87.out.drew.alloc (.cells (natsV .u64 (zeros 4)).toArray 24))
      have Z27_ := Lib.hid (show Blk wy24_ (w81.drew.heap.size) 24 (natsV .u64 (zeros 4)) from by rw [hwy24_]; exact Blk.new _ _ _)
      have bel28_ : Below w.heap.size w wy24_ := by rw [hwy24_]; exact (hbel89.drew.alloc hbel89.drew.size (.cells (natsV .u64 (zeros 4)).toArray 24))
      have hHeld3 : wy24_.rangeAt G86 0 (natsV .u64 lub) ∧ wy24_.rangeAt G15 0 (natsV .u64 lm) := by rw [hwy24_]; exact hHeld
      clear hHeld
      have hHeld := hHeld3
      clear hHeld3
      refine world_as_ hwy24_ ?_
      clear hwy24_
      refine wpAnyH_ready (rs := [3]) (by kernel_rfl) (by simp) ?_
      refine AllReadyH.cons (o := _) rfl (fun K hK => ?_) AllReadyH.nil
      go_simp
      go_at_call 30
      refine (HMU.out _).mono ?_
      rintro e wx29_ ⟨rfl, hwx29_⟩
      refine hK.out _ _ (keepF2 hwx29_ hHeld) (fun hHeld2 => ?_)
      clear hK K hHeld
      have hHeld := hHeld2
      clear hHeld2
      try simp only [Act.put, List.getElem_toArray, List.getElem_cons_succ, List.getElem_cons_zero, List.setIfInBounds_toArray, List.set_cons_zero, List.set_cons_succ]
      have X30_ := Lib.hid (X25_.out.below' hwx29_)
      have X31_ := Lib.hid (X26_.out.below' hwx29_)
      have X32_ := Lib.hid (Z27_.out.below' hwx29_)
      have bel33_ := bel28_.trans (hwx29_.mono bel28_.size)
      refine wpAnyH_ready (rs := [5]) (by kernel_rfl) (by simp) ?_
      refine AllReadyH.cons (o := _) rfl (fun K hK => ?_) AllReadyH.nil
      go_simp
      go_at_call 23
      refine (HFO.out _).mono ?_
      rintro e wx34_ ⟨rfl, hwx34_⟩
      refine hK.out _ _ (keepF2 hwx34_ hHeld) (fun hHeld2 => ?_)
      clear hK K hHeld
      have hHeld := hHeld2
      clear hHeld2
      try simp only [Act.put, List.getElem_toArray, List.getElem_cons_succ, List.getElem_cons_zero, List.setIfInBounds_toArray, List.set_cons_zero, List.set_cons_succ]
      have X35_ := Lib.hid (X30_.out.below' hwx34_)
      have X36_ := Lib.hid (X31_.out.below' hwx34_)
      have X37_ := Lib.hid (X32_.out.below' hwx34_)
      have bel38_ := bel33_.trans (hwx34_.mono bel33_.size)
      have hlu := X35_.out.lt
      have hlm := X36_.out.lt
      have hlz := (bel38_).size
      refine wpAnyH_ready (rs := [7]) (by kernel_rfl) (by simp) ?_
      refine AllReadyH.cons (o := _) rfl (fun K hK => ?_) AllReadyH.nil
      rw [if_pos (by rfl)]
      refine wst24 (.tmp 13) (.tmp 76) rfl (w81.drew.heap.size) rfl lw rfl LW.out (zeros 4) X37_.out rfl ?_
      refine hK.out _ _ (⟨blk_rangeV (X35_.out.row (natsV .u64 lw).toArray (show G86 ≠ (w81.drew.heap.size) by first | assumption | exact Ne.symm (by assumption) | omega)), blk_rangeV (X36_.out.row (natsV .u64 lw).toArray (show G15 ≠ (w81.drew.heap.size) by first | assumption | exact Ne.symm (by assumption) | omega))⟩) (fun hHeld2 => ?_)
      clear hK K hHeld
      have hHeld := hHeld2
      clear hHeld2
      try simp only [Act.put, List.getElem_toArray, List.getElem_cons_succ, List.getElem_cons_zero, List.setIfInBounds_toArray, List.set_cons_zero, List.set_cons_succ]
      refine wpAnyH_done (by kernel_rfl) ?_ _
      go_wp2_with fail
      go_meet
      exact ⟨_, rfl, X37_.out.setRow (natsV .u64 lw), X36_.out.row _ (show G15 ≠ (w81.drew.heap.size) by first | assumption | exact Ne.symm (by assumption) | omega), X35_.out.row _ (show G86 ≠ (w81.drew.heap.size) by first | assumption | exact Ne.symm (by assumption) | omega), below_setRow' bel38_ (by omega) _⟩
  case rest =>
  obtain ⟨g13, rfl, k1, k2, k3, hbelc⟩ := hcut
  have C1_ := Lib.hid k1
  have C2_ := Lib.hid k2
  have C3_ := Lib.hid k3
  clear k1 k2 k3 D87 D88
  as_aux_lemma =>
  go_wp2_with (first | (refine ld24 rfl (.tmp 13) rfl g13 rfl lw C1_.out LW.out ?_))
  refine (HR2.out _).mono ?_
  rintro e w90 ⟨rfl, hbw90⟩
  have C91 := Lib.hid (C1_.out.below' hbw90)
  have C92 := Lib.hid (C2_.out.below' hbw90)
  have C93 := Lib.hid (C3_.out.below' hbw90)
  have hbel94 := hbelc.trans (hbw90.mono hbelc.size)
  clear C1_ C2_ C3_ hbw90 hbelc
  have Z96 := Lib.hid (Blk.new w90 24 (natsV .u64 (zeros 4)))
  have hz97 := Lib.hid (below_setRow' (hbel94.alloc hbel94.size (.cells (natsV .u64 (zeros 4)).toArray 24)) hbel94.size (natsV .u64 lt).toArray)
  have Y98 := Lib.hid ((C91.out.alloc (.cells (natsV .u64 (zeros 4)).toArray 24)).row (natsV .u64 lt).toArray (Nat.ne_of_lt C91.out.lt))
  have Y99 := Lib.hid ((C92.out.alloc (.cells (natsV .u64 (zeros 4)).toArray 24)).row (natsV .u64 lt).toArray (Nat.ne_of_lt C92.out.lt))
  have Y100 := Lib.hid ((C93.out.alloc (.cells (natsV .u64 (zeros 4)).toArray 24)).row (natsV .u64 lt).toArray (Nat.ne_of_lt C93.out.lt))
  have Y101 := Lib.hid (Z96.out.setRow (natsV .u64 lt))
  go_wp2_with (first | (refine st24 rfl (.tmp 14) (.tmp 80) rfl w90.heap.size rfl lt rfl LT.out (zeros 4) Z96.out rfl ?_; generalize hW : World.setRow _ _ _ = w95; have D103 := Lib.hid (show Blk w95 g13 24 (natsV .u64 lw) from (by rw [← hW]; exact Y98.out)); have D104 := Lib.hid (show Blk w95 G15 24 (natsV .u64 lm) from (by rw [← hW]; exact Y99.out)); have D105 := Lib.hid (show Blk w95 G86 24 (natsV .u64 lub) from (by rw [← hW]; exact Y100.out)); have D106 := Lib.hid (show Blk w95 w90.heap.size 24 (natsV .u64 lt) from (by rw [← hW]; exact Y101.out)); have LE_D106 := (hbel94).size; have NE_D103 := Nat.ne_of_lt C91.out.lt; have NE_D104 := Nat.ne_of_lt C92.out.lt; have NE_D105 := Nat.ne_of_lt C93.out.lt; have hbel107 : Below w.heap.size w w95 := (by rw [← hW]; exact hz97.out); clear hW Z96 hz97 C91 C92 C93 Y98 Y99 Y100 Y101 hbel94; generalize w90.heap.size = G102 at *) | (refine ld24 rfl (.tmp 14) rfl G102 rfl lt D106.out LT.out ?_))
  refine (HOU.out _).mono ?_
  rintro e w108 ⟨rfl, hbw108⟩
  have C109 := Lib.hid (D103.out.below' hbw108)
  have C110 := Lib.hid (D104.out.below' hbw108)
  have C111 := Lib.hid (D105.out.below' hbw108)
  have C112 := Lib.hid (D106.out.below' hbw108)
  have hbel113 := hbel107.trans (hbw108.mono hbel107.size)
  clear D103 D104 D105 D106 hbw108 hbel107
  have Z115 := Lib.hid (Blk.new w108 24 (natsV .u64 (zeros 4)))
  have hz116 := Lib.hid (below_setRow' (hbel113.alloc hbel113.size (.cells (natsV .u64 (zeros 4)).toArray 24)) hbel113.size (natsV .u64 lub).toArray)
  have Y117 := Lib.hid ((C109.out.alloc (.cells (natsV .u64 (zeros 4)).toArray 24)).row (natsV .u64 lub).toArray (Nat.ne_of_lt C109.out.lt))
  have Y118 := Lib.hid ((C110.out.alloc (.cells (natsV .u64 (zeros 4)).toArray 24)).row (natsV .u64 lub).toArray (Nat.ne_of_lt C110.out.lt))
  have Y119 := Lib.hid ((C111.out.alloc (.cells (natsV .u64 (zeros 4)).toArray 24)).row (natsV .u64 lub).toArray (Nat.ne_of_lt C111.out.lt))
  have Y120 := Lib.hid ((C112.out.alloc (.cells (natsV .u64 (zeros 4)).toArray 24)).row (natsV .u64 lub).toArray (Nat.ne_of_lt C112.out.lt))
  have Y121 := Lib.hid (Z115.out.setRow (natsV .u64 lub))
  have q := eqS lub LUB.out
  go_wp2_with (first | (refine st24 rfl (.tmp 16) (.tmp 85) rfl w108.heap.size rfl lub rfl LV.out (zeros 4) Z115.out rfl ?_; generalize hW : World.setRow _ _ _ = w114; have D123 := Lib.hid (show Blk w114 g13 24 (natsV .u64 lw) from (by rw [← hW]; exact Y117.out)); have D124 := Lib.hid (show Blk w114 G15 24 (natsV .u64 lm) from (by rw [← hW]; exact Y118.out)); have D125 := Lib.hid (show Blk w114 G86 24 (natsV .u64 lub) from (by rw [← hW]; exact Y119.out)); have D126 := Lib.hid (show Blk w114 G102 24 (natsV .u64 lt) from (by rw [← hW]; exact Y120.out)); have D127 := Lib.hid (show Blk w114 w108.heap.size 24 (natsV .u64 lub) from (by rw [← hW]; exact Y121.out)); have LE_D127 := (hbel113).size; have NE_D123 := Nat.ne_of_lt C109.out.lt; have NE_D124 := Nat.ne_of_lt C110.out.lt; have NE_D125 := Nat.ne_of_lt C111.out.lt; have NE_D126 := Nat.ne_of_lt C112.out.lt; have hbel128 : Below w.heap.size w w114 := (by rw [← hW]; exact hz116.out); clear hW Z115 hz116 C109 C110 C111 C112 Y117 Y118 Y119 Y120 Y121 hbel113; generalize w108.heap.size = G122 at *; have c0 := D127.out.nat 0 (by rw [LV.out]; decide); rw [V0] at c0) | (refine ldw 24 (.tmp 16) rfl G122 rfl .u64 lub D127.out _ _ Try.underlying24 (by rw [info24, LV.out]) 14 rfl 101 rfl rfl ?_) | (refine ldw 24 (.tmp 12) rfl G86 rfl .u64 lub D125.out _ _ Try.underlying24 (by rw [info24, LUB.out]) 14 rfl 101 rfl rfl ?_; as_aux_lemma => (go_wp2_with fail; go_ret; exact ⟨rfl, hbel128⟩)))
end Go.Proofs.Ytfaoajljaggklaa
