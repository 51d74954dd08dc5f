/- Parts of proofs of statements, each text behind those that it stands on. No condition of its own. -/
import Derived.Test.YtfffmoolkgheaaaY35
namespace Go.Proofs.Ytfffmoolkgheaaa
open Go.RowKit
set_option linter.unusedVariables false
set_option linter.unusedSimpArgs false
theorem lit_B : (.agg #[.int .u64 4309448131093880907, .int .u64 7285987128567378166, .int .u64 12964664127075681980, .int .u64 6540974713487397863] : Value) = .agg (natsV .u64 (nw bP)).toArray := by
  rw [show nw bP = [4309448131093880907, 7285987128567378166, 12964664127075681980, 6540974713487397863] by decide +kernel]; rfl
def lGX : List Nat := [17627433388654248598, 8575836109218198432, 17923454489921339634, 7716867327612699207]
theorem lGX_eq : nw gX = lGX := by decide +kernel
def lGY : List Nat := [14678990851816772085, 3156516839386865358, 10297457778147434006, 5756518291402817435]
theorem lGY_eq : nw gY = lGY := by decide +kernel
def lB : List Nat := [4309448131093880907, 7285987128567378166, 12964664127075681980, 6540974713487397863]
theorem lB_eq : nw bP = lB := by decide +kernel
set_option maxRecDepth 100000 in
set_option maxHeartbeats 800000 in
theorem dB_any (w : World) :
    Calls Try.prog 105 #[] w fun e w' => e = .returned (.agg (natsV .u64 (nw bP)).toArray) ∧ Below w.heap.size w w' := by
  rw [lB_eq]
  have B0_ := Lib.hid (Blk.new w  24 (natsV .u64 (zeros 4)))
  have bel_ := ((Below.refl w.heap.size w).alloc (Nat.le_refl _) (.cells (natsV .u64 (zeros 4)).toArray 24))
  go_enter Try.func105, Try.ntmps105
  go_wp2_with (first | (refine stB rfl 24 (.tmp 0) (.tmp 1) rfl w.heap.size rfl (natsV .u64 lB) rfl 24 (natsV .u64 (zeros 4)) B0_.out (i24 (show (lB).length = 4 from rfl)) (lenEq (show (natsV .u64 (zeros 4)).length = 4 from rfl) (by rw [natsV_length, (show (lB).length = 4 from rfl)])) (natsV_one _ _) ?_))
  refine bodyPost_ret (v := .agg (natsV .u64 lB).toArray) ?_ rfl ⟨rfl, below_setRow' bel_ (by first | exact Nat.le_refl _ | omega) _⟩
  exact results_cell_row Try.results105 _ _ w.heap.size 24 _ (0, 0) _ rfl (B0_.out.setRow _) Try.underlying24 rfl (by simpa using (i24 (show (lB).length = 4 from rfl)))
set_option maxRecDepth 100000 in
set_option maxHeartbeats 800000 in
theorem base_any (w : World) :
    Calls Try.prog 30 #[] w fun e w' => e = .returned (.agg (pv (nw gX) (nw gY) false).toArray) ∧ Below w.heap.size w w' := by
  rw [lGX_eq, lGY_eq]
  have B0_ := Lib.hid (Blk.new w  43 (pv (zeros 4) (zeros 4) false))
  have bel_ := ((Below.refl w.heap.size w).alloc (Nat.le_refl _) (.cells (pv (zeros 4) (zeros 4) false).toArray 43))
  go_enter Try.func30, Try.ntmps30
  go_wp2_with (first | (refine stB rfl 43 (.tmp 0) (.tmp 3) rfl w.heap.size rfl (pv lGX lGY false) rfl 43 (pv (zeros 4) (zeros 4) false) B0_.out (i43 (show lGX.length = 4 from rfl) (show lGY.length = 4 from rfl)) (lenEq (show (pv (zeros 4) (zeros 4) false).length = 9 from rfl) (pv_len (show lGX.length = 4 from rfl) (show lGY.length = 4 from rfl))) (pv_one _ _ _) ?_))
  refine bodyPost_ret (v := .agg (pv lGX lGY false).toArray) ?_ rfl ⟨rfl, below_setRow' bel_ (by first | exact Nat.le_refl _ | omega) _⟩
  exact results_cell_row Try.results30 _ _ w.heap.size 43 _ (0, 0) _ rfl (B0_.out.setRow _) Try.underlying43 rfl (by simpa using (i43 (show lGX.length = 4 from rfl) (show lGY.length = 4 from rfl)))
set_option maxRecDepth 100000 in
set_option maxHeartbeats 800000 in
theorem dbase_any (w : World) :
    Calls Try.prog 31 #[] w fun e w' => e = .returned (.agg (pv (nw gX) (nw gY) false).toArray) ∧ Below w.heap.size w w' := by
  rw [lGX_eq, lGY_eq]
  have B0_ := Lib.hid (Blk.new w  43 (pv (zeros 4) (zeros 4) false))
  have bel_ := ((Below.refl w.heap.size w).alloc (Nat.le_refl _) (.cells (pv (zeros 4) (zeros 4) false).toArray 43))
  go_enter Try.func31, Try.ntmps31
  go_wp2_with (first | (refine stB rfl 43 (.tmp 0) (.tmp 3) rfl w.heap.size rfl (pv lGX lGY false) rfl 43 (pv (zeros 4) (zeros 4) false) B0_.out (i43 (show lGX.length = 4 from rfl) (show lGY.length = 4 from rfl)) (lenEq (show (pv (zeros 4) (zeros 4) false).length = 9 from rfl) (pv_len (show lGX.length = 4 from rfl) (show lGY.length = 4 from rfl))) (pv_one _ _ _) ?_))
  refine bodyPost_ret (v := .agg (pv lGX lGY false).toArray) ?_ rfl ⟨rfl, below_setRow' bel_ (by first | exact Nat.le_refl _ | omega) _⟩
  exact results_cell_row Try.results31 _ _ w.heap.size 43 _ (0, 0) _ rfl (B0_.out.setRow _) Try.underlying43 rfl (by simpa using (i43 (show lGX.length = 4 from rfl) (show lGY.length = 4 from rfl)))
end Go.Proofs.Ytfffmoolkgheaaa
namespace Go.Proofs.Ytfffmoolkgheaaa
open Go.RowKit
set_option linter.unusedVariables false
set_option linter.unusedSimpArgs false
set_option maxRecDepth 100000 in
set_option maxHeartbeats 1600000 in
theorem allon {l1 m1 l2 m2 : List Nat} {i1 i2 b1 b2 : Bool} (hl1 : l1.length = 4) (hm1 : m1.length = 4) (hl2 : l2.length = 4) (hm2 : m2.length = 4)
    (h1 : ∀ w, Calls Try.prog 29 #[.agg (pv l1 m1 i1).toArray] w fun e w' => e = .returned (.bool b1) ∧ Below w.heap.size w w')
    (h2 : ∀ w, Calls Try.prog 29 #[.agg (pv l2 m2 i2).toArray] w fun e w' => e = .returned (.bool b2) ∧ Below w.heap.size w w')
    (g : Nat) (w : World) (hr1 : w.rangeAt g 0 (pv l1 m1 i1)) (hr2 : w.rangeAt g 9 (pv l2 m2 i2)) :
    Calls Try.prog 80 #[.slice (some ⟨g, 0, none⟩) 2 2] w fun e w' => e = .returned (.bool (b1 && b2)) ∧ Below w.heap.size w w' := by
  have L_l1 := Lib.hid hl1
  have L_m1 := Lib.hid hm1
  have L_l2 := Lib.hid hl2
  have L_m2 := Lib.hid hm2
  have H1 := Lib.hid h1
  have H2 := Lib.hid h2
  have R1 := Lib.hid hr1
  have R2 := Lib.hid hr2
  clear hl1 hm1 hl2 hm2 h1 h2 hr1 hr2
  go_enter Try.func80, Try.ntmps80
  go_wp2_with fail
  go_loopw [7] (fun i wr => ∃ t : Nat, t ≤ 2 ∧ i = .int .i64 t ∧ (0 < t → b1 = true) ∧ (1 < t → b2 = true) ∧ Below w.heap.size w wr) (fun i _ => 2 - (intOf i).toNat)
  case atStart => exact ⟨0, by omega, rfl, fun h => by omega, fun h => by omega, Below.refl _ _⟩
  case round =>
    obtain ⟨t, ht, rfl, k1, k2, hbel⟩ := hrel
    have ht3 : t = 0 ∨ t = 1 ∨ t = 2 := by omega
    clear ht
    rcases ht3 with rfl | rfl | rfl
    · clear k1 k2
      have RR := range_gr R1.out hbel
      go_wp2_with (first | (refine wpList_load_mid rfl 43 (.tmp 9) rfl g 0 rfl (pv l1 m1 i1) _ RR Try.underlying43 rfl (i43 L_l1.out L_m1.out) ?_) | (refine stB rfl 43 (.tmp 4) (.tmp 10) rfl wr.heap.size rfl (pv l1 m1 i1) rfl 43 (pv (zeros 4) (zeros 4) false) (Blk.new wr 43 (pv (zeros 4) (zeros 4) false)) (i43 L_l1.out L_m1.out) (lenEq (show (pv (zeros 4) (zeros 4) false).length = 9 from rfl) (pv_len L_l1.out L_m1.out)) (pv_one _ _ _) ?_; generalize hW : World.setRow _ _ _ = wq; obtain ⟨hg1, hn1⟩ := newfacts hW; clear hW; have D1 := Lib.hid hn1; have hbel2 := hbel.trans (Below.mono hg1 hbel.size); clear hn1 hg1 RR hbel; generalize wr.heap.size = gq at *) | (refine wpList_load_mid rfl 43 (.tmp 4) rfl gq 0 rfl (pv l1 m1 i1) _ (blk_all D1.out) Try.underlying43 rfl (i43 L_l1.out L_m1.out) ?_))
      refine (H1.out _).mono ?_
      rintro e wz ⟨rfl, hbz⟩
      have hbel3 := hbel2.trans (Below.mono hbz hbel2.size)
      clear hbz hbel2 D1
      cases hb : b1
      · go_wp2_with fail
        go_ret
        exact ⟨by rw [hb]; rfl, hbel3⟩
      · have hbh := Lib.hid hb
        clear hb
        go_wp2_with fail
        go_roundw
        case rel => exact ⟨1, by omega, by go_num, fun _ => hbh.out, fun _ => by omega, hbel3⟩
        case measure => simp [intOf] <;> omega
    · have hb1 := Lib.hid (k1 (by omega))
      clear k1 k2
      have RR := range_gr R2.out hbel
      go_wp2_with (first | (refine wpList_load_mid rfl 43 (.tmp 9) rfl g 9 rfl (pv l2 m2 i2) _ RR Try.underlying43 rfl (i43 L_l2.out L_m2.out) ?_) | (refine stB rfl 43 (.tmp 4) (.tmp 10) rfl wr.heap.size rfl (pv l2 m2 i2) rfl 43 (pv (zeros 4) (zeros 4) false) (Blk.new wr 43 (pv (zeros 4) (zeros 4) false)) (i43 L_l2.out L_m2.out) (lenEq (show (pv (zeros 4) (zeros 4) false).length = 9 from rfl) (pv_len L_l2.out L_m2.out)) (pv_one _ _ _) ?_; generalize hW : World.setRow _ _ _ = wq; obtain ⟨hg1, hn1⟩ := newfacts hW; clear hW; have D1 := Lib.hid hn1; have hbel2 := hbel.trans (Below.mono hg1 hbel.size); clear hn1 hg1 RR hbel; generalize wr.heap.size = gq at *) | (refine wpList_load_mid rfl 43 (.tmp 4) rfl gq 0 rfl (pv l2 m2 i2) _ (blk_all D1.out) Try.underlying43 rfl (i43 L_l2.out L_m2.out) ?_))
      refine (H2.out _).mono ?_
      rintro e wz ⟨rfl, hbz⟩
      have hbel3 := hbel2.trans (Below.mono hbz hbel2.size)
      clear hbz hbel2 D1
      cases hb : b2
      · go_wp2_with fail
        go_ret
        exact ⟨by rw [hb1.out, hb]; rfl, hbel3⟩
      · have hbh := Lib.hid hb
        clear hb
        go_wp2_with fail
        go_roundw
        case rel => exact ⟨2, by omega, by go_num, fun _ => hb1.out, fun _ => hbh.out, hbel3⟩
        case measure => simp [intOf] <;> omega
    · have hb1 := Lib.hid (k1 (by omega))
      have hb2 := Lib.hid (k2 (by omega))
      clear k1 k2
      go_wp2_with fail
      go_ret
      exact ⟨by rw [hb1.out, hb2.out]; rfl, hbel⟩
end Go.Proofs.Ytfffmoolkgheaaa
namespace Go.Proofs.Ytfffmoolkgheaaa
open Go.RowKit
set_option linter.unusedVariables false
set_option linter.unusedSimpArgs false
set_option maxRecDepth 100000 in
set_option maxHeartbeats 1600000 in
theorem add_no {lx ly mx my : List Nat} {ip iq : Bool} (hlx : lx.length = 4) (hly : ly.length = 4) (hmx : mx.length = 4) (hmy : my.length = 4)
    (cal : ∀ g w, w.rangeAt g 0 (pv lx ly ip) → w.rangeAt g 9 (pv mx my iq) → Calls Try.prog 80 #[.slice (some ⟨g, 0, none⟩) 2 2] w fun e w' => e = .returned (.bool false) ∧ Below w.heap.size w w') (w : World) :
    Calls Try.prog 38 #[.agg (pv lx ly ip).toArray, .agg (pv mx my iq).toArray] w fun e w' => e = .returned (.tuple #[.agg (pv (zeros 4) (zeros 4) false).toArray, .int .i64 62]) ∧ Below w.heap.size w w' := by
  have L_lx := Lib.hid hlx
  clear hlx
  have L_ly := Lib.hid hly
  clear hly
  have L_mx := Lib.hid hmx
  clear hmx
  have L_my := Lib.hid hmy
  clear hmy
  have HAL := Lib.hid cal
  clear cal
  have B0_ := Lib.hid (((Blk.new w  43 (pv lx ly ip)).alloc (.cells (pv mx my iq).toArray 43)).alloc (.cells (pv (zeros 4) (zeros 4) false).toArray 43))
  have B1_ := Lib.hid ((Blk.new2 w (.cells (pv lx ly ip).toArray 43) 43 (pv mx my iq)).alloc (.cells (pv (zeros 4) (zeros 4) false).toArray 43))
  have B2_ := Lib.hid (Blk.new3 w (.cells (pv lx ly ip).toArray 43) (.cells (pv mx my iq).toArray 43) 43 (pv (zeros 4) (zeros 4) false))
  have bel_ := ((((Below.refl w.heap.size w).alloc (Nat.le_refl _) (.cells (pv lx ly ip).toArray 43)).alloc (by simp) (.cells (pv mx my iq).toArray 43)).alloc (by simp; omega) (.cells (pv (zeros 4) (zeros 4) false).toArray 43))
  go_enter Try.func38, Try.ntmps38
  go_wp2_with (first | (refine wpList_load_mid rfl 43 (.tmp 2) rfl w.heap.size 0 rfl (pv lx ly ip) _ (blk_all (B0_.out)) Try.underlying43 rfl (i43 L_lx.out L_ly.out) ?_) | (refine wpList_load_mid rfl 43 (.tmp 3) rfl (w.heap.size + 1) 0 rfl (pv mx my iq) _ (blk_all (B1_.out)) Try.underlying43 rfl (i43 L_mx.out L_my.out) ?_) | (refine bs2p rfl (.tmp 6) (.tmp 7) rfl rfl rfl L_lx.out L_ly.out L_mx.out L_my.out ?_))
  have TR := two_r (Blk.newAt (W := (((w.alloc (.cells (pv lx ly ip).toArray 43)).alloc (.cells (pv mx my iq).toArray 43)).alloc (.cells (pv (zeros 4) (zeros 4) false).toArray 43))) (g := (w.heap.size + 1 + 1 + 1)) 43 ((pv lx ly ip) ++ (pv mx my iq)) (by simp)) (pv_len L_lx.out L_ly.out)
  refine (HAL.out (w.heap.size + 1 + 1 + 1) _ TR.1 TR.2).mono ?_
  rintro e w1 ⟨rfl, hbw1⟩
  clear TR
  have C2 := Lib.hid (B0_.out.gr (Gr.alloc _ (Obj.cells ((pv lx ly ip) ++ (pv mx my iq)).toArray 43)))
  clear B0_
  have C3 := Lib.hid (B1_.out.gr (Gr.alloc _ (Obj.cells ((pv lx ly ip) ++ (pv mx my iq)).toArray 43)))
  clear B1_
  have C4 := Lib.hid (B2_.out.gr (Gr.alloc _ (Obj.cells ((pv lx ly ip) ++ (pv mx my iq)).toArray 43)))
  clear B2_
  have hbel5 := bel_.trans (Below.mono (Gr.alloc _ (Obj.cells ((pv lx ly ip) ++ (pv mx my iq)).toArray 43)) bel_.size)
  clear bel_
  have C6 := Lib.hid (C2.out.gr hbw1)
  clear C2
  have C7 := Lib.hid (C3.out.gr hbw1)
  clear C3
  have C8 := Lib.hid (C4.out.gr hbw1)
  clear C4
  have hbel9 := hbel5.trans (Below.mono hbw1 hbel5.size)
  clear hbel5
  clear hbw1
  go_wp2_with (first | (refine stB rfl 43 (.tmp 4) (.tmp 11) rfl (w.heap.size + 1 + 1) rfl (pv (zeros 4) (zeros 4) false) rfl 43 (pv (zeros 4) (zeros 4) false) C8.out (i43 rfl rfl) (lenEq (show (pv (zeros 4) (zeros 4) false).length = 9 from rfl) (show (pv (zeros 4) (zeros 4) false).length = 9 from rfl)) (pv_one _ _ _) ?_))
  refine bodyPost_ret (v := .tuple #[.agg (pv (zeros 4) (zeros 4) false).toArray, .int .i64 62]) ?_ rfl ⟨rfl, below_setRow' hbel9 (by first | exact Nat.le_refl _ | omega) _⟩
  exact results_two Try.results38 _ _ (w.heap.size + 1 + 1) 43 _ (0, 0) _ _ rfl rfl (C8.out.setRow _) Try.underlying43 rfl (by simpa using (i43 rfl rfl))
set_option maxRecDepth 100000 in
set_option maxHeartbeats 3200000 in
theorem add_ok {lx ly mx my ax ay az bx by_ bz cx cy cz rx ry : List Nat} {ip iq ir : Bool} (hlx : lx.length = 4) (hly : ly.length = 4) (hmx : mx.length = 4) (hmy : my.length = 4) (hax : ax.length = 4) (hay : ay.length = 4) (haz : az.length = 4) (hbx : bx.length = 4) (hby_ : by_.length = 4) (hbz : bz.length = 4) (hcx : cx.length = 4) (hcy : cy.length = 4) (hcz : cz.length = 4) (hrx : rx.length = 4) (hry : ry.length = 4)
    (c1 : ∀ w, Calls Try.prog 81 #[.agg (pv lx ly ip).toArray] w fun e w' => e = .returned (.agg (tv ax ay az).toArray) ∧ Below w.heap.size w w')
    (c2 : ∀ w, Calls Try.prog 81 #[.agg (pv mx my iq).toArray] w fun e w' => e = .returned (.agg (tv bx by_ bz).toArray) ∧ Below w.heap.size w w')
    (c3 : ∀ w, Calls Try.prog 82 #[.agg (tv ax ay az).toArray, .agg (tv bx by_ bz).toArray] w fun e w' => e = .returned (.agg (tv cx cy cz).toArray) ∧ Below w.heap.size w w')
    (c4 : ∀ w, Calls Try.prog 83 #[.agg (tv cx cy cz).toArray] w fun e w' => e = .returned (.agg (pv rx ry ir).toArray) ∧ Below w.heap.size w w')
    (cal : ∀ g w, w.rangeAt g 0 (pv lx ly ip) → w.rangeAt g 9 (pv mx my iq) → Calls Try.prog 80 #[.slice (some ⟨g, 0, none⟩) 2 2] w fun e w' => e = .returned (.bool true) ∧ Below w.heap.size w w') (w : World) :
    Calls Try.prog 38 #[.agg (pv lx ly ip).toArray, .agg (pv mx my iq).toArray] w fun e w' => e = .returned (.tuple #[.agg (pv rx ry ir).toArray, .int .i64 0]) ∧ Below w.heap.size w w' := by
  have L_lx := Lib.hid hlx
  clear hlx
  have L_ly := Lib.hid hly
  clear hly
  have L_mx := Lib.hid hmx
  clear hmx
  have L_my := Lib.hid hmy
  clear hmy
  have L_ax := Lib.hid hax
  clear hax
  have L_ay := Lib.hid hay
  clear hay
  have L_az := Lib.hid haz
  clear haz
  have L_bx := Lib.hid hbx
  clear hbx
  have L_by_ := Lib.hid hby_
  clear hby_
  have L_bz := Lib.hid hbz
  clear hbz
  have L_cx := Lib.hid hcx
  clear hcx
  have L_cy := Lib.hid hcy
  clear hcy
  have L_cz := Lib.hid hcz
  clear hcz
  have L_rx := Lib.hid hrx
  clear hrx
  have L_ry := Lib.hid hry
  clear hry
  have Hc1 := Lib.hid c1
  clear c1
  have Hc2 := Lib.hid c2
  clear c2
  have Hc3 := Lib.hid c3
  clear c3
  have Hc4 := Lib.hid c4
  clear c4
  have HAL := Lib.hid cal
  clear cal
  have B0_ := Lib.hid (((Blk.new w  43 (pv lx ly ip)).alloc (.cells (pv mx my iq).toArray 43)).alloc (.cells (pv (zeros 4) (zeros 4) false).toArray 43))
  have B1_ := Lib.hid ((Blk.new2 w (.cells (pv lx ly ip).toArray 43) 43 (pv mx my iq)).alloc (.cells (pv (zeros 4) (zeros 4) false).toArray 43))
  have B2_ := Lib.hid (Blk.new3 w (.cells (pv lx ly ip).toArray 43) (.cells (pv mx my iq).toArray 43) 43 (pv (zeros 4) (zeros 4) false))
  have bel_ := ((((Below.refl w.heap.size w).alloc (Nat.le_refl _) (.cells (pv lx ly ip).toArray 43)).alloc (by simp) (.cells (pv mx my iq).toArray 43)).alloc (by simp; omega) (.cells (pv (zeros 4) (zeros 4) false).toArray 43))
  go_enter Try.func38, Try.ntmps38
  go_wp2_with (first | (refine wpList_load_mid rfl 43 (.tmp 2) rfl w.heap.size 0 rfl (pv lx ly ip) _ (blk_all (B0_.out)) Try.underlying43 rfl (i43 L_lx.out L_ly.out) ?_) | (refine wpList_load_mid rfl 43 (.tmp 3) rfl (w.heap.size + 1) 0 rfl (pv mx my iq) _ (blk_all (B1_.out)) Try.underlying43 rfl (i43 L_mx.out L_my.out) ?_) | (refine bs2p rfl (.tmp 6) (.tmp 7) rfl rfl rfl L_lx.out L_ly.out L_mx.out L_my.out ?_))
  have TR := two_r (Blk.newAt (W := (((w.alloc (.cells (pv lx ly ip).toArray 43)).alloc (.cells (pv mx my iq).toArray 43)).alloc (.cells (pv (zeros 4) (zeros 4) false).toArray 43))) (g := (w.heap.size + 1 + 1 + 1)) 43 ((pv lx ly ip) ++ (pv mx my iq)) (by simp)) (pv_len L_lx.out L_ly.out)
  refine (HAL.out (w.heap.size + 1 + 1 + 1) _ TR.1 TR.2).mono ?_
  rintro e w1 ⟨rfl, hbw1⟩
  clear TR
  have C2 := Lib.hid (B0_.out.gr (Gr.alloc _ (Obj.cells ((pv lx ly ip) ++ (pv mx my iq)).toArray 43)))
  clear B0_
  have C3 := Lib.hid (B1_.out.gr (Gr.alloc _ (Obj.cells ((pv lx ly ip) ++ (pv mx my iq)).toArray 43)))
  clear B1_
  have C4 := Lib.hid (B2_.out.gr (Gr.alloc _ (Obj.cells ((pv lx ly ip) ++ (pv mx my iq)).toArray 43)))
  clear B2_
  have hbel5 := bel_.trans (Below.mono (Gr.alloc _ (Obj.cells ((pv lx ly ip) ++ (pv mx my iq)).toArray 43)) bel_.size)
  clear bel_
  have C6 := Lib.hid (C2.out.gr hbw1)
  clear C2
  have C7 := Lib.hid (C3.out.gr hbw1)
  clear C3
  have C8 := Lib.hid (C4.out.gr hbw1)
  clear C4
  have hbel9 := hbel5.trans (Below.mono hbw1 hbel5.size)
  clear hbel5
  clear hbw1
  go_wp2_with fail
  as_aux_lemma =>
  refine wp_region_G (fun w_ => Blk w_ w.heap.size 43 (pv lx ly ip) ∧ Blk w_ (w.heap.size + 1) 43 (pv mx my iq)) 8 (by kernel_rfl) ⟨C6.out.drew, C7.out.drew⟩ ?_
  refine wpAnyG_take (fun _ _ hS_ hb_ => ⟨hS_.1.gr hb_, hS_.2.gr hb_⟩) (i := 0) rfl (by kernel_rfl) (fun _ _ _ h => h) (loadG (by rfl) _ _ rfl _ _ rfl (pv lx ly ip) _ (fun _ hS_ => blk_all (hS_.1)) Try.underlying43 rfl (i43 L_lx.out L_ly.out)) ?_
  try simp only [Act.put, zq1, zq2, zq3, zq4, zq5, zq6]
  refine wpAnyG_take (fun _ _ hS_ hb_ => ⟨hS_.1.gr hb_, hS_.2.gr hb_⟩) (i := 1) rfl (by kernel_rfl) (fun _ _ _ h => h) (callG (by rfl) rfl Try.func81 (by kernel_rfl) (by kernel_rfl) (#[.agg (pv lx ly ip).toArray]) (by simp [Act.eval]) (fun w _ => Hc1.out w)) ?_
  try simp only [Act.put, zq1, zq2, zq3, zq4, zq5, zq6]
  refine wpAnyG_take (fun _ _ hS_ hb_ => ⟨hS_.1.gr hb_, hS_.2.gr hb_⟩) (i := 2) rfl (by kernel_rfl) (fun _ _ _ h => h) (loadG (by rfl) _ _ rfl _ _ rfl (pv mx my iq) _ (fun _ hS_ => blk_all (hS_.2)) Try.underlying43 rfl (i43 L_mx.out L_my.out)) ?_
  try simp only [Act.put, zq1, zq2, zq3, zq4, zq5, zq6]
  refine wpAnyG_take (fun _ _ hS_ hb_ => ⟨hS_.1.gr hb_, hS_.2.gr hb_⟩) (i := 3) rfl (by kernel_rfl) (fun _ _ _ h => h) (callG (by rfl) rfl Try.func81 (by kernel_rfl) (by kernel_rfl) (#[.agg (pv mx my iq).toArray]) (by simp [Act.eval]) (fun w _ => Hc2.out w)) ?_
  try simp only [Act.put, zq1, zq2, zq3, zq4, zq5, zq6]
  refine wpAnyG_take (fun _ _ hS_ hb_ => ⟨hS_.1.gr hb_, hS_.2.gr hb_⟩) (i := 4) rfl (by kernel_rfl) (fun _ _ _ h => h) (callG (by rfl) rfl Try.func82 (by kernel_rfl) (by kernel_rfl) (#[.agg (tv ax ay az).toArray, .agg (tv bx by_ bz).toArray]) (by simp [Act.eval]) (fun w _ => Hc3.out w)) ?_
  try simp only [Act.put, zq1, zq2, zq3, zq4, zq5, zq6]
  refine wpAnyG_take (fun _ _ hS_ hb_ => ⟨hS_.1.gr hb_, hS_.2.gr hb_⟩) (i := 5) rfl (by kernel_rfl) (fun _ _ _ h => h) (callG (by rfl) rfl Try.func83 (by kernel_rfl) (by kernel_rfl) (#[.agg (tv cx cy cz).toArray]) (by simp [Act.eval]) (fun w _ => Hc4.out w)) ?_
  try simp only [Act.put, zq1, zq2, zq3, zq4, zq5, zq6]
  refine wpAnyG_store (i := 6) (by kernel_rfl) rfl C8.out.drew (lenEq (show (pv (zeros 4) (zeros 4) false).length = 9 from rfl) (pv_len L_rx.out L_ry.out)) (StoresG.mk (cs := (pv rx ry ir)) (by rfl) 43 _ _ rfl rfl rfl (i43 L_rx.out L_ry.out) (pv_one _ _ _)) (.inr (fun _ hS_ => ⟨hS_.1.row _ ((show w.heap.size ≠ (w.heap.size + 1 + 1) by omega)), hS_.2.row _ ((show (w.heap.size + 1) ≠ (w.heap.size + 1 + 1) by omega))⟩)) ?_
  intro w11 hgw11 hn_
  try simp only [Act.put, zq1, zq2, zq3, zq4, zq5, zq6]
  have E12 := Lib.hid (C6.out.drew.grown hgw11 (fun e => (show w.heap.size ≠ (w.heap.size + 1 + 1) by omega) (Option.some.inj e)))
  clear C6
  have E13 := Lib.hid (C7.out.drew.grown hgw11 (fun e => (show (w.heap.size + 1) ≠ (w.heap.size + 1 + 1) by omega) (Option.some.inj e)))
  clear C7
  have D14 := Lib.hid hn_
  clear hn_ C8
  have hbel15 := belStore hbel9.drew hgw11 (show w.heap.size ≤ (w.heap.size + 1 + 1) by omega)
  clear hgw11
  refine wpAnyG_take (fun _ _ hS_ hb_ => ⟨hS_.1.gr hb_, hS_.2.gr hb_⟩) (i := 7) rfl (by kernel_rfl) (fun _ _ _ h => h) (pureG (by rfl) (by intro w; go_simp; first | done | with_reducible rfl)) ?_
  try simp only [Act.put, zq1, zq2, zq3, zq4, zq5, zq6]
  refine wpAnyG_done (by kernel_rfl) ?_ _
  intro w16 hgw16
  try simp only [Act.put, zq1, zq2, zq3, zq4, zq5, zq6]
  have C17 := Lib.hid (E12.out.gr hgw16)
  clear E12
  have C18 := Lib.hid (E13.out.gr hgw16)
  clear E13
  have C19 := Lib.hid (D14.out.gr hgw16)
  clear D14
  have hbel20 := hbel15.trans (Below.mono hgw16 hbel15.size)
  clear hbel15
  clear hgw16
  as_aux_lemma =>
  go_wp2_with fail
  refine bodyPost_ret (v := .tuple #[.agg (pv rx ry ir).toArray, .int .i64 0]) ?_ rfl ⟨rfl, hbel20⟩
  exact results_two Try.results38 _ _ (w.heap.size + 1 + 1) 43 _ (0, 0) _ _ rfl rfl C19.out Try.underlying43 rfl (by simpa using (i43 L_rx.out L_ry.out))
end Go.Proofs.Ytfffmoolkgheaaa
namespace Go.Proofs.Ytfffmoolkgheaaa
open Go.RowKit
set_option linter.unusedVariables false
set_option linter.unusedSimpArgs false
def ad (k : Nat) (z p q s : List Nat) : List Nat := if k = 0 then z else if k = 1 then p else if k = 2 then q else s
end Go.Proofs.Ytfffmoolkgheaaa
namespace Go.Proofs.Ytfffmoolkgheaaa
open Go.RowKit
set_option linter.unusedVariables false
theorem three {n : Nat} [NeZero n] (x b : Fin n) : x * x * x - (x + x + x) + b = x * x * x - 3 * x + b := by grobner
def rsF (x : FP) : FP := x * x * x - 3 * x + bP
theorem k_rs (x : FP) : Ans 73 #[.agg (natsV .u64 (cw x)).toArray] (.agg (natsV .u64 (cw (rsF x))).toArray) := fun w => by
  have h := rside (cw_len x) (cw_len (fv bP.val)) (cw_len _) (cw_len _) (cw_len _) (cw_len _) (cw_len _) (cw_len _) (fun w => by rw [lit_B]; exact k_of bP.val (lt256 bP) w) (k_dbl x) (k_add _ x) (k_sq x) (k_mul _ x) (k_sub _ _) (k_add _ _) w
  rw [fv_of, three] at h
  exact h
def onB (x y : Nat) (i : Bool) : Bool := if i then decide (x = 0 ∧ y = 0) else decide (x < mP) && (decide (y < mP) && decide (fv y * fv y = rsF (fv x)))
theorem wds0 {x : Nat} (hx : x < 2 ^ 256) : wds 4 x = zeros 4 ↔ x = 0 := by
  rw [← num_zero]; exact ⟨fun h => wds_in4 hx (by decide) h, fun h => by rw [h]⟩
theorem k_on (x y : Nat) (i : Bool) (hx : x < 2 ^ 256) (hy : y < 2 ^ 256) : Ans 29 #[.agg (pv (wds 4 x) (wds 4 y) i).toArray] (.bool (onB x y i)) := fun w => by
  cases i with
  | true =>
    have h := on_inf (wds_len 4 x) (wds_len 4 y) cinf_any w
    rw [show decide (wds 4 x = zeros 4 ∧ wds 4 y = zeros 4) = decide (x = 0 ∧ y = 0) from by rw [decide_eq_decide, wds0 hx, wds0 hy]] at h
    exact h
  | false =>
    unfold onB
    rw [if_neg (by decide)]
    by_cases h1 : x < mP
    · have c1 : Ans 70 #[.agg (natsV .u64 (wds 4 x)).toArray] (.bool true) := fun w => by have k := cbelow_any x hx w; rw [decide_eq_true h1] at k; exact k
      rw [decide_eq_true h1, Bool.true_and]
      by_cases h2 : y < mP
      · have c2 : Ans 70 #[.agg (natsV .u64 (wds 4 y)).toArray] (.bool true) := fun w => by have k := cbelow_any y hy w; rw [decide_eq_true h2] at k; exact k
        rw [decide_eq_true h2, Bool.true_and]
        have h := on_c (wds_len 4 x) (wds_len 4 y) (cw_len _) (cw_len _) (cw_len _) (cw_len _) c1 c2 (k_of y hy) (k_sq _) (k_of x hx) (k_rs _) w
        rw [show decide (cw (fv y * fv y) = cw (rsF (fv x))) = decide (fv y * fv y = rsF (fv x)) from decide_eq_decide.2 ⟨cw_inj, fun h => by rw [h]⟩] at h
        exact h
      · have c2 : Ans 70 #[.agg (natsV .u64 (wds 4 y)).toArray] (.bool false) := fun w => by have k := cbelow_any y hy w; rw [decide_eq_false h2] at k; exact k
        rw [decide_eq_false h2, Bool.false_and]
        exact on_b (wds_len 4 x) (wds_len 4 y) c1 c2 w
    · have c1 : Ans 70 #[.agg (natsV .u64 (wds 4 x)).toArray] (.bool false) := fun w => by have k := cbelow_any x hx w; rw [decide_eq_false h1] at k; exact k
      rw [decide_eq_false h1, Bool.false_and]
      exact on_a (wds_len 4 x) (wds_len 4 y) c1 w
theorem onB_pt {x y : Nat} {i : Bool} (h : onB x y i = true) : ∃ P, EC.On bP P ∧ (.agg (pv (wds 4 x) (wds 4 y) i).toArray : Value) = ptV P := by
  cases i with
  | true =>
    have h2 : x = 0 ∧ y = 0 := of_decide_eq_true h
    obtain ⟨rfl, rfl⟩ := h2
    exact ⟨.inf, trivial, by rw [num_zero]; rfl⟩
  | false =>
    unfold onB at h
    rw [if_neg (by decide)] at h
    simp only [Bool.and_eq_true, decide_eq_true_eq] at h
    obtain ⟨h1, h2, h3⟩ := h
    refine ⟨.aff (fv x) (fv y), h3, ?_⟩
    show _ = Value.agg (pv (nw (fv x)) (nw (fv y)) false).toArray
    unfold nw
    rw [fv_val, fv_val, Nat.mod_eq_of_lt h1, Nat.mod_eq_of_lt h2]
theorem k_onP {P : EC.Pt mP} (h : EC.On bP P) : Ans 29 #[ptV P] (.bool true) := fun w => by
  cases P with
  | inf =>
    have k := k_on 0 0 true (by decide) (by decide) w
    rw [num_zero] at k; exact k
  | aff X Y =>
    have k := k_on X.val Y.val false (lt256 X) (lt256 Y) w
    have e : onB X.val Y.val false = true := by
      unfold onB
      rw [if_neg (by decide), decide_eq_true X.isLt, decide_eq_true Y.isLt, fv_of, fv_of, Bool.true_and, Bool.true_and]
      exact decide_eq_true h
    rw [e] at k; exact k
def pX : EC.Pt mP → List Nat | .inf => zeros 4 | .aff x _ => nw x
def pY : EC.Pt mP → List Nat | .inf => zeros 4 | .aff _ y => nw y
def pI : EC.Pt mP → Bool | .inf => true | .aff _ _ => false
theorem ptV_eq (P : EC.Pt mP) : ptV P = .agg (pv (pX P) (pY P) (pI P)).toArray := by cases P <;> rfl
theorem pX_len (P : EC.Pt mP) : (pX P).length = 4 := by cases P; rfl; exact nw_len _
theorem pY_len (P : EC.Pt mP) : (pY P).length = 4 := by cases P; rfl; exact nw_len _
theorem k_al {P Q : EC.Pt mP} (hP : EC.On bP P) (hQ : EC.On bP Q) (g : Nat) (w : World) (h1 : w.rangeAt g 0 (pv (pX P) (pY P) (pI P))) (h2 : w.rangeAt g 9 (pv (pX Q) (pY Q) (pI Q))) :
    Calls Try.prog 80 #[.slice (some ⟨g, 0, none⟩) 2 2] w fun e w' => e = .returned (.bool true) ∧ Below w.heap.size w w' :=
  allon (b1 := true) (b2 := true) (pX_len P) (pY_len P) (pX_len Q) (pY_len Q) (fun w => by rw [← ptV_eq]; exact k_onP hP w) (fun w => by rw [← ptV_eq]; exact k_onP hQ w) g w h1 h2
theorem k_addP {P Q : EC.Pt mP} (hP : EC.On bP P) (hQ : EC.On bP Q) : Ans 38 #[ptV P, ptV Q] (.tuple #[ptV (EC.sum P Q), .int .i64 0]) := fun w => by
  have hJ := (trOf_jac P).plus okP hP hQ (trOf_jac Q)
  rw [ptV_eq P, ptV_eq Q, ptV_eq (EC.sum P Q)]
  exact add_ok (pX_len P) (pY_len P) (pX_len Q) (pY_len Q) (cw_len _) (cw_len _) (cw_len _) (cw_len _) (cw_len _) (cw_len _) (cw_len _) (cw_len _) (cw_len _) (pX_len _) (pY_len _)
    (fun w => by rw [← ptV_eq]; exact k_tof P w) (fun w => by rw [← ptV_eq]; exact k_tof Q w) (k_plus (trOf P) (trOf Q)) (fun w => by rw [← ptV_eq]; exact k_point hJ w) (k_al hP hQ) w
end Go.Proofs.Ytfffmoolkgheaaa
