/- Parts of proofs of statements, each text behind those that it stands on. No condition of its own. -/
import Derived.Test.YtfffmoolkgheaaaZ22
namespace Go.Proofs.Ytfffmoolkgheaaa
open Go.RowKit
set_option linter.unusedVariables false
set_option linter.unusedSimpArgs false
set_option maxRecDepth 100000 in
set_option maxHeartbeats 1600000 in
theorem add_no {lx ly mx my : List Nat} {ip iq : Bool} (hlx : lx.length = 4) (hly : ly.length = 4) (hmx : mx.length = 4) (hmy : my.length = 4)
    (cal : ∀ g w, w.rangeAt g 0 (pv lx ly ip) → w.rangeAt g 9 (pv mx my iq) → Calls Try.prog 80 #[.slice (some ⟨g, 0, none⟩) 2 2] w fun e w' => e = .returned (.bool false) ∧ Below w.heap.size w w') (w : World) :
    Calls Try.prog 38 #[.agg (pv lx ly ip).toArray, .agg (pv mx my iq).toArray] w fun e w' => e = .returned (.tuple #[.agg (pv (zeros 4) (zeros 4) false).toArray, .int .i64 62]) ∧ Below w.heap.size w w' := by
  have L_lx := Lib.hid hlx
  clear hlx
  have L_ly := Lib.hid hly
  clear hly
  have L_mx := Lib.hid hmx
  clear hmx
  have L_my := Lib.hid hmy
  clear hmy
  have HAL := Lib.hid cal
  clear cal
  have B0_ := Lib.hid (((Blk.new w  43 (pv lx ly ip)).alloc (.cells (pv mx my iq).toArray 43)).alloc (.cells (pv (zeros 4) (zeros 4) false).toArray 43))
  have B1_ := Lib.hid ((Blk.new2 w (.cells (pv lx ly ip).toArray 43) 43 (pv mx my iq)).alloc (.cells (pv (zeros 4) (zeros 4) false).toArray 43))
  have B2_ := Lib.hid (Blk.new3 w (.cells (pv lx ly ip).toArray 43) (.cells (pv mx my iq).toArray 43) 43 (pv (zeros 4) (zeros 4) false))
  have bel_ := ((((Below.refl w.heap.size w).alloc (Nat.le_refl _) (.cells (pv lx ly ip).toArray 43)).alloc (by simp) (.cells (pv mx my iq).toArray 43)).alloc (by simp; omega) (.cells (pv (zeros 4) (zeros 4) false).toArray 43))
  go_enter Try.func38, Try.ntmps38
  go_wp2_with (first | (refine wpList_load_mid rfl 43 (.tmp 2) rfl w.heap.size 0 rfl (pv lx ly ip) _ (blk_all (B0_.out)) Try.underlying43 rfl (i43 L_lx.out L_ly.out) ?_) | (refine wpList_load_mid rfl 43 (.tmp 3) rfl (w.heap.size + 1) 0 rfl (pv mx my iq) _ (blk_all (B1_.out)) Try.underlying43 rfl (i43 L_mx.out L_my.out) ?_) | (refine bs2p rfl (.tmp 6) (.tmp 7) rfl rfl rfl L_lx.out L_ly.out L_mx.out L_my.out ?_))
  have TR := two_r (Blk.newAt (W := (((w.alloc (.cells (pv lx ly ip).toArray 43)).alloc (.cells (pv mx my iq).toArray 43)).alloc (.cells (pv (zeros 4) (zeros 4) false).toArray 43))) (g := (w.heap.size + 1 + 1 + 1)) 43 ((pv lx ly ip) ++ (pv mx my iq)) (by simp)) (pv_len L_lx.out L_ly.out)
  refine (HAL.out (w.heap.size + 1 + 1 + 1) _ TR.1 TR.2).mono ?_
  rintro e w1 ⟨rfl, hbw1⟩
  clear TR
  have C2 := Lib.hid (B0_.out.gr (Gr.alloc _ (Obj.cells ((pv lx ly ip) ++ (pv mx my iq)).toArray 43)))
  clear B0_
  have C3 := Lib.hid (B1_.out.gr (Gr.alloc _ (Obj.cells ((pv lx ly ip) ++ (pv mx my iq)).toArray 43)))
  clear B1_
  have C4 := Lib.hid (B2_.out.gr (Gr.alloc _ (Obj.cells ((pv lx ly ip) ++ (pv mx my iq)).toArray 43)))
  clear B2_
  have hbel5 := bel_.trans (Below.mono (Gr.alloc _ (Obj.cells ((pv lx ly ip) ++ (pv mx my iq)).toArray 43)) bel_.size)
  clear bel_
  have C6 := Lib.hid (C2.out.gr hbw1)
  clear C2
  have C7 := Lib.hid (C3.out.gr hbw1)
  clear C3
  have C8 := Lib.hid (C4.out.gr hbw1)
  clear C4
  have hbel9 := hbel5.trans (Below.mono hbw1 hbel5.size)
  clear hbel5
  clear hbw1
  go_wp2_with (first | (refine stB rfl 43 (.tmp 4) (.tmp 11) rfl (w.heap.size + 1 + 1) rfl (pv (zeros 4) (zeros 4) false) rfl 43 (pv (zeros 4) (zeros 4) false) C8.out (i43 rfl rfl) (lenEq (show (pv (zeros 4) (zeros 4) false).length = 9 from rfl) (show (pv (zeros 4) (zeros 4) false).length = 9 from rfl)) (pv_one _ _ _) ?_))
  refine bodyPost_ret (v := .tuple #[.agg (pv (zeros 4) (zeros 4) false).toArray, .int .i64 62]) ?_ rfl ⟨rfl, below_setRow' hbel9 (by first | exact Nat.le_refl _ | omega) _⟩
  exact results_two Try.results38 _ _ (w.heap.size + 1 + 1) 43 _ (0, 0) _ _ rfl rfl (C8.out.setRow _) Try.underlying43 rfl (by simpa using (i43 rfl rfl))
set_option maxRecDepth 100000 in
set_option maxHeartbeats 3200000 in
theorem add_ok {lx ly mx my ax ay az bx by_ bz cx cy cz rx ry : List Nat} {ip iq ir : Bool} (hlx : lx.length = 4) (hly : ly.length = 4) (hmx : mx.length = 4) (hmy : my.length = 4) (hax : ax.length = 4) (hay : ay.length = 4) (haz : az.length = 4) (hbx : bx.length = 4) (hby_ : by_.length = 4) (hbz : bz.length = 4) (hcx : cx.length = 4) (hcy : cy.length = 4) (hcz : cz.length = 4) (hrx : rx.length = 4) (hry : ry.length = 4)
    (c1 : ∀ w, Calls Try.prog 81 #[.agg (pv lx ly ip).toArray] w fun e w' => e = .returned (.agg (tv ax ay az).toArray) ∧ Below w.heap.size w w')
    (c2 : ∀ w, Calls Try.prog 81 #[.agg (pv mx my iq).toArray] w fun e w' => e = .returned (.agg (tv bx by_ bz).toArray) ∧ Below w.heap.size w w')
    (c3 : ∀ w, Calls Try.prog 82 #[.agg (tv ax ay az).toArray, .agg (tv bx by_ bz).toArray] w fun e w' => e = .returned (.agg (tv cx cy cz).toArray) ∧ Below w.heap.size w w')
    (c4 : ∀ w, Calls Try.prog 83 #[.agg (tv cx cy cz).toArray] w fun e w' => e = .returned (.agg (pv rx ry ir).toArray) ∧ Below w.heap.size w w')
    (cal : ∀ g w, w.rangeAt g 0 (pv lx ly ip) → w.rangeAt g 9 (pv mx my iq) → Calls Try.prog 80 #[.slice (some ⟨g, 0, none⟩) 2 2] w fun e w' => e = .returned (.bool true) ∧ Below w.heap.size w w') (w : World) :
    Calls Try.prog 38 #[.agg (pv lx ly ip).toArray, .agg (pv mx my iq).toArray] w fun e w' => e = .returned (.tuple #[.agg (pv rx ry ir).toArray, .int .i64 0]) ∧ Below w.heap.size w w' := by
  have L_lx := Lib.hid hlx
  clear hlx
  have L_ly := Lib.hid hly
  clear hly
  have L_mx := Lib.hid hmx
  clear hmx
  have L_my := Lib.hid hmy
  clear hmy
  have L_ax := Lib.hid hax
  clear hax
  have L_ay := Lib.hid hay
  clear hay
  have L_az := Lib.hid haz
  clear haz
  have L_bx := Lib.hid hbx
  clear hbx
  have L_by_ := Lib.hid hby_
  clear hby_
  have L_bz := Lib.hid hbz
  clear hbz
  have L_cx := Lib.hid hcx
  clear hcx
  have L_cy := Lib.hid hcy
  clear hcy
  have L_cz := Lib.hid hcz
  clear hcz
  have L_rx := Lib.hid hrx
  clear hrx
  have L_ry := Lib.hid hry
  clear hry
  have Hc1 := Lib.hid c1
  clear c1
  have Hc2 := Lib.hid c2
  clear c2
  have Hc3 := Lib.hid c3
  clear c3
  have Hc4 := Lib.hid c4
  clear c4
  have HAL := Lib.hid cal
  clear cal
  have B0_ := Lib.hid (((Blk.new w  43 (pv lx ly ip)).alloc (.cells (pv mx my iq).toArray 43)).alloc (.cells (pv (zeros 4) (zeros 4) false).toArray 43))
  have B1_ := Lib.hid ((Blk.new2 w (.cells (pv lx ly ip).toArray 43) 43 (pv mx my iq)).alloc (.cells (pv (zeros 4) (zeros 4) false).toArray 43))
  have B2_ := Lib.hid (Blk.new3 w (.cells (pv lx ly ip).toArray 43) (.cells (pv mx my iq).toArray 43) 43 (pv (zeros 4) (zeros 4) false))
  have bel_ := ((((Below.refl w.heap.size w).alloc (Nat.le_refl _) (.cells (pv lx ly ip).toArray 43)).alloc (by simp) (.cells (pv mx my iq).toArray 43)).alloc (by simp; omega) (.cells (pv (zeros 4) (zeros 4) false).toArray 43))
  go_enter Try.func38, Try.ntmps38
  go_wp2_with (first | (refine wpList_load_mid rfl 43 (.tmp 2) rfl w.heap.size 0 rfl (pv lx ly ip) _ (blk_all (B0_.out)) Try.underlying43 rfl (i43 L_lx.out L_ly.out) ?_) | (refine wpList_load_mid rfl 43 (.tmp 3) rfl (w.heap.size + 1) 0 rfl (pv mx my iq) _ (blk_all (B1_.out)) Try.underlying43 rfl (i43 L_mx.out L_my.out) ?_) | (refine bs2p rfl (.tmp 6) (.tmp 7) rfl rfl rfl L_lx.out L_ly.out L_mx.out L_my.out ?_))
  have TR := two_r (Blk.newAt (W := (((w.alloc (.cells (pv lx ly ip).toArray 43)).alloc (.cells (pv mx my iq).toArray 43)).alloc (.cells (pv (zeros 4) (zeros 4) false).toArray 43))) (g := (w.heap.size + 1 + 1 + 1)) 43 ((pv lx ly ip) ++ (pv mx my iq)) (by simp)) (pv_len L_lx.out L_ly.out)
  refine (HAL.out (w.heap.size + 1 + 1 + 1) _ TR.1 TR.2).mono ?_
  rintro e w1 ⟨rfl, hbw1⟩
  clear TR
  have C2 := Lib.hid (B0_.out.gr (Gr.alloc _ (Obj.cells ((pv lx ly ip) ++ (pv mx my iq)).toArray 43)))
  clear B0_
  have C3 := Lib.hid (B1_.out.gr (Gr.alloc _ (Obj.cells ((pv lx ly ip) ++ (pv mx my iq)).toArray 43)))
  clear B1_
  have C4 := Lib.hid (B2_.out.gr (Gr.alloc _ (Obj.cells ((pv lx ly ip) ++ (pv mx my iq)).toArray 43)))
  clear B2_
  have hbel5 := bel_.trans (Below.mono (Gr.alloc _ (Obj.cells ((pv lx ly ip) ++ (pv mx my iq)).toArray 43)) bel_.size)
  clear bel_
  have C6 := Lib.hid (C2.out.gr hbw1)
  clear C2
  have C7 := Lib.hid (C3.out.gr hbw1)
  clear C3
  have C8 := Lib.hid (C4.out.gr hbw1)
  clear C4
  have hbel9 := hbel5.trans (Below.mono hbw1 hbel5.size)
  clear hbel5
  clear hbw1
  go_wp2_with fail
  as_aux_lemma =>
  refine wp_region_G (fun w_ => Blk w_ w.heap.size 43 (pv lx ly ip) ∧ Blk w_ (w.heap.size + 1) 43 (pv mx my iq)) 8 (by kernel_rfl) ⟨C6.out.drew, C7.out.drew⟩ ?_
  refine wpAnyG_take (fun _ _ hS_ hb_ => ⟨hS_.1.gr hb_, hS_.2.gr hb_⟩) (i := 0) rfl (by kernel_rfl) (fun _ _ _ h => h) (loadG (by rfl) _ _ rfl _ _ rfl (pv lx ly ip) _ (fun _ hS_ => blk_all (hS_.1)) Try.underlying43 rfl (i43 L_lx.out L_ly.out)) ?_
  try simp only [Act.put, zq1, zq2, zq3, zq4, zq5, zq6]
  refine wpAnyG_take (fun _ _ hS_ hb_ => ⟨hS_.1.gr hb_, hS_.2.gr hb_⟩) (i := 1) rfl (by kernel_rfl) (fun _ _ _ h => h) (callG (by rfl) rfl Try.func81 (by kernel_rfl) (by kernel_rfl) (#[.agg (pv lx ly ip).toArray]) (by simp [Act.eval]) (fun w _ => Hc1.out w)) ?_
  try simp only [Act.put, zq1, zq2, zq3, zq4, zq5, zq6]
  refine wpAnyG_take (fun _ _ hS_ hb_ => ⟨hS_.1.gr hb_, hS_.2.gr hb_⟩) (i := 2) rfl (by kernel_rfl) (fun _ _ _ h => h) (loadG (by rfl) _ _ rfl _ _ rfl (pv mx my iq) _ (fun _ hS_ => blk_all (hS_.2)) Try.underlying43 rfl (i43 L_mx.out L_my.out)) ?_
  try simp only [Act.put, zq1, zq2, zq3, zq4, zq5, zq6]
  refine wpAnyG_take (fun _ _ hS_ hb_ => ⟨hS_.1.gr hb_, hS_.2.gr hb_⟩) (i := 3) rfl (by kernel_rfl) (fun _ _ _ h => h) (callG (by rfl) rfl Try.func81 (by kernel_rfl) (by kernel_rfl) (#[.agg (pv mx my iq).toArray]) (by simp [Act.eval]) (fun w _ => Hc2.out w)) ?_
  try simp only [Act.put, zq1, zq2, zq3, zq4, zq5, zq6]
  refine wpAnyG_take (fun _ _ hS_ hb_ => ⟨hS_.1.gr hb_, hS_.2.gr hb_⟩) (i := 4) rfl (by kernel_rfl) (fun _ _ _ h => h) (callG (by rfl) rfl Try.func82 (by kernel_rfl) (by kernel_rfl) (#[.agg (tv ax ay az).toArray, .agg (tv bx by_ bz).toArray]) (by simp [Act.eval]) (fun w _ => Hc3.out w)) ?_
  try simp only [Act.put, zq1, zq2, zq3, zq4, zq5, zq6]
  refine wpAnyG_take (fun _ _ hS_ hb_ => ⟨hS_.1.gr hb_, hS_.2.gr hb_⟩) (i := 5) rfl (by kernel_rfl) (fun _ _ _ h => h) (callG (by rfl) rfl Try.func83 (by kernel_rfl) (by kernel_rfl) (#[.agg (tv cx cy cz).toArray]) (by simp [Act.eval]) (fun w _ => Hc4.out w)) ?_
  try simp only [Act.put, zq1, zq2, zq3, zq4, zq5, zq6]
  refine wpAnyG_store (i := 6) (by kernel_rfl) rfl C8.out.drew (lenEq (show (pv (zeros 4) (zeros 4) false).length = 9 from rfl) (pv_len L_rx.out L_ry.out)) (StoresG.mk (cs := (pv rx ry ir)) (by rfl) 43 _ _ rfl rfl rfl (i43 L_rx.out L_ry.out) (pv_one _ _ _)) (.inr (fun _ hS_ => ⟨hS_.1.row _ ((show w.heap.size ≠ (w.heap.size + 1 + 1) by omega)), hS_.2.row _ ((show (w.heap.size + 1) ≠ (w.heap.size + 1 + 1) by omega))⟩)) ?_
  intro w11 hgw11 hn_
  try simp only [Act.put, zq1, zq2, zq3, zq4, zq5, zq6]
  have E12 := Lib.hid (C6.out.drew.grown hgw11 (fun e => (show w.heap.size ≠ (w.heap.size + 1 + 1) by omega) (Option.some.inj e)))
  clear C6
  have E13 := Lib.hid (C7.out.drew.grown hgw11 (fun e => (show (w.heap.size + 1) ≠ (w.heap.size + 1 + 1) by omega) (Option.some.inj e)))
  clear C7
  have D14 := Lib.hid hn_
  clear hn_ C8
  have hbel15 := belStore hbel9.drew hgw11 (show w.heap.size ≤ (w.heap.size + 1 + 1) by omega)
  clear hgw11
  refine wpAnyG_take (fun _ _ hS_ hb_ => ⟨hS_.1.gr hb_, hS_.2.gr hb_⟩) (i := 7) rfl (by kernel_rfl) (fun _ _ _ h => h) (pureG (by rfl) (by intro w; go_simp; first | done | with_reducible rfl)) ?_
  try simp only [Act.put, zq1, zq2, zq3, zq4, zq5, zq6]
  refine wpAnyG_done (by kernel_rfl) ?_ _
  intro w16 hgw16
  try simp only [Act.put, zq1, zq2, zq3, zq4, zq5, zq6]
  have C17 := Lib.hid (E12.out.gr hgw16)
  clear E12
  have C18 := Lib.hid (E13.out.gr hgw16)
  clear E13
  have C19 := Lib.hid (D14.out.gr hgw16)
  clear D14
  have hbel20 := hbel15.trans (Below.mono hgw16 hbel15.size)
  clear hbel15
  clear hgw16
  as_aux_lemma =>
  go_wp2_with fail
  refine bodyPost_ret (v := .tuple #[.agg (pv rx ry ir).toArray, .int .i64 0]) ?_ rfl ⟨rfl, hbel20⟩
  exact results_two Try.results38 _ _ (w.heap.size + 1 + 1) 43 _ (0, 0) _ _ rfl rfl C19.out Try.underlying43 rfl (by simpa using (i43 L_rx.out L_ry.out))
set_option maxRecDepth 100000 in
set_option maxHeartbeats 1600000 in
theorem two_no {lu lv lx ly mx my : List Nat} {ip iq : Bool} (hlu : lu.length = 4) (hlv : lv.length = 4) (hlx : lx.length = 4) (hly : ly.length = 4) (hmx : mx.length = 4) (hmy : my.length = 4)
    (cal : ∀ g w, w.rangeAt g 0 (pv lx ly ip) → w.rangeAt g 9 (pv mx my iq) → Calls Try.prog 80 #[.slice (some ⟨g, 0, none⟩) 2 2] w fun e w' => e = .returned (.bool false) ∧ Below w.heap.size w w') (w : World) :
    Calls Try.prog 41 #[.agg (natsV .u64 lu).toArray, .agg (pv lx ly ip).toArray, .agg (natsV .u64 lv).toArray, .agg (pv mx my iq).toArray] w fun e w' => e = .returned (.tuple #[.agg (pv (zeros 4) (zeros 4) false).toArray, .int .i64 62]) ∧ Below w.heap.size w w' := by
  have L_lu := Lib.hid hlu
  clear hlu
  have L_lv := Lib.hid hlv
  clear hlv
  have L_lx := Lib.hid hlx
  clear hlx
  have L_ly := Lib.hid hly
  clear hly
  have L_mx := Lib.hid hmx
  clear hmx
  have L_my := Lib.hid hmy
  clear hmy
  have HAL := Lib.hid cal
  clear cal
  have B0_ := Lib.hid (((((Blk.new w  24 (natsV .u64 lu)).alloc (.cells (pv lx ly ip).toArray 43)).alloc (.cells (natsV .u64 lv).toArray 24)).alloc (.cells (pv mx my iq).toArray 43)).alloc (.cells (pv (zeros 4) (zeros 4) false).toArray 43))
  have B1_ := Lib.hid ((((Blk.new2 w (.cells (natsV .u64 lu).toArray 24) 43 (pv lx ly ip)).alloc (.cells (natsV .u64 lv).toArray 24)).alloc (.cells (pv mx my iq).toArray 43)).alloc (.cells (pv (zeros 4) (zeros 4) false).toArray 43))
  have B2_ := Lib.hid (((Blk.new3 w (.cells (natsV .u64 lu).toArray 24) (.cells (pv lx ly ip).toArray 43) 24 (natsV .u64 lv)).alloc (.cells (pv mx my iq).toArray 43)).alloc (.cells (pv (zeros 4) (zeros 4) false).toArray 43))
  have B3_ := Lib.hid ((Blk.new4 w (.cells (natsV .u64 lu).toArray 24) (.cells (pv lx ly ip).toArray 43) (.cells (natsV .u64 lv).toArray 24) 43 (pv mx my iq)).alloc (.cells (pv (zeros 4) (zeros 4) false).toArray 43))
  have B4_ := Lib.hid (Blk.new5 w (.cells (natsV .u64 lu).toArray 24) (.cells (pv lx ly ip).toArray 43) (.cells (natsV .u64 lv).toArray 24) (.cells (pv mx my iq).toArray 43) 43 (pv (zeros 4) (zeros 4) false))
  have bel_ := ((((((Below.refl w.heap.size w).alloc (Nat.le_refl _) (.cells (natsV .u64 lu).toArray 24)).alloc (by simp) (.cells (pv lx ly ip).toArray 43)).alloc (by simp; omega) (.cells (natsV .u64 lv).toArray 24)).alloc (by simp; omega) (.cells (pv mx my iq).toArray 43)).alloc (by simp; omega) (.cells (pv (zeros 4) (zeros 4) false).toArray 43))
  go_enter Try.func41, Try.ntmps41
  go_wp2_with (first | (refine wpList_load_mid rfl 43 (.tmp 5) rfl (w.heap.size + 1) 0 rfl (pv lx ly ip) _ (blk_all (B1_.out)) Try.underlying43 rfl (i43 L_lx.out L_ly.out) ?_) | (refine wpList_load_mid rfl 43 (.tmp 7) rfl (w.heap.size + 1 + 1 + 1) 0 rfl (pv mx my iq) _ (blk_all (B3_.out)) Try.underlying43 rfl (i43 L_mx.out L_my.out) ?_) | (refine bs2p rfl (.tmp 10) (.tmp 11) rfl rfl rfl L_lx.out L_ly.out L_mx.out L_my.out ?_))
  have TR := two_r (Blk.newAt (W := (((((w.alloc (.cells (natsV .u64 lu).toArray 24)).alloc (.cells (pv lx ly ip).toArray 43)).alloc (.cells (natsV .u64 lv).toArray 24)).alloc (.cells (pv mx my iq).toArray 43)).alloc (.cells (pv (zeros 4) (zeros 4) false).toArray 43))) (g := (w.heap.size + 1 + 1 + 1 + 1 + 1)) 43 ((pv lx ly ip) ++ (pv mx my iq)) (by simp)) (pv_len L_lx.out L_ly.out)
  refine (HAL.out (w.heap.size + 1 + 1 + 1 + 1 + 1) _ TR.1 TR.2).mono ?_
  rintro e w1 ⟨rfl, hbw1⟩
  clear TR
  have C2 := Lib.hid (B0_.out.gr (Gr.alloc _ (Obj.cells ((pv lx ly ip) ++ (pv mx my iq)).toArray 43)))
  clear B0_
  have C3 := Lib.hid (B1_.out.gr (Gr.alloc _ (Obj.cells ((pv lx ly ip) ++ (pv mx my iq)).toArray 43)))
  clear B1_
  have C4 := Lib.hid (B2_.out.gr (Gr.alloc _ (Obj.cells ((pv lx ly ip) ++ (pv mx my iq)).toArray 43)))
  clear B2_
  have C5 := Lib.hid (B3_.out.gr (Gr.alloc _ (Obj.cells ((pv lx ly ip) ++ (pv mx my iq)).toArray 43)))
  clear B3_
  have C6 := Lib.hid (B4_.out.gr (Gr.alloc _ (Obj.cells ((pv lx ly ip) ++ (pv mx my iq)).toArray 43)))
  clear B4_
  have hbel7 := bel_.trans (Below.mono (Gr.alloc _ (Obj.cells ((pv lx ly ip) ++ (pv mx my iq)).toArray 43)) bel_.size)
  clear bel_
  have C8 := Lib.hid (C2.out.gr hbw1)
  clear C2
  have C9 := Lib.hid (C3.out.gr hbw1)
  clear C3
  have C10 := Lib.hid (C4.out.gr hbw1)
  clear C4
  have C11 := Lib.hid (C5.out.gr hbw1)
  clear C5
  have C12 := Lib.hid (C6.out.gr hbw1)
  clear C6
  have hbel13 := hbel7.trans (Below.mono hbw1 hbel7.size)
  clear hbel7
  clear hbw1
  go_wp2_with (first | (refine stB rfl 43 (.tmp 8) (.tmp 15) rfl (w.heap.size + 1 + 1 + 1 + 1) rfl (pv (zeros 4) (zeros 4) false) rfl 43 (pv (zeros 4) (zeros 4) false) C12.out (i43 rfl rfl) (lenEq (show (pv (zeros 4) (zeros 4) false).length = 9 from rfl) (show (pv (zeros 4) (zeros 4) false).length = 9 from rfl)) (pv_one _ _ _) ?_))
  refine bodyPost_ret (v := .tuple #[.agg (pv (zeros 4) (zeros 4) false).toArray, .int .i64 62]) ?_ rfl ⟨rfl, below_setRow' hbel13 (by first | exact Nat.le_refl _ | omega) _⟩
  exact results_two Try.results41 _ _ (w.heap.size + 1 + 1 + 1 + 1) 43 _ (0, 0) _ _ rfl rfl (C12.out.setRow _) Try.underlying43 rfl (by simpa using (i43 rfl rfl))
set_option maxRecDepth 100000 in
set_option maxHeartbeats 3200000 in
theorem two_ok {lu lv lx ly mx my ax ay az bx by_ bz cx cy cz rx ry : List Nat} {ip iq ir : Bool} (hlu : lu.length = 4) (hlv : lv.length = 4) (hlx : lx.length = 4) (hly : ly.length = 4) (hmx : mx.length = 4) (hmy : my.length = 4) (hax : ax.length = 4) (hay : ay.length = 4) (haz : az.length = 4) (hbx : bx.length = 4) (hby_ : by_.length = 4) (hbz : bz.length = 4) (hcx : cx.length = 4) (hcy : cy.length = 4) (hcz : cz.length = 4) (hrx : rx.length = 4) (hry : ry.length = 4)
    (c1 : ∀ w, Calls Try.prog 81 #[.agg (pv lx ly ip).toArray] w fun e w' => e = .returned (.agg (tv ax ay az).toArray) ∧ Below w.heap.size w w')
    (c2 : ∀ w, Calls Try.prog 81 #[.agg (pv mx my iq).toArray] w fun e w' => e = .returned (.agg (tv bx by_ bz).toArray) ∧ Below w.heap.size w w')
    (c3 : ∀ w, Calls Try.prog 85 #[.agg (natsV .u64 lu).toArray, .agg (tv ax ay az).toArray, .agg (natsV .u64 lv).toArray, .agg (tv bx by_ bz).toArray] w fun e w' => e = .returned (.agg (tv cx cy cz).toArray) ∧ Below w.heap.size w w')
    (c4 : ∀ w, Calls Try.prog 83 #[.agg (tv cx cy cz).toArray] w fun e w' => e = .returned (.agg (pv rx ry ir).toArray) ∧ Below w.heap.size w w')
    (cal : ∀ g w, w.rangeAt g 0 (pv lx ly ip) → w.rangeAt g 9 (pv mx my iq) → Calls Try.prog 80 #[.slice (some ⟨g, 0, none⟩) 2 2] w fun e w' => e = .returned (.bool true) ∧ Below w.heap.size w w') (w : World) :
    Calls Try.prog 41 #[.agg (natsV .u64 lu).toArray, .agg (pv lx ly ip).toArray, .agg (natsV .u64 lv).toArray, .agg (pv mx my iq).toArray] w fun e w' => e = .returned (.tuple #[.agg (pv rx ry ir).toArray, .int .i64 0]) ∧ Below w.heap.size w w' := by
  have L_lu := Lib.hid hlu
  clear hlu
  have L_lv := Lib.hid hlv
  clear hlv
  have L_lx := Lib.hid hlx
  clear hlx
  have L_ly := Lib.hid hly
  clear hly
  have L_mx := Lib.hid hmx
  clear hmx
  have L_my := Lib.hid hmy
  clear hmy
  have L_ax := Lib.hid hax
  clear hax
  have L_ay := Lib.hid hay
  clear hay
  have L_az := Lib.hid haz
  clear haz
  have L_bx := Lib.hid hbx
  clear hbx
  have L_by_ := Lib.hid hby_
  clear hby_
  have L_bz := Lib.hid hbz
  clear hbz
  have L_cx := Lib.hid hcx
  clear hcx
  have L_cy := Lib.hid hcy
  clear hcy
  have L_cz := Lib.hid hcz
  clear hcz
  have L_rx := Lib.hid hrx
  clear hrx
  have L_ry := Lib.hid hry
  clear hry
  have Hc1 := Lib.hid c1
  clear c1
  have Hc2 := Lib.hid c2
  clear c2
  have Hc3 := Lib.hid c3
  clear c3
  have Hc4 := Lib.hid c4
  clear c4
  have HAL := Lib.hid cal
  clear cal
  have B0_ := Lib.hid (((((Blk.new w  24 (natsV .u64 lu)).alloc (.cells (pv lx ly ip).toArray 43)).alloc (.cells (natsV .u64 lv).toArray 24)).alloc (.cells (pv mx my iq).toArray 43)).alloc (.cells (pv (zeros 4) (zeros 4) false).toArray 43))
  have B1_ := Lib.hid ((((Blk.new2 w (.cells (natsV .u64 lu).toArray 24) 43 (pv lx ly ip)).alloc (.cells (natsV .u64 lv).toArray 24)).alloc (.cells (pv mx my iq).toArray 43)).alloc (.cells (pv (zeros 4) (zeros 4) false).toArray 43))
  have B2_ := Lib.hid (((Blk.new3 w (.cells (natsV .u64 lu).toArray 24) (.cells (pv lx ly ip).toArray 43) 24 (natsV .u64 lv)).alloc (.cells (pv mx my iq).toArray 43)).alloc (.cells (pv (zeros 4) (zeros 4) false).toArray 43))
  have B3_ := Lib.hid ((Blk.new4 w (.cells (natsV .u64 lu).toArray 24) (.cells (pv lx ly ip).toArray 43) (.cells (natsV .u64 lv).toArray 24) 43 (pv mx my iq)).alloc (.cells (pv (zeros 4) (zeros 4) false).toArray 43))
  have B4_ := Lib.hid (Blk.new5 w (.cells (natsV .u64 lu).toArray 24) (.cells (pv lx ly ip).toArray 43) (.cells (natsV .u64 lv).toArray 24) (.cells (pv mx my iq).toArray 43) 43 (pv (zeros 4) (zeros 4) false))
  have bel_ := ((((((Below.refl w.heap.size w).alloc (Nat.le_refl _) (.cells (natsV .u64 lu).toArray 24)).alloc (by simp) (.cells (pv lx ly ip).toArray 43)).alloc (by simp; omega) (.cells (natsV .u64 lv).toArray 24)).alloc (by simp; omega) (.cells (pv mx my iq).toArray 43)).alloc (by simp; omega) (.cells (pv (zeros 4) (zeros 4) false).toArray 43))
  go_enter Try.func41, Try.ntmps41
  go_wp2_with (first | (refine wpList_load_mid rfl 43 (.tmp 5) rfl (w.heap.size + 1) 0 rfl (pv lx ly ip) _ (blk_all (B1_.out)) Try.underlying43 rfl (i43 L_lx.out L_ly.out) ?_) | (refine wpList_load_mid rfl 43 (.tmp 7) rfl (w.heap.size + 1 + 1 + 1) 0 rfl (pv mx my iq) _ (blk_all (B3_.out)) Try.underlying43 rfl (i43 L_mx.out L_my.out) ?_) | (refine bs2p rfl (.tmp 10) (.tmp 11) rfl rfl rfl L_lx.out L_ly.out L_mx.out L_my.out ?_))
  have TR := two_r (Blk.newAt (W := (((((w.alloc (.cells (natsV .u64 lu).toArray 24)).alloc (.cells (pv lx ly ip).toArray 43)).alloc (.cells (natsV .u64 lv).toArray 24)).alloc (.cells (pv mx my iq).toArray 43)).alloc (.cells (pv (zeros 4) (zeros 4) false).toArray 43))) (g := (w.heap.size + 1 + 1 + 1 + 1 + 1)) 43 ((pv lx ly ip) ++ (pv mx my iq)) (by simp)) (pv_len L_lx.out L_ly.out)
  refine (HAL.out (w.heap.size + 1 + 1 + 1 + 1 + 1) _ TR.1 TR.2).mono ?_
  rintro e w1 ⟨rfl, hbw1⟩
  clear TR
  have C2 := Lib.hid (B0_.out.gr (Gr.alloc _ (Obj.cells ((pv lx ly ip) ++ (pv mx my iq)).toArray 43)))
  clear B0_
  have C3 := Lib.hid (B1_.out.gr (Gr.alloc _ (Obj.cells ((pv lx ly ip) ++ (pv mx my iq)).toArray 43)))
  clear B1_
  have C4 := Lib.hid (B2_.out.gr (Gr.alloc _ (Obj.cells ((pv lx ly ip) ++ (pv mx my iq)).toArray 43)))
  clear B2_
  have C5 := Lib.hid (B3_.out.gr (Gr.alloc _ (Obj.cells ((pv lx ly ip) ++ (pv mx my iq)).toArray 43)))
  clear B3_
  have C6 := Lib.hid (B4_.out.gr (Gr.alloc _ (Obj.cells ((pv lx ly ip) ++ (pv mx my iq)).toArray 43)))
  clear B4_
  have hbel7 := bel_.trans (Below.mono (Gr.alloc _ (Obj.cells ((pv lx ly ip) ++ (pv mx my iq)).toArray 43)) bel_.size)
  clear bel_
  have C8 := Lib.hid (C2.out.gr hbw1)
  clear C2
  have C9 := Lib.hid (C3.out.gr hbw1)
  clear C3
  have C10 := Lib.hid (C4.out.gr hbw1)
  clear C4
  have C11 := Lib.hid (C5.out.gr hbw1)
  clear C5
  have C12 := Lib.hid (C6.out.gr hbw1)
  clear C6
  have hbel13 := hbel7.trans (Below.mono hbw1 hbel7.size)
  clear hbel7
  clear hbw1
  go_wp2_with fail
  as_aux_lemma =>
  refine wp_region_G (fun w_ => Blk w_ w.heap.size 24 (natsV .u64 lu) ∧ Blk w_ (w.heap.size + 1) 43 (pv lx ly ip) ∧ Blk w_ (w.heap.size + 1 + 1) 24 (natsV .u64 lv) ∧ Blk w_ (w.heap.size + 1 + 1 + 1) 43 (pv mx my iq)) 10 (by kernel_rfl) ⟨C8.out.drew, C9.out.drew, C10.out.drew, C11.out.drew⟩ ?_
  refine wpAnyG_take (fun _ _ hS_ hb_ => ⟨hS_.1.gr hb_, hS_.2.1.gr hb_, hS_.2.2.1.gr hb_, hS_.2.2.2.gr hb_⟩) (i := 0) rfl (by kernel_rfl) (fun _ _ _ h => h) (loadG (by rfl) _ _ rfl _ _ rfl (natsV .u64 lu) _ (fun _ hS_ => blk_all (hS_.1)) Try.underlying24 rfl (i24 L_lu.out)) ?_
  try simp only [Act.put, zq1, zq2, zq3, zq4, zq5, zq6]
  refine wpAnyG_take (fun _ _ hS_ hb_ => ⟨hS_.1.gr hb_, hS_.2.1.gr hb_, hS_.2.2.1.gr hb_, hS_.2.2.2.gr hb_⟩) (i := 1) rfl (by kernel_rfl) (fun _ _ _ h => h) (loadG (by rfl) _ _ rfl _ _ rfl (pv lx ly ip) _ (fun _ hS_ => blk_all (hS_.2.1)) Try.underlying43 rfl (i43 L_lx.out L_ly.out)) ?_
  try simp only [Act.put, zq1, zq2, zq3, zq4, zq5, zq6]
  refine wpAnyG_take (fun _ _ hS_ hb_ => ⟨hS_.1.gr hb_, hS_.2.1.gr hb_, hS_.2.2.1.gr hb_, hS_.2.2.2.gr hb_⟩) (i := 2) rfl (by kernel_rfl) (fun _ _ _ h => h) (callG (by rfl) rfl Try.func81 (by kernel_rfl) (by kernel_rfl) (#[.agg (pv lx ly ip).toArray]) (by simp [Act.eval]) (fun w _ => Hc1.out w)) ?_
  try simp only [Act.put, zq1, zq2, zq3, zq4, zq5, zq6]
  refine wpAnyG_take (fun _ _ hS_ hb_ => ⟨hS_.1.gr hb_, hS_.2.1.gr hb_, hS_.2.2.1.gr hb_, hS_.2.2.2.gr hb_⟩) (i := 3) rfl (by kernel_rfl) (fun _ _ _ h => h) (loadG (by rfl) _ _ rfl _ _ rfl (natsV .u64 lv) _ (fun _ hS_ => blk_all (hS_.2.2.1)) Try.underlying24 rfl (i24 L_lv.out)) ?_
  try simp only [Act.put, zq1, zq2, zq3, zq4, zq5, zq6]
  refine wpAnyG_take (fun _ _ hS_ hb_ => ⟨hS_.1.gr hb_, hS_.2.1.gr hb_, hS_.2.2.1.gr hb_, hS_.2.2.2.gr hb_⟩) (i := 4) rfl (by kernel_rfl) (fun _ _ _ h => h) (loadG (by rfl) _ _ rfl _ _ rfl (pv mx my iq) _ (fun _ hS_ => blk_all (hS_.2.2.2)) Try.underlying43 rfl (i43 L_mx.out L_my.out)) ?_
  try simp only [Act.put, zq1, zq2, zq3, zq4, zq5, zq6]
  refine wpAnyG_take (fun _ _ hS_ hb_ => ⟨hS_.1.gr hb_, hS_.2.1.gr hb_, hS_.2.2.1.gr hb_, hS_.2.2.2.gr hb_⟩) (i := 5) rfl (by kernel_rfl) (fun _ _ _ h => h) (callG (by rfl) rfl Try.func81 (by kernel_rfl) (by kernel_rfl) (#[.agg (pv mx my iq).toArray]) (by simp [Act.eval]) (fun w _ => Hc2.out w)) ?_
  try simp only [Act.put, zq1, zq2, zq3, zq4, zq5, zq6]
  refine wpAnyG_take (fun _ _ hS_ hb_ => ⟨hS_.1.gr hb_, hS_.2.1.gr hb_, hS_.2.2.1.gr hb_, hS_.2.2.2.gr hb_⟩) (i := 6) rfl (by kernel_rfl) (fun _ _ _ h => h) (callG (by rfl) rfl Try.func85 (by kernel_rfl) (by kernel_rfl) (#[.agg (natsV .u64 lu).toArray, .agg (tv ax ay az).toArray, .agg (natsV .u64 lv).toArray, .agg (tv bx by_ bz).toArray]) (by simp [Act.eval]) (fun w _ => Hc3.out w)) ?_
  try simp only [Act.put, zq1, zq2, zq3, zq4, zq5, zq6]
  refine wpAnyG_take (fun _ _ hS_ hb_ => ⟨hS_.1.gr hb_, hS_.2.1.gr hb_, hS_.2.2.1.gr hb_, hS_.2.2.2.gr hb_⟩) (i := 7) rfl (by kernel_rfl) (fun _ _ _ h => h) (callG (by rfl) rfl Try.func83 (by kernel_rfl) (by kernel_rfl) (#[.agg (tv cx cy cz).toArray]) (by simp [Act.eval]) (fun w _ => Hc4.out w)) ?_
  try simp only [Act.put, zq1, zq2, zq3, zq4, zq5, zq6]
  refine wpAnyG_store (i := 8) (by kernel_rfl) rfl C12.out.drew (lenEq (show (pv (zeros 4) (zeros 4) false).length = 9 from rfl) (pv_len L_rx.out L_ry.out)) (StoresG.mk (cs := (pv rx ry ir)) (by rfl) 43 _ _ rfl rfl rfl (i43 L_rx.out L_ry.out) (pv_one _ _ _)) (.inr (fun _ hS_ => ⟨hS_.1.row _ ((show w.heap.size ≠ (w.heap.size + 1 + 1 + 1 + 1) by omega)), hS_.2.1.row _ ((show (w.heap.size + 1) ≠ (w.heap.size + 1 + 1 + 1 + 1) by omega)), hS_.2.2.1.row _ ((show (w.heap.size + 1 + 1) ≠ (w.heap.size + 1 + 1 + 1 + 1) by omega)), hS_.2.2.2.row _ ((show (w.heap.size + 1 + 1 + 1) ≠ (w.heap.size + 1 + 1 + 1 + 1) by omega))⟩)) ?_
  intro w15 hgw15 hn_
  try simp only [Act.put, zq1, zq2, zq3, zq4, zq5, zq6]
  have E16 := Lib.hid (C8.out.drew.grown hgw15 (fun e => (show w.heap.size ≠ (w.heap.size + 1 + 1 + 1 + 1) by omega) (Option.some.inj e)))
  clear C8
  have E17 := Lib.hid (C9.out.drew.grown hgw15 (fun e => (show (w.heap.size + 1) ≠ (w.heap.size + 1 + 1 + 1 + 1) by omega) (Option.some.inj e)))
  clear C9
  have E18 := Lib.hid (C10.out.drew.grown hgw15 (fun e => (show (w.heap.size + 1 + 1) ≠ (w.heap.size + 1 + 1 + 1 + 1) by omega) (Option.some.inj e)))
  clear C10
  have E19 := Lib.hid (C11.out.drew.grown hgw15 (fun e => (show (w.heap.size + 1 + 1 + 1) ≠ (w.heap.size + 1 + 1 + 1 + 1) by omega) (Option.some.inj e)))
  clear C11
  have D20 := Lib.hid hn_
  clear hn_ C12
  have hbel21 := belStore hbel13.drew hgw15 (show w.heap.size ≤ (w.heap.size + 1 + 1 + 1 + 1) by omega)
  clear hgw15
  refine wpAnyG_take (fun _ _ hS_ hb_ => ⟨hS_.1.gr hb_, hS_.2.1.gr hb_, hS_.2.2.1.gr hb_, hS_.2.2.2.gr hb_⟩) (i := 9) rfl (by kernel_rfl) (fun _ _ _ h => h) (pureG (by rfl) (by intro w; go_simp; first | done | with_reducible rfl)) ?_
  try simp only [Act.put, zq1, zq2, zq3, zq4, zq5, zq6]
  refine wpAnyG_done (by kernel_rfl) ?_ _
  intro w22 hgw22
  try simp only [Act.put, zq1, zq2, zq3, zq4, zq5, zq6]
  have C23 := Lib.hid (E16.out.gr hgw22)
  clear E16
  have C24 := Lib.hid (E17.out.gr hgw22)
  clear E17
  have C25 := Lib.hid (E18.out.gr hgw22)
  clear E18
  have C26 := Lib.hid (E19.out.gr hgw22)
  clear E19
  have C27 := Lib.hid (D20.out.gr hgw22)
  clear D20
  have hbel28 := hbel21.trans (Below.mono hgw22 hbel21.size)
  clear hbel21
  clear hgw22
  as_aux_lemma =>
  go_wp2_with fail
  refine bodyPost_ret (v := .tuple #[.agg (pv rx ry ir).toArray, .int .i64 0]) ?_ rfl ⟨rfl, hbel28⟩
  exact results_two Try.results41 _ _ (w.heap.size + 1 + 1 + 1 + 1) 43 _ (0, 0) _ _ rfl rfl C27.out Try.underlying43 rfl (by simpa using (i43 L_rx.out L_ry.out))
set_option maxRecDepth 100000 in
set_option maxHeartbeats 3200000 in
theorem mul_w {lu lx ly rx ry : List Nat} {ip ir : Bool} {E : Int} (hlu : lu.length = 4) (hlx : lx.length = 4) (hly : ly.length = 4) (hrx : rx.length = 4) (hry : ry.length = 4)
    (c1 : ∀ w, Calls Try.prog 67 #[] w fun e w' => e = .returned (.agg (pv (zeros 4) (zeros 4) true).toArray) ∧ Below w.heap.size w w')
    (c2 : ∀ w, Calls Try.prog 41 #[.agg (natsV .u64 lu).toArray, .agg (pv lx ly ip).toArray, .agg #[.int .u64 0, .int .u64 0, .int .u64 0, .int .u64 0], .agg (pv (zeros 4) (zeros 4) true).toArray] w fun e w' => e = .returned (.tuple #[.agg (pv rx ry ir).toArray, .int .i64 E]) ∧ Below w.heap.size w w') (w : World) :
    Calls Try.prog 40 #[.agg (natsV .u64 lu).toArray, .agg (pv lx ly ip).toArray] w fun e w' => e = .returned (.tuple #[.agg (pv rx ry ir).toArray, .int .i64 E]) ∧ Below w.heap.size w w' := by
  have L_lu := Lib.hid hlu
  clear hlu
  have L_lx := Lib.hid hlx
  clear hlx
  have L_ly := Lib.hid hly
  clear hly
  have L_rx := Lib.hid hrx
  clear hrx
  have L_ry := Lib.hid hry
  clear hry
  have Hc1 := Lib.hid c1
  clear c1
  have Hc2 := Lib.hid c2
  clear c2
  have B0_ := Lib.hid (((Blk.new w  24 (natsV .u64 lu)).alloc (.cells (pv lx ly ip).toArray 43)).alloc (.cells (pv (zeros 4) (zeros 4) false).toArray 43))
  have B1_ := Lib.hid ((Blk.new2 w (.cells (natsV .u64 lu).toArray 24) 43 (pv lx ly ip)).alloc (.cells (pv (zeros 4) (zeros 4) false).toArray 43))
  have B2_ := Lib.hid (Blk.new3 w (.cells (natsV .u64 lu).toArray 24) (.cells (pv lx ly ip).toArray 43) 43 (pv (zeros 4) (zeros 4) false))
  have bel_ := ((((Below.refl w.heap.size w).alloc (Nat.le_refl _) (.cells (natsV .u64 lu).toArray 24)).alloc (by simp) (.cells (pv lx ly ip).toArray 43)).alloc (by simp; omega) (.cells (pv (zeros 4) (zeros 4) false).toArray 43))
  go_enter Try.func40, Try.ntmps40
  go_wp2_with fail
  as_aux_lemma =>
  refine wp_region_G (fun w_ => Blk w_ w.heap.size 24 (natsV .u64 lu) ∧ Blk w_ (w.heap.size + 1) 43 (pv lx ly ip)) 9 (by kernel_rfl) ⟨B0_.out.drew, B1_.out.drew⟩ ?_
  refine wpAnyG_take (fun _ _ hS_ hb_ => ⟨hS_.1.gr hb_, hS_.2.gr hb_⟩) (i := 0) rfl (by kernel_rfl) (fun _ _ _ h => h) (loadG (by rfl) _ _ rfl _ _ rfl (natsV .u64 lu) _ (fun _ hS_ => blk_all (hS_.1)) Try.underlying24 rfl (i24 L_lu.out)) ?_
  try simp only [Act.put, zq1, zq2, zq3, zq4, zq5, zq6]
  refine wpAnyG_take (fun _ _ hS_ hb_ => ⟨hS_.1.gr hb_, hS_.2.gr hb_⟩) (i := 1) rfl (by kernel_rfl) (fun _ _ _ h => h) (loadG (by rfl) _ _ rfl _ _ rfl (pv lx ly ip) _ (fun _ hS_ => blk_all (hS_.2)) Try.underlying43 rfl (i43 L_lx.out L_ly.out)) ?_
  try simp only [Act.put, zq1, zq2, zq3, zq4, zq5, zq6]
  refine wpAnyG_take (fun _ _ hS_ hb_ => ⟨hS_.1.gr hb_, hS_.2.gr hb_⟩) (i := 2) rfl (by kernel_rfl) (fun _ _ _ h => h) (pureG (by rfl) (by intro w; go_simp; first | done | with_reducible rfl)) ?_
  try simp only [Act.put, zq1, zq2, zq3, zq4, zq5, zq6]
  refine wpAnyG_take (fun _ _ hS_ hb_ => ⟨hS_.1.gr hb_, hS_.2.gr hb_⟩) (i := 3) rfl (by kernel_rfl) (fun _ _ _ h => h) (callG (by rfl) rfl Try.func67 (by kernel_rfl) (by kernel_rfl) (#[]) (by simp [Act.eval]) (fun w _ => Hc1.out w)) ?_
  try simp only [Act.put, zq1, zq2, zq3, zq4, zq5, zq6]
  refine wpAnyG_take (fun _ _ hS_ hb_ => ⟨hS_.1.gr hb_, hS_.2.gr hb_⟩) (i := 4) rfl (by kernel_rfl) (fun _ _ _ h => h) (callG (by rfl) rfl Try.func41 (by kernel_rfl) (by kernel_rfl) (#[.agg (natsV .u64 lu).toArray, .agg (pv lx ly ip).toArray, .agg #[.int .u64 0, .int .u64 0, .int .u64 0, .int .u64 0], .agg (pv (zeros 4) (zeros 4) true).toArray]) (by simp [Act.eval]) (fun w _ => Hc2.out w)) ?_
  try simp only [Act.put, zq1, zq2, zq3, zq4, zq5, zq6]
  refine wpAnyG_take (fun _ _ hS_ hb_ => ⟨hS_.1.gr hb_, hS_.2.gr hb_⟩) (i := 5) rfl (by kernel_rfl) (fun _ _ _ h => h) (pureG (by rfl) (by intro w; go_simp; first | done | with_reducible rfl)) ?_
  try simp only [Act.put, zq1, zq2, zq3, zq4, zq5, zq6]
  refine wpAnyG_take (fun _ _ hS_ hb_ => ⟨hS_.1.gr hb_, hS_.2.gr hb_⟩) (i := 6) rfl (by kernel_rfl) (fun _ _ _ h => h) (pureG (by rfl) (by intro w; go_simp; first | done | with_reducible rfl)) ?_
  try simp only [Act.put, zq1, zq2, zq3, zq4, zq5, zq6]
  refine wpAnyG_store (i := 7) (by kernel_rfl) rfl B2_.out.drew (lenEq (show (pv (zeros 4) (zeros 4) false).length = 9 from rfl) (pv_len L_rx.out L_ry.out)) (StoresG.mk (cs := (pv rx ry ir)) (by rfl) 43 _ _ rfl rfl rfl (i43 L_rx.out L_ry.out) (pv_one _ _ _)) (.inr (fun _ hS_ => ⟨hS_.1.row _ ((show w.heap.size ≠ (w.heap.size + 1 + 1) by omega)), hS_.2.row _ ((show (w.heap.size + 1) ≠ (w.heap.size + 1 + 1) by omega))⟩)) ?_
  intro w2 hgw2 hn_
  try simp only [Act.put, zq1, zq2, zq3, zq4, zq5, zq6]
  have E3 := Lib.hid (B0_.out.drew.grown hgw2 (fun e => (show w.heap.size ≠ (w.heap.size + 1 + 1) by omega) (Option.some.inj e)))
  clear B0_
  have E4 := Lib.hid (B1_.out.drew.grown hgw2 (fun e => (show (w.heap.size + 1) ≠ (w.heap.size + 1 + 1) by omega) (Option.some.inj e)))
  clear B1_
  have D5 := Lib.hid hn_
  clear hn_ B2_
  have hbel6 := belStore bel_.drew hgw2 (show w.heap.size ≤ (w.heap.size + 1 + 1) by omega)
  clear hgw2
  refine wpAnyG_take (fun _ _ hS_ hb_ => ⟨hS_.1.gr hb_, hS_.2.gr hb_⟩) (i := 8) rfl (by kernel_rfl) (fun _ _ _ h => h) (pureG (by rfl) (by intro w; go_simp; first | done | with_reducible rfl)) ?_
  try simp only [Act.put, zq1, zq2, zq3, zq4, zq5, zq6]
  refine wpAnyG_done (by kernel_rfl) ?_ _
  intro w7 hgw7
  try simp only [Act.put, zq1, zq2, zq3, zq4, zq5, zq6]
  have C8 := Lib.hid (E3.out.gr hgw7)
  clear E3
  have C9 := Lib.hid (E4.out.gr hgw7)
  clear E4
  have C10 := Lib.hid (D5.out.gr hgw7)
  clear D5
  have hbel11 := hbel6.trans (Below.mono hgw7 hbel6.size)
  clear hbel6
  clear hgw7
  as_aux_lemma =>
  go_wp2_with fail
  refine bodyPost_ret (v := .tuple #[.agg (pv rx ry ir).toArray, .int .i64 E]) ?_ rfl ⟨rfl, hbel11⟩
  exact results_two Try.results40 _ _ (w.heap.size + 1 + 1) 43 _ (0, 0) _ _ rfl rfl C10.out Try.underlying43 rfl (by simpa using (i43 L_rx.out L_ry.out))
end Go.Proofs.Ytfffmoolkgheaaa
