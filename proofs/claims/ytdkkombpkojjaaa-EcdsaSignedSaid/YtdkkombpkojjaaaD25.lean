/- Parts of proofs of statements, each text behind those that it stands on. No condition of its own. -/
import Derived.Test.YtdkkombpkojjaaaD15
namespace Go.Proofs.Ytdkkombpkojjaaa
set_option maxRecDepth 100000
set_option maxHeartbeats 6400000
open Go.RowKit
set_option linter.unusedVariables false
set_option linter.unusedSimpArgs false
theorem two_no {lu lv lx ly mx my : List Nat} {ip iq : Bool} (hlu : lu.length = 4) (hlv : lv.length = 4) (hlx : lx.length = 4) (hly : ly.length = 4) (hmx : mx.length = 4) (hmy : my.length = 4)
   (cal : ∀ g w, w.rangeAt g 0 (pv lx ly ip) → w.rangeAt g 9 (pv mx my iq) → Calls Try.prog 37 #[.slice (some ⟨g, 0, none⟩) 2 2] w fun e w' => e = .returned (.bool false) ∧ Below w.heap.size w w') (w : World) :
   Calls Try.prog 19 #[.agg (natsV .u64 lu).toArray, .agg (pv lx ly ip).toArray, .agg (natsV .u64 lv).toArray, .agg (pv mx my iq).toArray] w fun e w' => e = .returned (.tuple #[.agg (pv (zeros 4) (zeros 4) false).toArray, .int .i64 62]) ∧ Below w.heap.size w w' := by
 have L_lu := Hd hlu
 have L_lv := Hd hlv
 have L_lx := Hd hlx
 have L_ly := Hd hly
 have L_mx := Hd hmx
 have L_my := Hd hmy
 have HAL := Hd cal
 have B0_ := Hd (((((Blk.new w  24 (natsV .u64 lu)).alloc (.cells (pv lx ly ip).toArray 32)).alloc (.cells (natsV .u64 lv).toArray 24)).alloc (.cells (pv mx my iq).toArray 32)).alloc (.cells (pv (zeros 4) (zeros 4) false).toArray 32))
 have B1_ := Hd ((((Blk.new2 w (.cells (natsV .u64 lu).toArray 24) 32 (pv lx ly ip)).alloc (.cells (natsV .u64 lv).toArray 24)).alloc (.cells (pv mx my iq).toArray 32)).alloc (.cells (pv (zeros 4) (zeros 4) false).toArray 32))
 have B2_ := Hd (((Blk.new3 w (.cells (natsV .u64 lu).toArray 24) (.cells (pv lx ly ip).toArray 32) 24 (natsV .u64 lv)).alloc (.cells (pv mx my iq).toArray 32)).alloc (.cells (pv (zeros 4) (zeros 4) false).toArray 32))
 have B3_ := Hd ((Blk.new4 w (.cells (natsV .u64 lu).toArray 24) (.cells (pv lx ly ip).toArray 32) (.cells (natsV .u64 lv).toArray 24) 32 (pv mx my iq)).alloc (.cells (pv (zeros 4) (zeros 4) false).toArray 32))
 have B4_ := Hd (Blk.new5 w (.cells (natsV .u64 lu).toArray 24) (.cells (pv lx ly ip).toArray 32) (.cells (natsV .u64 lv).toArray 24) (.cells (pv mx my iq).toArray 32) 32 (pv (zeros 4) (zeros 4) false))
 clear hlu hlv hlx hly hmx hmy cal
 have bel_ := ((((((Below.refl w.heap.size w).alloc (Nat.le_refl _) (.cells (natsV .u64 lu).toArray 24)).alloc (by simp) (.cells (pv lx ly ip).toArray 32)).alloc (by simp; omega) (.cells (natsV .u64 lv).toArray 24)).alloc (by simp; omega) (.cells (pv mx my iq).toArray 32)).alloc (by simp; omega) (.cells (pv (zeros 4) (zeros 4) false).toArray 32))
 go_enter Try.func19, Try.ntmps19
 go_wp2_with (first | (refine lm' (blk_all (B1_.out)) Try.underlying32 (i43 L_lx.out L_ly.out) ?_) | (refine lm' (blk_all (B3_.out)) Try.underlying32 (i43 L_mx.out L_my.out) ?_) | (refine bs2p rfl (.tmp 10) (.tmp 11) rfl rfl rfl L_lx.out L_ly.out L_mx.out L_my.out ?_))
 have TR := two_r (Blk.newAt (W := (((((w.alloc (.cells (natsV .u64 lu).toArray 24)).alloc (.cells (pv lx ly ip).toArray 32)).alloc (.cells (natsV .u64 lv).toArray 24)).alloc (.cells (pv mx my iq).toArray 32)).alloc (.cells (pv (zeros 4) (zeros 4) false).toArray 32))) (g := (w.heap.size + 1 + 1 + 1 + 1 + 1)) 32 ((pv lx ly ip) ++ (pv mx my iq)) (by simp)) (pv_len L_lx.out L_ly.out)
 refine (HAL.out (w.heap.size + 1 + 1 + 1 + 1 + 1) _ TR.1 TR.2).mono ?_
 rintro e w1 ⟨rfl, hbw1⟩
 have C2 := Hd (B0_.out.gr (Gr.alloc _ (Obj.cells ((pv lx ly ip) ++ (pv mx my iq)).toArray 32)))
 have C3 := Hd (B1_.out.gr (Gr.alloc _ (Obj.cells ((pv lx ly ip) ++ (pv mx my iq)).toArray 32)))
 have C4 := Hd (B2_.out.gr (Gr.alloc _ (Obj.cells ((pv lx ly ip) ++ (pv mx my iq)).toArray 32)))
 have C5 := Hd (B3_.out.gr (Gr.alloc _ (Obj.cells ((pv lx ly ip) ++ (pv mx my iq)).toArray 32)))
 have C6 := Hd (B4_.out.gr (Gr.alloc _ (Obj.cells ((pv lx ly ip) ++ (pv mx my iq)).toArray 32)))
 have hbel7 := bel_.trans (Below.mono (Gr.alloc _ (Obj.cells ((pv lx ly ip) ++ (pv mx my iq)).toArray 32)) bel_.size)
 have C8 := gq' C2 hbw1
 have C9 := gq' C3 hbw1
 have C10 := gq' C4 hbw1
 have C11 := gq' C5 hbw1
 have C12 := gq' C6 hbw1
 have hbel13 := hbel7.trans (Below.mono hbw1 hbel7.size)
 clear TR B0_ B1_ B2_ B3_ B4_ bel_ C2 C3 C4 C5 C6 hbel7 hbw1
 go_wp2_with (first | (refine stB rfl 32 (.tmp 8) (.tmp 15) rfl (w.heap.size + 1 + 1 + 1 + 1) rfl (pv (zeros 4) (zeros 4) false) rfl 32 (pv (zeros 4) (zeros 4) false) C12.out (i43 rfl rfl) (lenEq pz9 pz9) p1_ ?_))
 refine bodyPost_ret (v := .tuple #[.agg (pv (zeros 4) (zeros 4) false).toArray, .int .i64 62]) ?_ rfl ⟨rfl, below_setRow' hbel13 (by first | exact Nat.le_refl _ | omega) _⟩
 exact results_two Try.results19 _ _ (w.heap.size + 1 + 1 + 1 + 1) 32 _ (0, 0) _ _ rfl rfl (C12.out.setRow _) Try.underlying32 rfl (by simpa using (i43 rfl rfl))
theorem two_ok {lu lv lx ly mx my ax ay az bx by_ bz cx cy cz rx ry : List Nat} {ip iq ir : Bool} (hlu : lu.length = 4) (hlv : lv.length = 4) (hlx : lx.length = 4) (hly : ly.length = 4) (hmx : mx.length = 4) (hmy : my.length = 4) (hax : ax.length = 4) (hay : ay.length = 4) (haz : az.length = 4) (hbx : bx.length = 4) (hby_ : by_.length = 4) (hbz : bz.length = 4) (hcx : cx.length = 4) (hcy : cy.length = 4) (hcz : cz.length = 4) (hrx : rx.length = 4) (hry : ry.length = 4)
   (c1 : Ans 39 #[.agg (pv lx ly ip).toArray] (.agg (tv ax ay az).toArray))
   (c2 : Ans 39 #[.agg (pv mx my iq).toArray] (.agg (tv bx by_ bz).toArray))
   (c3 : Ans 38 #[.agg (natsV .u64 lu).toArray, .agg (tv ax ay az).toArray, .agg (natsV .u64 lv).toArray, .agg (tv bx by_ bz).toArray] (.agg (tv cx cy cz).toArray))
   (c4 : Ans 40 #[.agg (tv cx cy cz).toArray] (.agg (pv rx ry ir).toArray))
   (cal : ∀ g w, w.rangeAt g 0 (pv lx ly ip) → w.rangeAt g 9 (pv mx my iq) → Calls Try.prog 37 #[.slice (some ⟨g, 0, none⟩) 2 2] w fun e w' => e = .returned (.bool true) ∧ Below w.heap.size w w') (w : World) :
   Calls Try.prog 19 #[.agg (natsV .u64 lu).toArray, .agg (pv lx ly ip).toArray, .agg (natsV .u64 lv).toArray, .agg (pv mx my iq).toArray] w fun e w' => e = .returned (.tuple #[.agg (pv rx ry ir).toArray, .int .i64 0]) ∧ Below w.heap.size w w' := by
 have L_lu := Hd hlu
 have L_lv := Hd hlv
 have L_lx := Hd hlx
 have L_ly := Hd hly
 have L_mx := Hd hmx
 have L_my := Hd hmy
 have L_ax := Hd hax
 have L_ay := Hd hay
 have L_az := Hd haz
 have L_bx := Hd hbx
 have L_by_ := Hd hby_
 have L_bz := Hd hbz
 have L_cx := Hd hcx
 have L_cy := Hd hcy
 have L_cz := Hd hcz
 have L_rx := Hd hrx
 have L_ry := Hd hry
 have Hc1 := Hd c1
 have Hc2 := Hd c2
 have Hc3 := Hd c3
 have Hc4 := Hd c4
 have HAL := Hd cal
 have B0_ := Hd (((((Blk.new w  24 (natsV .u64 lu)).alloc (.cells (pv lx ly ip).toArray 32)).alloc (.cells (natsV .u64 lv).toArray 24)).alloc (.cells (pv mx my iq).toArray 32)).alloc (.cells (pv (zeros 4) (zeros 4) false).toArray 32))
 have B1_ := Hd ((((Blk.new2 w (.cells (natsV .u64 lu).toArray 24) 32 (pv lx ly ip)).alloc (.cells (natsV .u64 lv).toArray 24)).alloc (.cells (pv mx my iq).toArray 32)).alloc (.cells (pv (zeros 4) (zeros 4) false).toArray 32))
 have B2_ := Hd (((Blk.new3 w (.cells (natsV .u64 lu).toArray 24) (.cells (pv lx ly ip).toArray 32) 24 (natsV .u64 lv)).alloc (.cells (pv mx my iq).toArray 32)).alloc (.cells (pv (zeros 4) (zeros 4) false).toArray 32))
 have B3_ := Hd ((Blk.new4 w (.cells (natsV .u64 lu).toArray 24) (.cells (pv lx ly ip).toArray 32) (.cells (natsV .u64 lv).toArray 24) 32 (pv mx my iq)).alloc (.cells (pv (zeros 4) (zeros 4) false).toArray 32))
 have B4_ := Hd (Blk.new5 w (.cells (natsV .u64 lu).toArray 24) (.cells (pv lx ly ip).toArray 32) (.cells (natsV .u64 lv).toArray 24) (.cells (pv mx my iq).toArray 32) 32 (pv (zeros 4) (zeros 4) false))
 clear hlu hlv hlx hly hmx hmy hax hay haz hbx hby_ hbz hcx hcy hcz hrx hry c1 c2 c3 c4 cal
 have bel_ := ((((((Below.refl w.heap.size w).alloc (Nat.le_refl _) (.cells (natsV .u64 lu).toArray 24)).alloc (by simp) (.cells (pv lx ly ip).toArray 32)).alloc (by simp; omega) (.cells (natsV .u64 lv).toArray 24)).alloc (by simp; omega) (.cells (pv mx my iq).toArray 32)).alloc (by simp; omega) (.cells (pv (zeros 4) (zeros 4) false).toArray 32))
 go_enter Try.func19, Try.ntmps19
 go_wp2_with (first | (refine lm' (blk_all (B1_.out)) Try.underlying32 (i43 L_lx.out L_ly.out) ?_) | (refine lm' (blk_all (B3_.out)) Try.underlying32 (i43 L_mx.out L_my.out) ?_) | (refine bs2p rfl (.tmp 10) (.tmp 11) rfl rfl rfl L_lx.out L_ly.out L_mx.out L_my.out ?_))
 have TR := two_r (Blk.newAt (W := (((((w.alloc (.cells (natsV .u64 lu).toArray 24)).alloc (.cells (pv lx ly ip).toArray 32)).alloc (.cells (natsV .u64 lv).toArray 24)).alloc (.cells (pv mx my iq).toArray 32)).alloc (.cells (pv (zeros 4) (zeros 4) false).toArray 32))) (g := (w.heap.size + 1 + 1 + 1 + 1 + 1)) 32 ((pv lx ly ip) ++ (pv mx my iq)) (by simp)) (pv_len L_lx.out L_ly.out)
 refine (HAL.out (w.heap.size + 1 + 1 + 1 + 1 + 1) _ TR.1 TR.2).mono ?_
 rintro e w1 ⟨rfl, hbw1⟩
 have C2 := Hd (B0_.out.gr (Gr.alloc _ (Obj.cells ((pv lx ly ip) ++ (pv mx my iq)).toArray 32)))
 have C3 := Hd (B1_.out.gr (Gr.alloc _ (Obj.cells ((pv lx ly ip) ++ (pv mx my iq)).toArray 32)))
 have C4 := Hd (B2_.out.gr (Gr.alloc _ (Obj.cells ((pv lx ly ip) ++ (pv mx my iq)).toArray 32)))
 have C5 := Hd (B3_.out.gr (Gr.alloc _ (Obj.cells ((pv lx ly ip) ++ (pv mx my iq)).toArray 32)))
 have C6 := Hd (B4_.out.gr (Gr.alloc _ (Obj.cells ((pv lx ly ip) ++ (pv mx my iq)).toArray 32)))
 have hbel7 := bel_.trans (Below.mono (Gr.alloc _ (Obj.cells ((pv lx ly ip) ++ (pv mx my iq)).toArray 32)) bel_.size)
 have C8 := gq' C2 hbw1
 have C9 := gq' C3 hbw1
 have C10 := gq' C4 hbw1
 have C11 := gq' C5 hbw1
 have C12 := gq' C6 hbw1
 have hbel13 := hbel7.trans (Below.mono hbw1 hbel7.size)
 clear TR B0_ B1_ B2_ B3_ B4_ bel_ C2 C3 C4 C5 C6 hbel7 hbw1
 go_wp2_with fail
 as_aux_lemma =>
 refine wp_region_G (fun w_ => Blk w_ w.heap.size 24 (natsV .u64 lu) ∧ Blk w_ (w.heap.size + 1) 32 (pv lx ly ip) ∧ Blk w_ (w.heap.size + 1 + 1) 24 (natsV .u64 lv) ∧ Blk w_ (w.heap.size + 1 + 1 + 1) 32 (pv mx my iq)) 10 (by kernel_rfl) ⟨C8.out.drew, C9.out.drew, C10.out.drew, C11.out.drew⟩ ?_
 refine tk gS4 0 rfl (lg' (fun _ hS_ => blk_all (hS_.1)) Try.underlying24 (i24 L_lu.out)) ?_
 try simp only [Act.put, zq]
 refine tk gS4 1 rfl (lg' (fun _ hS_ => blk_all (hS_.2.1)) Try.underlying32 (i43 L_lx.out L_ly.out)) ?_
 try simp only [Act.put, zq]
 refine tk gS4 2 rfl (cg' Try.func39 (fun w _ => Hc1.out w)) ?_
 try simp only [Act.put, zq]
 refine tk gS4 3 rfl (lg' (fun _ hS_ => blk_all (hS_.2.2.1)) Try.underlying24 (i24 L_lv.out)) ?_
 try simp only [Act.put, zq]
 refine tk gS4 4 rfl (lg' (fun _ hS_ => blk_all (hS_.2.2.2)) Try.underlying32 (i43 L_mx.out L_my.out)) ?_
 try simp only [Act.put, zq]
 refine tk gS4 5 rfl (cg' Try.func39 (fun w _ => Hc2.out w)) ?_
 try simp only [Act.put, zq]
 refine tk gS4 6 rfl (cg' Try.func38 (fun w _ => Hc3.out w)) ?_
 try simp only [Act.put, zq]
 refine tk gS4 7 rfl (cg' Try.func40 (fun w _ => Hc4.out w)) ?_
 try simp only [Act.put, zq]
 refine wpAnyG_store (i := 8) (by kernel_rfl) rfl C12.out.drew (lenEq pz9 (pv_len L_rx.out L_ry.out)) (StoresG.mk (cs := (pv rx ry ir)) (by rfl) 32 _ _ rfl rfl rfl (i43 L_rx.out L_ry.out) p1_) (.inr (fun _ hS_ => ⟨hS_.1.row _ ((show w.heap.size ≠ (w.heap.size + 1 + 1 + 1 + 1) by omega)), hS_.2.1.row _ ((show (w.heap.size + 1) ≠ (w.heap.size + 1 + 1 + 1 + 1) by omega)), hS_.2.2.1.row _ ((show (w.heap.size + 1 + 1) ≠ (w.heap.size + 1 + 1 + 1 + 1) by omega)), hS_.2.2.2.row _ ((show (w.heap.size + 1 + 1 + 1) ≠ (w.heap.size + 1 + 1 + 1 + 1) by omega))⟩)) ?_
 intro w15 hgw15 hn_
 try simp only [Act.put, zq]
 have E16 := Hd (C8.out.drew.grown hgw15 (fun e => (show w.heap.size ≠ (w.heap.size + 1 + 1 + 1 + 1) by omega) (Option.some.inj e)))
 have E17 := Hd (C9.out.drew.grown hgw15 (fun e => (show (w.heap.size + 1) ≠ (w.heap.size + 1 + 1 + 1 + 1) by omega) (Option.some.inj e)))
 have E18 := Hd (C10.out.drew.grown hgw15 (fun e => (show (w.heap.size + 1 + 1) ≠ (w.heap.size + 1 + 1 + 1 + 1) by omega) (Option.some.inj e)))
 have E19 := Hd (C11.out.drew.grown hgw15 (fun e => (show (w.heap.size + 1 + 1 + 1) ≠ (w.heap.size + 1 + 1 + 1 + 1) by omega) (Option.some.inj e)))
 have D20 := Hd hn_
 have hbel21 := belStore hbel13.drew hgw15 (show w.heap.size ≤ (w.heap.size + 1 + 1 + 1 + 1) by omega)
 clear C8 C9 C10 C11 hn_ C12 hgw15
 refine tkp gS4 9 rfl ?_
 try simp only [Act.put, zq]
 refine wpAnyG_done (by kernel_rfl) ?_ _
 intro w22 hgw22
 try simp only [Act.put, zq]
 have C23 := gq' E16 hgw22
 have C24 := gq' E17 hgw22
 have C25 := gq' E18 hgw22
 have C26 := gq' E19 hgw22
 have C27 := gq' D20 hgw22
 have hbel28 := hbel21.trans (Below.mono hgw22 hbel21.size)
 clear E16 E17 E18 E19 D20 hbel21 hgw22
 as_aux_lemma =>
 go_wp2_with fail
 refine bodyPost_ret (v := .tuple #[.agg (pv rx ry ir).toArray, .int .i64 0]) ?_ rfl ⟨rfl, hbel28⟩
 exact results_two Try.results19 _ _ (w.heap.size + 1 + 1 + 1 + 1) 32 _ (0, 0) _ _ rfl rfl C27.out Try.underlying32 rfl (by simpa using (i43 L_rx.out L_ry.out))
theorem mul_w {lu lx ly rx ry : List Nat} {ip ir : Bool} {E : Int} (hlu : lu.length = 4) (hlx : lx.length = 4) (hly : ly.length = 4) (hrx : rx.length = 4) (hry : ry.length = 4)
   (c1 : Ans 20 #[] (.agg (pv (zeros 4) (zeros 4) true).toArray))
   (c2 : Ans 19 #[.agg (natsV .u64 lu).toArray, .agg (pv lx ly ip).toArray, .agg #[.int .u64 0, .int .u64 0, .int .u64 0, .int .u64 0], .agg (pv (zeros 4) (zeros 4) true).toArray] (.tuple #[.agg (pv rx ry ir).toArray, .int .i64 E])) (w : World) :
   Calls Try.prog 7 #[.agg (natsV .u64 lu).toArray, .agg (pv lx ly ip).toArray] w fun e w' => e = .returned (.tuple #[.agg (pv rx ry ir).toArray, .int .i64 E]) ∧ Below w.heap.size w w' := by
 have L_lu := Hd hlu
 have L_lx := Hd hlx
 have L_ly := Hd hly
 have L_rx := Hd hrx
 have L_ry := Hd hry
 have Hc1 := Hd c1
 have Hc2 := Hd c2
 have B0_ := Hd (((Blk.new w  24 (natsV .u64 lu)).alloc (.cells (pv lx ly ip).toArray 32)).alloc (.cells (pv (zeros 4) (zeros 4) false).toArray 32))
 have B1_ := Hd ((Blk.new2 w (.cells (natsV .u64 lu).toArray 24) 32 (pv lx ly ip)).alloc (.cells (pv (zeros 4) (zeros 4) false).toArray 32))
 have B2_ := Hd (Blk.new3 w (.cells (natsV .u64 lu).toArray 24) (.cells (pv lx ly ip).toArray 32) 32 (pv (zeros 4) (zeros 4) false))
 clear hlu hlx hly hrx hry c1 c2
 have bel_ := ((((Below.refl w.heap.size w).alloc (Nat.le_refl _) (.cells (natsV .u64 lu).toArray 24)).alloc (by simp) (.cells (pv lx ly ip).toArray 32)).alloc (by simp; omega) (.cells (pv (zeros 4) (zeros 4) false).toArray 32))
 go_enter Try.func7, Try.ntmps7
 go_wp2_with fail
 as_aux_lemma =>
 refine wp_region_G (fun w_ => Blk w_ w.heap.size 24 (natsV .u64 lu) ∧ Blk w_ (w.heap.size + 1) 32 (pv lx ly ip)) 9 (by kernel_rfl) ⟨B0_.out.drew, B1_.out.drew⟩ ?_
 refine tk gS2 0 rfl (lg' (fun _ hS_ => blk_all (hS_.1)) Try.underlying24 (i24 L_lu.out)) ?_
 try simp only [Act.put, zq]
 refine tk gS2 1 rfl (lg' (fun _ hS_ => blk_all (hS_.2)) Try.underlying32 (i43 L_lx.out L_ly.out)) ?_
 try simp only [Act.put, zq]
 refine tkp gS2 2 rfl ?_
 try simp only [Act.put, zq]
 refine tk gS2 3 rfl (cg' Try.func20 (fun w _ => Hc1.out w)) ?_
 try simp only [Act.put, zq]
 refine tk gS2 4 rfl (cg' Try.func19 (fun w _ => Hc2.out w)) ?_
 try simp only [Act.put, zq]
 refine tkp gS2 5 rfl ?_
 try simp only [Act.put, zq]
 refine tkp gS2 6 rfl ?_
 try simp only [Act.put, zq]
 refine wpAnyG_store (i := 7) (by kernel_rfl) rfl B2_.out.drew (lenEq pz9 (pv_len L_rx.out L_ry.out)) (StoresG.mk (cs := (pv rx ry ir)) (by rfl) 32 _ _ rfl rfl rfl (i43 L_rx.out L_ry.out) p1_) (.inr (fun _ hS_ => ⟨hS_.1.row _ ((show w.heap.size ≠ (w.heap.size + 1 + 1) by omega)), hS_.2.row _ ((show (w.heap.size + 1) ≠ (w.heap.size + 1 + 1) by omega))⟩)) ?_
 intro w2 hgw2 hn_
 try simp only [Act.put, zq]
 have E3 := Hd (B0_.out.drew.grown hgw2 (fun e => (show w.heap.size ≠ (w.heap.size + 1 + 1) by omega) (Option.some.inj e)))
 have E4 := Hd (B1_.out.drew.grown hgw2 (fun e => (show (w.heap.size + 1) ≠ (w.heap.size + 1 + 1) by omega) (Option.some.inj e)))
 have D5 := Hd hn_
 have hbel6 := belStore bel_.drew hgw2 (show w.heap.size ≤ (w.heap.size + 1 + 1) by omega)
 clear B0_ B1_ hn_ B2_ hgw2
 refine tkp gS2 8 rfl ?_
 try simp only [Act.put, zq]
 refine wpAnyG_done (by kernel_rfl) ?_ _
 intro w7 hgw7
 try simp only [Act.put, zq]
 have C8 := gq' E3 hgw7
 have C9 := gq' E4 hgw7
 have C10 := gq' D5 hgw7
 have hbel11 := hbel6.trans (Below.mono hgw7 hbel6.size)
 clear E3 E4 D5 hbel6 hgw7
 as_aux_lemma =>
 go_wp2_with fail
 refine bodyPost_ret (v := .tuple #[.agg (pv rx ry ir).toArray, .int .i64 E]) ?_ rfl ⟨rfl, hbel11⟩
 exact results_two Try.results7 _ _ (w.heap.size + 1 + 1) 32 _ (0, 0) _ _ rfl rfl C10.out Try.underlying32 rfl (by simpa using (i43 L_rx.out L_ry.out))
def fv4 (px py pz qx qy qz sx sy sz : List Nat) : List Value := natsV .u64 (zeros 12) ++ (tv px py pz ++ (tv qx qy qz ++ tv sx sy sz))
theorem fv4_len {px py pz qx qy qz sx sy sz : List Nat} (a : px.length = 4) (b : py.length = 4) (c : pz.length = 4) (d : qx.length = 4) (e : qy.length = 4) (f : qz.length = 4) (g : sx.length = 4) (h : sy.length = 4) (i : sz.length = 4) : (fv4 px py pz qx qy qz sx sy sz).length = 48 := by
 unfold fv4; simp only [List.length_append, natsV_length, tv_len a b c, tv_len d e f, tv_len g h i]; rfl
theorem fv4_one (px py pz qx qy qz sx sy sz : List Nat) : ∀ v ∈ fv4 px py pz qx qy qz sx sy sz, v.oneCell' = true := by
 intro v hv
 simp only [fv4, List.mem_append] at hv
 rcases hv with h | h | h | h
 · exact natsV_one _ _ v h
 · exact tv_one _ _ _ v h
 · exact tv_one _ _ _ v h
 · exact tv_one _ _ _ v h
theorem info133 : (Try.prog.info? 94).map (·.size) = some 48 := by kernel_rfl
theorem i133 {px py pz qx qy qz sx sy sz : List Nat} (a : px.length = 4) (b : py.length = 4) (c : pz.length = 4) (d : qx.length = 4) (e : qy.length = 4) (f : qz.length = 4) (g : sx.length = 4) (h : sy.length = 4) (i : sz.length = 4) : (Try.prog.info? 94).map (·.size) = some (fv4 px py pz qx qy qz sx sy sz).length := by rw [info133, fv4_len a b c d e f g h i]
theorem alloc133 (w : World) : (Instr.alloc 94 true (.tuple #[])).run Try.prog w = .ok (.pointer (some ⟨w.heap.size, 0, none⟩)) (w.alloc (.cells (natsV .u64 (zeros 48)).toArray 94)) := by go_simp; rfl
theorem built133 {px py pz qx qy qz sx sy sz : List Nat} (a : px.length = 4) (b : py.length = 4) (c : pz.length = 4) (d : qx.length = 4) (e : qy.length = 4) (f : qz.length = 4) (g : sx.length = 4) (h : sy.length = 4) (i : sz.length = 4) : Try.prog.built 94 [(1, .agg (tv px py pz).toArray), (2, .agg (tv qx qy qz).toArray), (3, .agg (tv sx sy sz).toArray)] = some (fv4 px py pz qx qy qz sx sy sz).toArray := by
 obtain ⟨_, _, _, _, rfl⟩ := four_ol a; obtain ⟨_, _, _, _, rfl⟩ := four_ol b; obtain ⟨_, _, _, _, rfl⟩ := four_ol c
 obtain ⟨_, _, _, _, rfl⟩ := four_ol d; obtain ⟨_, _, _, _, rfl⟩ := four_ol e; obtain ⟨_, _, _, _, rfl⟩ := four_ol f
 obtain ⟨_, _, _, _, rfl⟩ := four_ol g; obtain ⟨_, _, _, _, rfl⟩ := four_ol h; obtain ⟨_, _, _, _, rfl⟩ := four_ol i
 kernel_rfl
def ad (k : Nat) (z p q s : List Nat) : List Nat := if k = 0 then z else if k = 1 then p else if k = 2 then q else s
theorem fv4_at {w : World} {g : Nat} {t : TypeId} {px py pz qx qy qz sx sy sz : List Nat} (a : px.length = 4) (b : py.length = 4) (c : pz.length = 4) (d : qx.length = 4) (e : qy.length = 4) (f : qz.length = 4) (hb : Blk w g t (fv4 px py pz qx qy qz sx sy sz)) (k : Nat) (hk : k < 4) :
   w.rangeAt g (k * 12) (tv (ad k (zeros 4) px qx sx) (ad k (zeros 4) py qy sy) (ad k (zeros 4) pz qz sz)) := by
 have hk4 : k = 0 ∨ k = 1 ∨ k = 2 ∨ k = 3 := by omega
 rcases hk4 with rfl | rfl | rfl | rfl
 · exact blk_part (a := []) (b := natsV .u64 (zeros 12)) hb rfl
 · exact blk_part (a := natsV .u64 (zeros 12)) (b := tv px py pz) hb rfl
 · have hb2 : Blk w g t ((natsV .u64 (zeros 12) ++ tv px py pz) ++ (tv qx qy qz ++ tv sx sy sz)) := by rw [List.append_assoc]; exact hb
   exact blk_part hb2 (by rw [List.length_append, tv_len a b c]; rfl)
 · have hb2 : Blk w g t ((natsV .u64 (zeros 12) ++ (tv px py pz ++ tv qx qy qz)) ++ (tv sx sy sz ++ [])) := by rw [List.append_nil, List.append_assoc, List.append_assoc]; exact hb
   exact blk_part hb2 (by rw [List.length_append, List.length_append, tv_len a b c, tv_len d e f]; rfl)
theorem ad_len {k : Nat} {z p q s : List Nat} (hz : z.length = 4) (hp : p.length = 4) (hq : q.length = 4) (hs : s.length = 4) : (ad k z p q s).length = 4 := by unfold ad; split; exact hz; split; exact hp; split; exact hq; exact hs
theorem multiples_w {lu lv px py pz qx qy qz sx sy sz : List Nat} {X Y Z DX DY DZ : Nat → List Nat} {bu bv : Nat → Nat} {nu nv T : Nat} (hlu : lu.length = 4) (hlv : lv.length = 4) (hpx : px.length = 4) (hpy : py.length = 4) (hpz : pz.length = 4) (hqx : qx.length = 4) (hqy : qy.length = 4) (hqz : qz.length = 4) (hsx : sx.length = 4) (hsy : sy.length = 4) (hsz : sz.length = 4) (hFX : ∀ t, (X t).length = 4) (hFY : ∀ t, (Y t).length = 4) (hFZ : ∀ t, (Z t).length = 4) (hFDX : ∀ t, (DX t).length = 4) (hFDY : ∀ t, (DY t).length = 4) (hFDZ : ∀ t, (DZ t).length = 4)
   (hbu : ∀ t, bu t ≤ 1) (hbv : ∀ t, bv t ≤ 1) (hT : T ≤ 256) (hm : max (nu : Int) (nv : Int) = (T : Int)) (hX : X T = zeros 4) (hY : Y T = zeros 4) (hZ : Z T = zeros 4)
   (c0 : Ans 58 #[.agg (tv px py pz).toArray, .agg (tv qx qy qz).toArray] (.agg (tv sx sy sz).toArray))
   (cu : ∀ w, Calls Try.prog 59 #[.agg (natsV .u64 lu).toArray] w fun e w' => e = .returned (.int .i64 (nu : Nat)) ∧ Below w.heap.size w w')
   (cv : ∀ w, Calls Try.prog 59 #[.agg (natsV .u64 lv).toArray] w fun e w' => e = .returned (.int .i64 (nv : Nat)) ∧ Below w.heap.size w w')
   (cd : ∀ t, t < T → ∀ w, Calls Try.prog 60 #[.agg (tv (X (t + 1)) (Y (t + 1)) (Z (t + 1))).toArray] w fun e w' => e = .returned (.agg (tv (DX t) (DY t) (DZ t)).toArray) ∧ Below w.heap.size w w')
   (ku : ∀ t, t < T → ∀ w, Calls Try.prog 61 #[.agg (natsV .u64 lu).toArray, .int .i64 (t : Nat)] w fun e w' => e = .returned (.int .i64 (bu t : Nat)) ∧ Below w.heap.size w w')
   (kv : ∀ t, t < T → ∀ w, Calls Try.prog 61 #[.agg (natsV .u64 lv).toArray, .int .i64 (t : Nat)] w fun e w' => e = .returned (.int .i64 (bv t : Nat)) ∧ Below w.heap.size w w')
   (cp : ∀ t, t < T → ∀ w, Calls Try.prog 58 #[.agg (tv (DX t) (DY t) (DZ t)).toArray, .agg (tv (ad (bu t + 2 * bv t) (zeros 4) px qx sx) (ad (bu t + 2 * bv t) (zeros 4) py qy sy) (ad (bu t + 2 * bv t) (zeros 4) pz qz sz)).toArray] w fun e w' => e = .returned (.agg (tv (X t) (Y t) (Z t)).toArray) ∧ Below w.heap.size w w') (w : World) :
   Calls Try.prog 38 #[.agg (natsV .u64 lu).toArray, .agg (tv px py pz).toArray, .agg (natsV .u64 lv).toArray, .agg (tv qx qy qz).toArray] w fun e w' => e = .returned (.agg (tv (X 0) (Y 0) (Z 0)).toArray) ∧ Below w.heap.size w w' := by
 have L_lu := Hd hlu
 have L_lv := Hd hlv
 have L_px := Hd hpx
 have L_py := Hd hpy
 have L_pz := Hd hpz
 have L_qx := Hd hqx
 have L_qy := Hd hqy
 have L_qz := Hd hqz
 have L_sx := Hd hsx
 have L_sy := Hd hsy
 have L_sz := Hd hsz
 have LF_X := Hd hFX
 have LF_Y := Hd hFY
 have LF_Z := Hd hFZ
 have LF_DX := Hd hFDX
 have LF_DY := Hd hFDY
 have LF_DZ := Hd hFDZ
 have Hc0 := Hd c0
 have Hcu := Hd cu
 have Hcv := Hd cv
 have Hcd := Hd cd
 have Hku := Hd ku
 have Hkv := Hd kv
 have Hcp := Hd cp
 have Hhbu := Hd hbu
 have Hhbv := Hd hbv
 have Hhm := Hd hm
 have HhX := Hd hX
 have HhY := Hd hY
 have HhZ := Hd hZ
 have B0_ := Hd (((((Blk.new w  24 (natsV .u64 lu)).alloc (.cells (tv px py pz).toArray 67)).alloc (.cells (natsV .u64 lv).toArray 24)).alloc (.cells (tv qx qy qz).toArray 67)).alloc (.cells (natsV .u64 (zeros 12)).toArray 67))
 have B1_ := Hd ((((Blk.new2 w (.cells (natsV .u64 lu).toArray 24) 67 (tv px py pz)).alloc (.cells (natsV .u64 lv).toArray 24)).alloc (.cells (tv qx qy qz).toArray 67)).alloc (.cells (natsV .u64 (zeros 12)).toArray 67))
 have B2_ := Hd (((Blk.new3 w (.cells (natsV .u64 lu).toArray 24) (.cells (tv px py pz).toArray 67) 24 (natsV .u64 lv)).alloc (.cells (tv qx qy qz).toArray 67)).alloc (.cells (natsV .u64 (zeros 12)).toArray 67))
 have B3_ := Hd ((Blk.new4 w (.cells (natsV .u64 lu).toArray 24) (.cells (tv px py pz).toArray 67) (.cells (natsV .u64 lv).toArray 24) 67 (tv qx qy qz)).alloc (.cells (natsV .u64 (zeros 12)).toArray 67))
 have B4_ := Hd (Blk.new5 w (.cells (natsV .u64 lu).toArray 24) (.cells (tv px py pz).toArray 67) (.cells (natsV .u64 lv).toArray 24) (.cells (tv qx qy qz).toArray 67) 67 (natsV .u64 (zeros 12)))
 clear hlu hlv hpx hpy hpz hqx hqy hqz hsx hsy hsz hFX hFY hFZ hFDX hFDY hFDZ c0 cu cv cd ku kv cp hbu hbv hm hX hY hZ
 have bel_ := ((((((Below.refl w.heap.size w).alloc (Nat.le_refl _) (.cells (natsV .u64 lu).toArray 24)).alloc (by simp) (.cells (tv px py pz).toArray 67)).alloc (by simp; omega) (.cells (natsV .u64 lv).toArray 24)).alloc (by simp; omega) (.cells (tv qx qy qz).toArray 67)).alloc (by simp; omega) (.cells (natsV .u64 (zeros 12)).toArray 67))
 go_enter Try.func38, Try.ntmps38
 go_wp2_with fail
 as_aux_lemma =>
 refine wp_region_G (fun w_ => Blk w_ (w.heap.size + 1) 67 (tv px py pz) ∧ Blk w_ (w.heap.size + 1 + 1 + 1) 67 (tv qx qy qz)) 7 (by kernel_rfl) ⟨B1_.out.drew, B3_.out.drew⟩ ?_
 refine tk gS2 0 rfl (lg' (fun _ hS_ => blk_all (hS_.1)) Try.underlying67 (i103 L_px.out L_py.out L_pz.out)) ?_
 try simp only [Act.put, zq]
 refine tk gS2 1 rfl (lg' (fun _ hS_ => blk_all (hS_.2)) Try.underlying67 (i103 L_qx.out L_qy.out L_qz.out)) ?_
 try simp only [Act.put, zq]
 refine tk gS2 2 rfl (lg' (fun _ hS_ => blk_all (hS_.1)) Try.underlying67 (i103 L_px.out L_py.out L_pz.out)) ?_
 try simp only [Act.put, zq]
 refine tk gS2 3 rfl (lg' (fun _ hS_ => blk_all (hS_.2)) Try.underlying67 (i103 L_qx.out L_qy.out L_qz.out)) ?_
 try simp only [Act.put, zq]
 refine tk gS2 4 rfl (cg' Try.func58 (fun w _ => Hc0.out w)) ?_
 try simp only [Act.put, zq]
 refine tk gS2 5 rfl (buildG (by rfl) _ _ rfl _ (built133 L_px.out L_py.out L_pz.out L_qx.out L_qy.out L_qz.out L_sx.out L_sy.out L_sz.out) (by simp [Act.eval])) ?_
 try simp only [Act.put, zq]
 refine wpAnyG_def (i := 6) (j := 7) gS2 (by kernel_rfl) (by kernel_rfl) (by kernel_rfl) rfl rfl rfl (allocG (by rfl) rfl _ alloc133) (lenEq (show (natsV .u64 (zeros 48)).length = 48 from rfl) (fv4_len L_px.out L_py.out L_pz.out L_qx.out L_qy.out L_qz.out L_sx.out L_sy.out L_sz.out)) (fun _ => StoresG.mk (cs := (fv4 px py pz qx qy qz sx sy sz)) (by rfl) 94 _ _ rfl rfl rfl (i133 L_px.out L_py.out L_pz.out L_qx.out L_qy.out L_qz.out L_sx.out L_sy.out L_sz.out) (fv4_one _ _ _ _ _ _ _ _ _)) ?_
 intro w1 G2 hgw1 hz_ hn_
 try simp only [Act.put, zq]
 have E3 := dq' B0_ hgw1
 have E4 := dq' B1_ hgw1
 have E5 := dq' B2_ hgw1
 have E6 := dq' B3_ hgw1
 have E7 := dq' B4_ hgw1
 have hbel8 := bel_.drew.trans (Below.mono hgw1 bel_.drew.size)
 have D9 := Hd hn_
 clear B0_ B1_ B2_ B3_ B4_ bel_ hn_ hz_ hgw1
 as_aux_lemma =>
 go_wp2_with fail
 have NE10 := Hd (Nat.ne_of_lt E3.out.lt)
 have NE11 := Hd (Nat.ne_of_lt E4.out.lt)
 have NE12 := Hd (Nat.ne_of_lt E5.out.lt)
 have NE13 := Hd (Nat.ne_of_lt E6.out.lt)
 have NE14 := Hd (Nat.ne_of_lt E7.out.lt)
 have NE15 := Hd (Nat.ne_of_lt D9.out.lt)
 have GE10 := Hd hbel8.size
 have C16 := Hd (E3.out.alloc (.cells (natsV .u64 (zeros 12)).toArray 67))
 have C17 := Hd (E4.out.alloc (.cells (natsV .u64 (zeros 12)).toArray 67))
 have C18 := Hd (E5.out.alloc (.cells (natsV .u64 (zeros 12)).toArray 67))
 have C19 := Hd (E6.out.alloc (.cells (natsV .u64 (zeros 12)).toArray 67))
 have C20 := Hd (E7.out.alloc (.cells (natsV .u64 (zeros 12)).toArray 67))
 have C21 := Hd (D9.out.alloc (.cells (natsV .u64 (zeros 12)).toArray 67))
 have Z10 := Hd (Blk.new w1 67 (natsV .u64 (zeros 12)))
 have bel10 := hbel8.alloc hbel8.size (.cells (natsV .u64 (zeros 12)).toArray 67)
 clear E3 E4 E5 E6 E7 D9 hbel8
 generalize w1.heap.size = G10 at *
 as_aux_lemma =>
 refine wp_region_G (fun w_ => Blk w_ w.heap.size 24 (natsV .u64 lu) ∧ Blk w_ (w.heap.size + 1 + 1) 24 (natsV .u64 lv)) 7 (by kernel_rfl) ⟨C16.out.drew, C18.out.drew⟩ ?_
 refine tk gS2 0 rfl (lg' (fun _ hS_ => blk_all (hS_.1)) Try.underlying24 (i24 L_lu.out)) ?_
 try simp only [Act.put, zq]
 refine tk gS2 1 rfl (cg' Try.func59 (fun w _ => Hcu.out w)) ?_
 try simp only [Act.put, zq]
 refine tk gS2 2 rfl (lg' (fun _ hS_ => blk_all (hS_.2)) Try.underlying24 (i24 L_lv.out)) ?_
 try simp only [Act.put, zq]
 refine tk gS2 3 rfl (cg' Try.func59 (fun w _ => Hcv.out w)) ?_
 try simp only [Act.put, zq]
 refine tkp gS2 4 rfl ?_
 try simp only [Act.put, zq]
 refine tkp gS2 5 rfl ?_
 try simp only [Act.put, zq]
 refine tkp gS2 6 rfl ?_
 try simp only [Act.put, zq]
 refine wpAnyG_done (by kernel_rfl) ?_ _
 intro w22 hgw22
 try simp only [Act.put, zq]
 have E23 := dq' C16 hgw22
 have E24 := dq' C17 hgw22
 have E25 := dq' C18 hgw22
 have E26 := dq' C19 hgw22
 have E27 := dq' C20 hgw22
 have E28 := dq' C21 hgw22
 have E29 := Hd (Z10.out.drew.gr hgw22)
 have hbel30 := bel10.drew.trans (Below.mono hgw22 bel10.drew.size)
 clear C16 C17 C18 C19 C20 C21 Z10 bel10 hgw22
 as_aux_lemma =>
 rw [show IntKind.i64.wrap (max (nu : Int) (nv : Int) - 1) = (T : Int) - 1 from by rw [Hhm.out]; exact IntWalk.i64_in _ (by omega)]
 go_wp2_with fail
 go_loopw [11] (fun i wr => ∃ t : Nat, t ≤ T ∧ i = .int .i64 ((t : Int) - 1) ∧ Blk wr w.heap.size 24 (natsV .u64 lu) ∧ Blk wr (w.heap.size + 1 + 1) 24 (natsV .u64 lv) ∧ Blk wr (w.heap.size + 1 + 1 + 1 + 1) 67 (natsV .u64 (zeros 12)) ∧ Blk wr G2 94 (fv4 px py pz qx qy qz sx sy sz) ∧ Blk wr G10 67 (tv (X t) (Y t) (Z t)) ∧ Below w.heap.size w wr) (fun i _ => (intOf i + 1).toNat)
 case atStart => exact ⟨T, Nat.le_refl _, rfl, E23.out, E25.out, E27.out, E28.out, by rw [HhX.out, HhY.out, HhZ.out]; exact E29.out, hbel30⟩
 case round =>
   clear E23 E24 E25 E26 E27 E28 E29 hbel30
   obtain ⟨t, ht, rfl, ku_, kv_, k8_, k9_, k10_, hbel⟩ := hrel
   have Ku := Hd ku_
   have Kv := Hd kv_
   have Kr8 := Hd k8_
   have Kv9 := Hd k9_
   have Kv10 := Hd k10_
   clear ku_ kv_ k8_ k9_ k10_
   rcases t with _ | t
   · as_aux_lemma =>
     rw [show (((0 : Nat) : Int) - 1) = -1 from rfl]
     go_wp2_with (first | (refine lm' (blk_all (Kv10.out)) Try.underlying67 (i103 (LF_X.out 0) (LF_Y.out 0) (LF_Z.out 0)) ?_) | (refine stB rfl 67 (.tmp 8) (.tmp 41) rfl (w.heap.size + 1 + 1 + 1 + 1) rfl (tv (X 0) (Y 0) (Z 0)) rfl 67 (natsV .u64 (zeros 12)) Kr8.out (i103 (LF_X.out 0) (LF_Y.out 0) (LF_Z.out 0)) (lenEq (show (natsV .u64 (zeros 12)).length = 12 from rfl) (tv_len (LF_X.out 0) (LF_Y.out 0) (LF_Z.out 0))) (tv_one _ _ _) ?_))
     refine bodyPost_ret (v := .agg (tv (X 0) (Y 0) (Z 0)).toArray) ?_ rfl ⟨rfl, below_setRow' hbel (by first | exact Nat.le_refl _ | omega) _⟩
     exact results_cell_row Try.results38 _ _ (w.heap.size + 1 + 1 + 1 + 1) 67 _ (0, 0) _ rfl (Kr8.out.setRow _) Try.underlying67 rfl (by simpa using (i103 (LF_X.out 0) (LF_Y.out 0) (LF_Z.out 0)))
   · as_aux_lemma =>
     have ht1 : t < T := by omega
     have e1 : ((t + 1 : Nat) : Int) - 1 = (t : Int) := by omega
     rw [e1]
     have HD := Hd (Hcd.out t ht1)
     have HU := Hd (Hku.out t ht1)
     have HV := Hd (Hkv.out t ht1)
     have HP := Hd (Hcp.out t ht1)
     have h1 := Hhbu.out t
     have h2 := Hhbv.out t
     clear e1
     generalize bu t = ut at *
     generalize bv t = vt at *
     obtain ⟨k, hk⟩ : ∃ k, k = ut + 2 * vt := ⟨_, rfl⟩
     rw [← hk] at HP
     have hk4 : k < 4 := by omega
     have AX := ad_len (k := k) (z := zeros 4) rfl L_px.out L_qx.out L_sx.out
     have AY := ad_len (k := k) (z := zeros 4) rfl L_py.out L_qy.out L_sy.out
     have AZ := ad_len (k := k) (z := zeros 4) rfl L_pz.out L_qz.out L_sz.out
     have em : IntKind.i64.wrap (2 * (vt : Int)) = 2 * (vt : Int) := IntWalk.i64_in _ (by omega)
     have ea : IntKind.i64.wrap ((ut : Int) + 2 * (vt : Int)) = (k : Int) := by rw [IntWalk.i64_in _ (by omega)]; omega
     have AT := Hd (fun (w : World) (h : Blk w G2 94 (fv4 px py pz qx qy qz sx sy sz)) => fv4_at L_px.out L_py.out L_pz.out L_qx.out L_qy.out L_qz.out h k hk4)
     clear hk h1 h2
     generalize ad k (zeros 4) px qx sx = adx at *
     generalize ad k (zeros 4) py qy sy = ady at *
     generalize ad k (zeros 4) pz qz sz = adz at *
     have L_adx := Hd AX
     have L_ady := Hd AY
     have L_adz := Hd AZ
     clear AX AY AZ
     have ht0 : (0 : Int) ≤ (t : Int) := by omega
     have hk4i : (k : Int) < 4 := by omega
     have hk0i : (0 : Int) ≤ (k : Int) := by omega
     go_wp2_with fail
     as_aux_lemma =>
     refine wp_region_G (fun w_ => Blk w_ G10 67 (tv (X (t + 1)) (Y (t + 1)) (Z (t + 1))) ∧ Blk w_ w.heap.size 24 (natsV .u64 lu) ∧ Blk w_ (w.heap.size + 1 + 1) 24 (natsV .u64 lv) ∧ Blk w_ G2 94 (fv4 px py pz qx qy qz sx sy sz)) 13 (by kernel_rfl) ⟨Kv10.out.drew, Ku.out.drew, Kv.out.drew, Kv9.out.drew⟩ ?_
     refine tk gS4 0 rfl (lg' (fun _ hS_ => blk_all (hS_.1)) Try.underlying67 (i103 (LF_X.out (t + 1)) (LF_Y.out (t + 1)) (LF_Z.out (t + 1)))) ?_
     try simp only [Act.put, zq]
     refine tk gS4 1 rfl (cg' Try.func60 (fun w _ => HD.out w)) ?_
     try simp only [Act.put, zq]
     refine tk gS4 2 rfl (lg' (fun _ hS_ => blk_all (hS_.2.1)) Try.underlying24 (i24 L_lu.out)) ?_
     try simp only [Act.put, zq]
     refine tkp gS4 3 rfl ?_
     try simp only [Act.put, zq]
     refine tk gS4 4 rfl (cg' Try.func61 (fun w _ => HU.out w)) ?_
     try simp only [Act.put, zq]
     refine tk gS4 5 rfl (lg' (fun _ hS_ => blk_all (hS_.2.2.1)) Try.underlying24 (i24 L_lv.out)) ?_
     try simp only [Act.put, zq]
     refine tkp gS4 6 rfl ?_
     try simp only [Act.put, zq]
     refine tk gS4 7 rfl (cg' Try.func61 (fun w _ => HV.out w)) ?_
     try simp only [Act.put, zq]
     refine tkp gS4 8 rfl ?_
     try simp only [Act.put, zq]
     refine tkp gS4 9 rfl ?_
     try simp only [Act.put, zq]
     refine tkp gS4 10 rfl ?_
     try simp only [Act.put, zq]
     refine tk gS4 11 rfl (lg' (fun _ hS_ => AT.out _ (hS_.2.2.2)) Try.underlying67 (i103 L_adx.out L_ady.out L_adz.out)) ?_
     try simp only [Act.put, zq]
     refine tk gS4 12 rfl (cg' Try.func58 (fun w _ => HP.out w)) ?_
     try simp only [Act.put, zq]
     refine wpAnyG_set (i := 13) (by kernel_rfl) (by kernel_rfl) rfl rfl Kv10.out.drew (lenEq (tv_len (LF_X.out (t + 1)) (LF_Y.out (t + 1)) (LF_Z.out (t + 1))) (tv_len (LF_X.out t) (LF_Y.out t) (LF_Z.out t))) (StoresG.mk (cs := (tv (X t) (Y t) (Z t))) (by rfl) 67 _ _ rfl rfl rfl (i103 (LF_X.out t) (LF_Y.out t) (LF_Z.out t)) (tv_one _ _ _)) ?_
     intro w31 hgw31 hn_
     try simp only [Act.put, zq]
     have E32 := Hd (Ku.out.drew.grown hgw31 (fun e => NE10.out (Option.some.inj e)))
     have E33 := Hd (Kv.out.drew.grown hgw31 (fun e => NE12.out (Option.some.inj e)))
     have E34 := Hd (Kr8.out.drew.grown hgw31 (fun e => NE14.out (Option.some.inj e)))
     have E35 := Hd (Kv9.out.drew.grown hgw31 (fun e => NE15.out (Option.some.inj e)))
     have D36 := Hd hn_
     have hbel37 := belStore hbel.drew hgw31 (GE10.out)
     clear Ku Kv Kr8 Kv9 hn_ Kv10 hgw31
     as_aux_lemma =>
     have i1 := IntWalk.i64_in ((t : Int) - 1) (by omega)
     go_wp2_with fail
     go_roundw
     case rel => exact ⟨t, by omega, rfl, E32.out, E33.out, E34.out, E35.out, D36.out, hbel37⟩
     case measure => simp [intOf] <;> omega
end Go.Proofs.Ytdkkombpkojjaaa
