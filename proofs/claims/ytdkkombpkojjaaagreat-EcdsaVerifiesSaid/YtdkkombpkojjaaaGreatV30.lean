/- Parts of proofs of statements, each text behind those that it stands on. No condition of its own. -/
import Derived.Test.YtdkkombpkojjaaaGreatV29
namespace Go.Proofs.YtdkkombpkojjaaaGreat
set_option maxRecDepth 100000
set_option maxHeartbeats 3200000
open Go.RowKit
set_option linter.unusedVariables false
set_option linter.unusedSimpArgs false
theorem dver_key {lx ly : List Nat} {A1 A2 A3 : Option Addr} {n1 d1 n2 d2 n3 d3 : Nat} {ia ib : Bool} (w : World) (hlx : lx.length = 4) (hly : ly.length = 4)
   (c1 : ∀ W, Below w.heap.size w W → Calls Tryz.prog 8 #[.slice A1 n1 d1] W fun e w' => e = .returned (.tuple #[.agg (pv lx ly false).toArray, .bool false]) ∧ Below W.heap.size W w') :
   Calls Tryz.prog 16 #[.slice A1 n1 d1, .slice A2 n2 d2, .slice A3 n3 d3] w fun e w' => e = .returned (.int .i64 71) ∧ Below w.heap.size w w' := by
 have L_lx := Hd hlx
 have L_ly := Hd hly
 have Hc1 := Hd c1
 have bel_ := (Below.refl w.heap.size w)
 clear hlx hly c1
 go_enter Tryz.func16, Tryz.ntmps16
 go_wp2_with fail
 refine (Hc1.out _ bel_).mono ?_
 rintro e w1 ⟨rfl, hbw1⟩
 have hbel2 := bel_.trans (Below.mono hbw1 bel_.size)
 clear bel_ hbw1
 go_wp2_with (first | (refine stN rfl 28 (.tmp 7) (.tmp 20) rfl w1 rfl (pv lx ly false) rfl 28 (pv (zeros 4) (zeros 4) false) (i43 L_lx.out L_ly.out) (lenEq pz9 (pv_len L_lx.out L_ly.out)) p1_ ?_; intro w3 hgw3 hnw3; have hbel6 := hbel2.trans (Below.mono hgw3 hbel2.size); clear hbel2; have D5 := Hd hnw3; clear hnw3 hgw3; generalize w1.heap.size = G4 at *))
 go_ret
 exact ⟨rfl, hbel6⟩
theorem dver_sp72 {lx ly : List Nat} {A1 A2 A3 : Option Addr} {n1 d1 n2 d2 n3 d3 : Nat} {ia ib : Bool} (w : World) (hlx : lx.length = 4) (hly : ly.length = 4)
   (c1 : ∀ W, Below w.heap.size w W → Calls Tryz.prog 8 #[.slice A1 n1 d1] W fun e w' => e = .returned (.tuple #[.agg (pv lx ly false).toArray, .bool true]) ∧ Below W.heap.size W w')
   (c2 : ∀ W, Below w.heap.size w W → Calls Tryz.prog 10 #[.slice A3 n3 d3] W fun e w' => e = .returned (.tuple #[.agg (natsV .u64 (zeros 4)).toArray, .agg (natsV .u64 (zeros 4)).toArray, .int .i64 72]) ∧ Below W.heap.size W w') :
   Calls Tryz.prog 16 #[.slice A1 n1 d1, .slice A2 n2 d2, .slice A3 n3 d3] w fun e w' => e = .returned (.int .i64 72) ∧ Below w.heap.size w w' := by
 have L_lx := Hd hlx
 have L_ly := Hd hly
 have Hc1 := Hd c1
 have Hc2 := Hd c2
 have bel_ := (Below.refl w.heap.size w)
 clear hlx hly c1 c2
 go_enter Tryz.func16, Tryz.ntmps16
 go_wp2_with fail
 refine (Hc1.out _ bel_).mono ?_
 rintro e w1 ⟨rfl, hbw1⟩
 have hbel2 := bel_.trans (Below.mono hbw1 bel_.size)
 clear bel_ hbw1
 go_upto_region 4 with (first | (refine stN rfl 28 (.tmp 7) (.tmp 20) rfl w1 rfl (pv lx ly false) rfl 28 (pv (zeros 4) (zeros 4) false) (i43 L_lx.out L_ly.out) (lenEq pz9 (pv_len L_lx.out L_ly.out)) p1_ ?_; intro w3 hgw3 hnw3; have hbel6 := hbel2.trans (Below.mono hgw3 hbel2.size); clear hbel2; have D5 := Hd hnw3; clear hnw3 hgw3; generalize w1.heap.size = G4 at *))
 try simp only [Act.put, zq]
 as_aux_lemma =>
 refine wp_region_P (fun w_ => Below w.heap.size w w_) 11 (by kernel_rfl) hbel6 ?_
 refine tkp gB0 0 rfl ?_
 try simp only [Act.put, zq]
 refine tk gB0 1 rfl (cg' Tryz.func10 (fun W_ hS_ => Hc2.out _ hS_)) ?_
 try simp only [Act.put, zq]
 refine tkp gB0 2 rfl ?_
 try simp only [Act.put, zq]
 refine tkp gB0 3 rfl ?_
 try simp only [Act.put, zq]
 refine tkp gB0 4 rfl ?_
 try simp only [Act.put, zq]
 refine tkp gB0 5 rfl ?_
 try simp only [Act.put, zq]
 refine wpAnyG_alloc2 (i := 6) (j := 7) gB0 (by kernel_rfl) (by kernel_rfl) (by kernel_rfl) (by decide) rfl rfl (allocG (by rfl) rfl _ alloc24) (allocG (by rfl) rfl _ alloc24) (fun _ => allocG (by rfl) rfl _ alloc24) (fun _ => allocG (by rfl) rfl _ alloc24) (fun _ _ => rfl) ?_
 intro w7 G8 G9 hgw7 hz_ hz2_ hne_ hn_ hn2_
 try simp only [Act.put, zq]
 have NG10 := Hd (Nat.ne_of_lt (Nat.lt_of_lt_of_le D5.out.lt hz_))
 have NG11 := Hd (Nat.ne_of_lt (Nat.lt_of_lt_of_le D5.out.lt hz2_))
 have GE12 := Hd (Nat.le_trans hbel6.size hz_)
 have GE13 := Hd (Nat.le_trans hbel6.size hz2_)
 have C14 := gq' D5 hgw7
 have hbel15 := hbel6.trans (Below.mono hgw7 hbel6.size)
 clear D5 hbel6 hz_ hz2_ hgw7
 refine wpAnyG_store (i := 8) (by kernel_rfl) rfl hn_ (lz4 z4l) (StoresG.mk (cs := (natsV .u64 (zeros 4))) (by rfl) 26 _ _ rfl rfl rfl (i24 z4l) n1') (.inr (fun _ hS_ => below_setRow' hS_ GE12.out _)) ?_
 intro w16 hgw16 hn17
 try simp only [Act.put, zq]
 have E18 := Hd (C14.out.grown hgw16 (fun e => NG10.out (Option.some.inj e)))
 have hn19 := hn2_.grown hgw16 (fun e => hne_.symm (Option.some.inj e))
 have hbel20 := belStore hbel15 hgw16 GE12.out
 clear C14 hn2_ hgw16
 refine wpAnyG_store (i := 9) (by kernel_rfl) rfl hn19 (lz4 z4l) (StoresG.mk (cs := (natsV .u64 (zeros 4))) (by rfl) 26 _ _ rfl rfl rfl (i24 z4l) n1') (.inr (fun _ hS_ => below_setRow' hS_ GE13.out _)) ?_
 intro w21 hgw21 hn22
 try simp only [Act.put, zq]
 have E23 := Hd (E18.out.grown hgw21 (fun e => NG11.out (Option.some.inj e)))
 have hn24 := hn17.grown hgw21 (fun e => hne_ (Option.some.inj e))
 have hbel25 := belStore hbel20 hgw21 GE13.out
 have D26 := Hd hn24
 have D27 := Hd hn22
 clear E18 hn17 hgw21 hn24 hn22
 refine tkp gB0 10 rfl ?_
 try simp only [Act.put, zq]
 refine wpAnyG_done (by kernel_rfl) ?_ _
 intro w28 hgw28
 try simp only [Act.put, zq]
 have C29 := gq' E23 hgw28
 have C30 := gq' D26 hgw28
 have C31 := gq' D27 hgw28
 have hbel32 := hbel25.trans (Below.mono hgw28 hbel25.size)
 clear E23 D26 D27 hbel25 hgw28 hne_
 as_aux_lemma =>
 go_wp2_with fail
 go_ret
 exact ⟨rfl, hbel32⟩
theorem dver_sp73 {lx ly : List Nat} {A1 A2 A3 : Option Addr} {n1 d1 n2 d2 n3 d3 : Nat} {ia ib : Bool} (w : World) (hlx : lx.length = 4) (hly : ly.length = 4)
   (c1 : ∀ W, Below w.heap.size w W → Calls Tryz.prog 8 #[.slice A1 n1 d1] W fun e w' => e = .returned (.tuple #[.agg (pv lx ly false).toArray, .bool true]) ∧ Below W.heap.size W w')
   (c2 : ∀ W, Below w.heap.size w W → Calls Tryz.prog 10 #[.slice A3 n3 d3] W fun e w' => e = .returned (.tuple #[.agg (natsV .u64 (zeros 4)).toArray, .agg (natsV .u64 (zeros 4)).toArray, .int .i64 73]) ∧ Below W.heap.size W w') :
   Calls Tryz.prog 16 #[.slice A1 n1 d1, .slice A2 n2 d2, .slice A3 n3 d3] w fun e w' => e = .returned (.int .i64 73) ∧ Below w.heap.size w w' := by
 have L_lx := Hd hlx
 have L_ly := Hd hly
 have Hc1 := Hd c1
 have Hc2 := Hd c2
 have bel_ := (Below.refl w.heap.size w)
 clear hlx hly c1 c2
 go_enter Tryz.func16, Tryz.ntmps16
 go_wp2_with fail
 refine (Hc1.out _ bel_).mono ?_
 rintro e w1 ⟨rfl, hbw1⟩
 have hbel2 := bel_.trans (Below.mono hbw1 bel_.size)
 clear bel_ hbw1
 go_upto_region 4 with (first | (refine stN rfl 28 (.tmp 7) (.tmp 20) rfl w1 rfl (pv lx ly false) rfl 28 (pv (zeros 4) (zeros 4) false) (i43 L_lx.out L_ly.out) (lenEq pz9 (pv_len L_lx.out L_ly.out)) p1_ ?_; intro w3 hgw3 hnw3; have hbel6 := hbel2.trans (Below.mono hgw3 hbel2.size); clear hbel2; have D5 := Hd hnw3; clear hnw3 hgw3; generalize w1.heap.size = G4 at *))
 try simp only [Act.put, zq]
 as_aux_lemma =>
 refine wp_region_P (fun w_ => Below w.heap.size w w_) 11 (by kernel_rfl) hbel6 ?_
 refine tkp gB0 0 rfl ?_
 try simp only [Act.put, zq]
 refine tk gB0 1 rfl (cg' Tryz.func10 (fun W_ hS_ => Hc2.out _ hS_)) ?_
 try simp only [Act.put, zq]
 refine tkp gB0 2 rfl ?_
 try simp only [Act.put, zq]
 refine tkp gB0 3 rfl ?_
 try simp only [Act.put, zq]
 refine tkp gB0 4 rfl ?_
 try simp only [Act.put, zq]
 refine tkp gB0 5 rfl ?_
 try simp only [Act.put, zq]
 refine wpAnyG_alloc2 (i := 6) (j := 7) gB0 (by kernel_rfl) (by kernel_rfl) (by kernel_rfl) (by decide) rfl rfl (allocG (by rfl) rfl _ alloc24) (allocG (by rfl) rfl _ alloc24) (fun _ => allocG (by rfl) rfl _ alloc24) (fun _ => allocG (by rfl) rfl _ alloc24) (fun _ _ => rfl) ?_
 intro w7 G8 G9 hgw7 hz_ hz2_ hne_ hn_ hn2_
 try simp only [Act.put, zq]
 have NG10 := Hd (Nat.ne_of_lt (Nat.lt_of_lt_of_le D5.out.lt hz_))
 have NG11 := Hd (Nat.ne_of_lt (Nat.lt_of_lt_of_le D5.out.lt hz2_))
 have GE12 := Hd (Nat.le_trans hbel6.size hz_)
 have GE13 := Hd (Nat.le_trans hbel6.size hz2_)
 have C14 := gq' D5 hgw7
 have hbel15 := hbel6.trans (Below.mono hgw7 hbel6.size)
 clear D5 hbel6 hz_ hz2_ hgw7
 refine wpAnyG_store (i := 8) (by kernel_rfl) rfl hn_ (lz4 z4l) (StoresG.mk (cs := (natsV .u64 (zeros 4))) (by rfl) 26 _ _ rfl rfl rfl (i24 z4l) n1') (.inr (fun _ hS_ => below_setRow' hS_ GE12.out _)) ?_
 intro w16 hgw16 hn17
 try simp only [Act.put, zq]
 have E18 := Hd (C14.out.grown hgw16 (fun e => NG10.out (Option.some.inj e)))
 have hn19 := hn2_.grown hgw16 (fun e => hne_.symm (Option.some.inj e))
 have hbel20 := belStore hbel15 hgw16 GE12.out
 clear C14 hn2_ hgw16
 refine wpAnyG_store (i := 9) (by kernel_rfl) rfl hn19 (lz4 z4l) (StoresG.mk (cs := (natsV .u64 (zeros 4))) (by rfl) 26 _ _ rfl rfl rfl (i24 z4l) n1') (.inr (fun _ hS_ => below_setRow' hS_ GE13.out _)) ?_
 intro w21 hgw21 hn22
 try simp only [Act.put, zq]
 have E23 := Hd (E18.out.grown hgw21 (fun e => NG11.out (Option.some.inj e)))
 have hn24 := hn17.grown hgw21 (fun e => hne_ (Option.some.inj e))
 have hbel25 := belStore hbel20 hgw21 GE13.out
 have D26 := Hd hn24
 have D27 := Hd hn22
 clear E18 hn17 hgw21 hn24 hn22
 refine tkp gB0 10 rfl ?_
 try simp only [Act.put, zq]
 refine wpAnyG_done (by kernel_rfl) ?_ _
 intro w28 hgw28
 try simp only [Act.put, zq]
 have C29 := gq' E23 hgw28
 have C30 := gq' D26 hgw28
 have C31 := gq' D27 hgw28
 have hbel32 := hbel25.trans (Below.mono hgw28 hbel25.size)
 clear E23 D26 D27 hbel25 hgw28 hne_
 as_aux_lemma =>
 go_wp2_with fail
 go_ret
 exact ⟨rfl, hbel32⟩
theorem dver_inf {lx ly lr ls ln lw lz lu lv gx gy ax ay bx bz : List Nat} {A1 A2 A3 : Option Addr} {n1 d1 n2 d2 n3 d3 : Nat} {ia ib : Bool} (w : World) (hlx : lx.length = 4) (hly : ly.length = 4) (hlr : lr.length = 4) (hls : ls.length = 4) (hln : ln.length = 4) (hlw : lw.length = 4) (hlz : lz.length = 4) (hlu : lu.length = 4) (hlv : lv.length = 4) (hgx : gx.length = 4) (hgy : gy.length = 4) (hax : ax.length = 4) (hay : ay.length = 4) (hbx : bx.length = 4) (hbz : bz.length = 4)
   (c1 : ∀ W, Below w.heap.size w W → Calls Tryz.prog 8 #[.slice A1 n1 d1] W fun e w' => e = .returned (.tuple #[.agg (pv lx ly false).toArray, .bool true]) ∧ Below W.heap.size W w')
   (c2 : ∀ W, Below w.heap.size w W → Calls Tryz.prog 10 #[.slice A3 n3 d3] W fun e w' => e = .returned (.tuple #[.agg (natsV .u64 lr).toArray, .agg (natsV .u64 ls).toArray, .int .i64 0]) ∧ Below W.heap.size W w')
   (c3 : Ans 17 #[] (.agg (natsV .u64 ln).toArray))
   (c4 : Ans 39 #[.agg (natsV .u64 ls).toArray, .agg (natsV .u64 ln).toArray] (.agg (natsV .u64 lw).toArray))
   (c5 : ∀ W, Below w.heap.size w W → Calls Tryz.prog 12 #[.slice A2 n2 d2] W fun e w' => e = .returned (.agg (natsV .u64 lz).toArray) ∧ Below W.heap.size W w')
   (c6 : Ans 40 #[.agg (natsV .u64 lz).toArray, .agg (natsV .u64 lw).toArray, .agg (natsV .u64 ln).toArray] (.agg (natsV .u64 lu).toArray))
   (c7 : Ans 40 #[.agg (natsV .u64 lr).toArray, .agg (natsV .u64 lw).toArray, .agg (natsV .u64 ln).toArray] (.agg (natsV .u64 lv).toArray))
   (c8 : Ans 43 #[] (.agg (pv gx gy false).toArray))
   (c9 : Ans 42 #[.agg (natsV .u64 lu).toArray, .agg (pv gx gy false).toArray] (.agg (pv ax ay ia).toArray))
   (c10 : Ans 42 #[.agg (natsV .u64 lv).toArray, .agg (pv lx ly false).toArray] (.agg (pv bx bz ib).toArray))
   (c11 : Ans 41 #[.agg (pv ax ay ia).toArray, .agg (pv bx bz ib).toArray] (.agg (pv (zeros 4) (zeros 4) true).toArray)) :
   Calls Tryz.prog 16 #[.slice A1 n1 d1, .slice A2 n2 d2, .slice A3 n3 d3] w fun e w' => e = .returned (.int .i64 74) ∧ Below w.heap.size w w' := by
 have L_lx := Hd hlx
 have L_ly := Hd hly
 have L_lr := Hd hlr
 have L_ls := Hd hls
 have L_ln := Hd hln
 have L_lw := Hd hlw
 have L_lz := Hd hlz
 have L_lu := Hd hlu
 have L_lv := Hd hlv
 have L_gx := Hd hgx
 have L_gy := Hd hgy
 have L_ax := Hd hax
 have L_ay := Hd hay
 have L_bx := Hd hbx
 have L_bz := Hd hbz
 have Hc1 := Hd c1
 have Hc2 := Hd c2
 have Hc3 := Hd c3
 have Hc4 := Hd c4
 have Hc5 := Hd c5
 have Hc6 := Hd c6
 have Hc7 := Hd c7
 have Hc8 := Hd c8
 have Hc9 := Hd c9
 have Hc10 := Hd c10
 have Hc11 := Hd c11
 have bel_ := (Below.refl w.heap.size w)
 clear hlx hly hlr hls hln hlw hlz hlu hlv hgx hgy hax hay hbx hbz c1 c2 c3 c4 c5 c6 c7 c8 c9 c10 c11
 go_enter Tryz.func16, Tryz.ntmps16
 go_wp2_with fail
 refine (Hc1.out _ bel_).mono ?_
 rintro e w1 ⟨rfl, hbw1⟩
 have hbel2 := bel_.trans (Below.mono hbw1 bel_.size)
 clear bel_ hbw1
 go_upto_region 4 with (first | (refine stN rfl 28 (.tmp 7) (.tmp 20) rfl w1 rfl (pv lx ly false) rfl 28 (pv (zeros 4) (zeros 4) false) (i43 L_lx.out L_ly.out) (lenEq pz9 (pv_len L_lx.out L_ly.out)) p1_ ?_; intro w3 hgw3 hnw3; have hbel6 := hbel2.trans (Below.mono hgw3 hbel2.size); clear hbel2; have D5 := Hd hnw3; clear hnw3 hgw3; generalize w1.heap.size = G4 at *))
 try simp only [Act.put, zq]
 as_aux_lemma =>
 refine wp_region_P (fun w_ => Below w.heap.size w w_) 11 (by kernel_rfl) hbel6 ?_
 refine tkp gB0 0 rfl ?_
 try simp only [Act.put, zq]
 refine tk gB0 1 rfl (cg' Tryz.func10 (fun W_ hS_ => Hc2.out _ hS_)) ?_
 try simp only [Act.put, zq]
 refine tkp gB0 2 rfl ?_
 try simp only [Act.put, zq]
 refine tkp gB0 3 rfl ?_
 try simp only [Act.put, zq]
 refine tkp gB0 4 rfl ?_
 try simp only [Act.put, zq]
 refine tkp gB0 5 rfl ?_
 try simp only [Act.put, zq]
 refine wpAnyG_alloc2 (i := 6) (j := 7) gB0 (by kernel_rfl) (by kernel_rfl) (by kernel_rfl) (by decide) rfl rfl (allocG (by rfl) rfl _ alloc24) (allocG (by rfl) rfl _ alloc24) (fun _ => allocG (by rfl) rfl _ alloc24) (fun _ => allocG (by rfl) rfl _ alloc24) (fun _ _ => rfl) ?_
 intro w7 G8 G9 hgw7 hz_ hz2_ hne_ hn_ hn2_
 try simp only [Act.put, zq]
 have NG10 := Hd (Nat.ne_of_lt (Nat.lt_of_lt_of_le D5.out.lt hz_))
 have NG11 := Hd (Nat.ne_of_lt (Nat.lt_of_lt_of_le D5.out.lt hz2_))
 have GE12 := Hd (Nat.le_trans hbel6.size hz_)
 have GE13 := Hd (Nat.le_trans hbel6.size hz2_)
 have C14 := gq' D5 hgw7
 have hbel15 := hbel6.trans (Below.mono hgw7 hbel6.size)
 clear D5 hbel6 hz_ hz2_ hgw7
 refine wpAnyG_store (i := 8) (by kernel_rfl) rfl hn_ (lz4 L_lr.out) (StoresG.mk (cs := (natsV .u64 lr)) (by rfl) 26 _ _ rfl rfl rfl (i24 L_lr.out) n1') (.inr (fun _ hS_ => below_setRow' hS_ GE12.out _)) ?_
 intro w16 hgw16 hn17
 try simp only [Act.put, zq]
 have E18 := Hd (C14.out.grown hgw16 (fun e => NG10.out (Option.some.inj e)))
 have hn19 := hn2_.grown hgw16 (fun e => hne_.symm (Option.some.inj e))
 have hbel20 := belStore hbel15 hgw16 GE12.out
 clear C14 hn2_ hgw16
 refine wpAnyG_store (i := 9) (by kernel_rfl) rfl hn19 (lz4 L_ls.out) (StoresG.mk (cs := (natsV .u64 ls)) (by rfl) 26 _ _ rfl rfl rfl (i24 L_ls.out) n1') (.inr (fun _ hS_ => below_setRow' hS_ GE13.out _)) ?_
 intro w21 hgw21 hn22
 try simp only [Act.put, zq]
 have E23 := Hd (E18.out.grown hgw21 (fun e => NG11.out (Option.some.inj e)))
 have hn24 := hn17.grown hgw21 (fun e => hne_ (Option.some.inj e))
 have hbel25 := belStore hbel20 hgw21 GE13.out
 have D26 := Hd hn24
 have D27 := Hd hn22
 clear E18 hn17 hgw21 hn24 hn22
 refine tkp gB0 10 rfl ?_
 try simp only [Act.put, zq]
 refine wpAnyG_done (by kernel_rfl) ?_ _
 intro w28 hgw28
 try simp only [Act.put, zq]
 have C29 := gq' E23 hgw28
 have C30 := gq' D26 hgw28
 have C31 := gq' D27 hgw28
 have hbel32 := hbel25.trans (Below.mono hgw28 hbel25.size)
 clear E23 D26 D27 hbel25 hgw28 hne_
 as_aux_lemma =>
 go_wp2_with fail
 refine (Hc3.out _).mono ?_
 rintro e w33 ⟨rfl, hbw33⟩
 have C34 := gq' C29 hbw33
 have C35 := gq' C30 hbw33
 have C36 := gq' C31 hbw33
 have hbel37 := hbel32.trans (Below.mono hbw33 hbel32.size)
 clear C29 C30 C31 hbel32 hbw33
 go_wp2_with (first | (refine stN rfl 26 (.tmp 12) (.tmp 33) rfl w33 rfl (natsV .u64 ln) rfl 26 (natsV .u64 (zeros 4)) (i24 L_ln.out) (lz4 L_ln.out) n1' ?_; intro w38 hgw38 hnw38; have C41 := gq' C34 hgw38; clear C34; have C42 := gq' C35 hgw38; clear C35; have C43 := gq' C36 hgw38; clear C36; have hbel44 := hbel37.trans (Below.mono hgw38 hbel37.size); clear hbel37; have D40 := Hd hnw38; clear hnw38 hgw38; generalize w33.heap.size = G39 at *) | (refine lm' (blk_all (C43.out)) Tryz.underlying26 (i24 L_ls.out) ?_) | (refine lm' (blk_all (D40.out)) Tryz.underlying26 (i24 L_ln.out) ?_))
 refine (Hc4.out _).mono ?_
 rintro e w45 ⟨rfl, hbw45⟩
 have C46 := gq' C41 hbw45
 have C47 := gq' C42 hbw45
 have C48 := gq' C43 hbw45
 have C49 := gq' D40 hbw45
 have hbel50 := hbel44.trans (Below.mono hbw45 hbel44.size)
 clear C41 C42 C43 D40 hbel44 hbw45
 go_wp2_with (first | (refine stN rfl 26 (.tmp 13) (.tmp 36) rfl w45 rfl (natsV .u64 lw) rfl 26 (natsV .u64 (zeros 4)) (i24 L_lw.out) (lz4 L_lw.out) n1' ?_; intro w51 hgw51 hnw51; have C54 := gq' C46 hgw51; clear C46; have C55 := gq' C47 hgw51; clear C47; have C56 := gq' C48 hgw51; clear C48; have C57 := gq' C49 hgw51; clear C49; have hbel58 := hbel50.trans (Below.mono hgw51 hbel50.size); clear hbel50; have D53 := Hd hnw51; clear hnw51 hgw51; generalize w45.heap.size = G52 at *))
 as_aux_lemma =>
 refine wp_region_G (fun w_ => Blk w_ G52 26 (natsV .u64 lw) ∧ Blk w_ G39 26 (natsV .u64 ln) ∧ Below w.heap.size w w_) 6 (by kernel_rfl) ⟨D53.out.drew, C57.out.drew, hbel58.drew⟩ ?_
 refine tkp gB2 0 rfl ?_
 try simp only [Act.put, zq]
 refine tk gB2 1 rfl (cg' Tryz.func12 (fun W_ hS_ => Hc5.out _ hS_.2.2)) ?_
 try simp only [Act.put, zq]
 refine tk gB2 2 rfl (lg' (fun _ hS_ => blk_all (hS_.1)) Tryz.underlying26 (i24 L_lw.out)) ?_
 try simp only [Act.put, zq]
 refine tk gB2 3 rfl (lg' (fun _ hS_ => blk_all (hS_.2.1)) Tryz.underlying26 (i24 L_ln.out)) ?_
 try simp only [Act.put, zq]
 refine tk gB2 4 rfl (cg' Tryz.func40 (fun W_ hS_ => Hc6.out W_)) ?_
 try simp only [Act.put, zq]
 refine wpAnyG_def (i := 5) (j := 6) gB2 (by kernel_rfl) (by kernel_rfl) (by kernel_rfl) rfl rfl rfl (allocG (by rfl) rfl _ alloc24) (lz4 L_lu.out) (fun _ => StoresG.mk (cs := (natsV .u64 lu)) (by rfl) 26 _ _ rfl rfl rfl (i24 L_lu.out) n1') ?_
 intro w59 G60 hgw59 hz_ hn_
 try simp only [Act.put, zq]
 have E61 := dq' C54 hgw59
 have E62 := dq' C55 hgw59
 have E63 := dq' C56 hgw59
 have E64 := dq' C57 hgw59
 have E65 := dq' D53 hgw59
 have hbel66 := hbel58.drew.trans (Below.mono hgw59 hbel58.drew.size)
 have D67 := Hd hn_
 clear C54 C55 C56 C57 D53 hbel58 hn_ hz_ hgw59
 as_aux_lemma =>
 go_wp2_with (first | (refine lm' (blk_all (E62.out)) Tryz.underlying26 (i24 L_lr.out) ?_) | (refine lm' (blk_all (E65.out)) Tryz.underlying26 (i24 L_lw.out) ?_) | (refine lm' (blk_all (E64.out)) Tryz.underlying26 (i24 L_ln.out) ?_))
 refine (Hc7.out _).mono ?_
 rintro e w68 ⟨rfl, hbw68⟩
 have C69 := gq' E61 hbw68
 have C70 := gq' E62 hbw68
 have C71 := gq' E63 hbw68
 have C72 := gq' E64 hbw68
 have C73 := gq' E65 hbw68
 have C74 := gq' D67 hbw68
 have hbel75 := hbel66.trans (Below.mono hbw68 hbel66.size)
 clear E61 E62 E63 E64 E65 D67 hbel66 hbw68
 go_wp2_with (first | (refine stN rfl 26 (.tmp 15) (.tmp 45) rfl w68 rfl (natsV .u64 lv) rfl 26 (natsV .u64 (zeros 4)) (i24 L_lv.out) (lz4 L_lv.out) n1' ?_; intro w76 hgw76 hnw76; have C79 := gq' C69 hgw76; clear C69; have C80 := gq' C70 hgw76; clear C70; have C81 := gq' C71 hgw76; clear C71; have C82 := gq' C72 hgw76; clear C72; have C83 := gq' C73 hgw76; clear C73; have C84 := gq' C74 hgw76; clear C74; have hbel85 := hbel75.trans (Below.mono hgw76 hbel75.size); clear hbel75; have D78 := Hd hnw76; clear hnw76 hgw76; generalize w68.heap.size = G77 at *))
 as_aux_lemma =>
 refine wp_region_G (fun w_ => Blk w_ G60 26 (natsV .u64 lu) ∧ Blk w_ G77 26 (natsV .u64 lv) ∧ Blk w_ G4 28 (pv lx ly false)) 8 (by kernel_rfl) ⟨C84.out.drew, D78.out.drew, C79.out.drew⟩ ?_
 refine tk gS3 0 rfl (lg' (fun _ hS_ => blk_all (hS_.1)) Tryz.underlying26 (i24 L_lu.out)) ?_
 try simp only [Act.put, zq]
 refine tk gS3 1 rfl (cg' Tryz.func43 (fun W_ _ => Hc8.out W_)) ?_
 try simp only [Act.put, zq]
 refine tk gS3 2 rfl (cg' Tryz.func42 (fun W_ _ => Hc9.out W_)) ?_
 try simp only [Act.put, zq]
 refine tk gS3 3 rfl (lg' (fun _ hS_ => blk_all (hS_.2.1)) Tryz.underlying26 (i24 L_lv.out)) ?_
 try simp only [Act.put, zq]
 refine tk gS3 4 rfl (lg' (fun _ hS_ => blk_all (hS_.2.2)) Tryz.underlying28 (i43 L_lx.out L_ly.out)) ?_
 try simp only [Act.put, zq]
 refine tk gS3 5 rfl (cg' Tryz.func42 (fun W_ _ => Hc10.out W_)) ?_
 try simp only [Act.put, zq]
 refine tk gS3 6 rfl (cg' Tryz.func41 (fun W_ _ => Hc11.out W_)) ?_
 try simp only [Act.put, zq]
 refine wpAnyG_def (i := 7) (j := 8) gS3 (by kernel_rfl) (by kernel_rfl) (by kernel_rfl) rfl rfl rfl (allocG (by rfl) rfl _ alloc43) (lenEq pz9 (show (pv (zeros 4) (zeros 4) true).length = 9 from rfl)) (fun _ => StoresG.mk (cs := (pv (zeros 4) (zeros 4) true)) (by rfl) 28 _ _ rfl rfl rfl (i43 rfl rfl) p1_) ?_
 intro w86 G87 hgw86 hz_ hn_
 try simp only [Act.put, zq]
 have NE88 := Hd (Nat.ne_of_lt (Nat.lt_of_lt_of_le C79.out.drew.lt hz_))
 have NE89 := Hd (Nat.ne_of_lt (Nat.lt_of_lt_of_le C80.out.drew.lt hz_))
 have NE90 := Hd (Nat.ne_of_lt (Nat.lt_of_lt_of_le C81.out.drew.lt hz_))
 have NE91 := Hd (Nat.ne_of_lt (Nat.lt_of_lt_of_le C82.out.drew.lt hz_))
 have NE92 := Hd (Nat.ne_of_lt (Nat.lt_of_lt_of_le C83.out.drew.lt hz_))
 have NE93 := Hd (Nat.ne_of_lt (Nat.lt_of_lt_of_le C84.out.drew.lt hz_))
 have NE94 := Hd (Nat.ne_of_lt (Nat.lt_of_lt_of_le D78.out.drew.lt hz_))
 have GE95 := Hd (Nat.le_trans hbel85.drew.size hz_)
 have E96 := dq' C79 hgw86
 have E97 := dq' C80 hgw86
 have E98 := dq' C81 hgw86
 have E99 := dq' C82 hgw86
 have E100 := dq' C83 hgw86
 have E101 := dq' C84 hgw86
 have E102 := dq' D78 hgw86
 have hbel103 := hbel85.drew.trans (Below.mono hgw86 hbel85.drew.size)
 have D104 := Hd hn_
 clear C79 C80 C81 C82 C83 C84 D78 hbel85 hn_ hz_ hgw86
 as_aux_lemma =>
 clear E96 E97 E98 E99 E100 E101 E102
 go_wp2_with fail
 as_aux_lemma =>
 refine wp_region_G (fun w_ => Blk w_ G87 28 (pv (zeros 4) (zeros 4) true)) 10 (by kernel_rfl) D104.out.drew ?_
 refine tkp gS1 0 rfl ?_
 try simp only [Act.put, zq]
 refine tk gS1 1 rfl (worldG (by rfl) (by intro w_ hS_; have cw := pv_i (hS_) rfl rfl; go_simp; first | done | with_reducible rfl)) ?_
 try simp only [Act.put, zq]
 refine tkp gS1 2 rfl ?_
 try simp only [Act.put, zq]
 refine tks gS1 3 rfl ?_
 try simp only [Act.put, zq]
 refine tks gS1 4 rfl ?_
 try simp only [Act.put, zq]
 refine tks gS1 5 rfl ?_
 try simp only [Act.put, zq]
 refine tks gS1 6 rfl ?_
 try simp only [Act.put, zq]
 refine tks gS1 7 rfl ?_
 try simp only [Act.put, zq]
 refine tks gS1 8 rfl ?_
 try simp only [Act.put, zq]
 refine tkp gS1 9 rfl ?_
 try simp only [Act.put, zq]
 refine wpAnyG_done (by kernel_rfl) ?_ _
 intro w105 hgw105
 try simp only [Act.put, zq]
 have E106 := dq' D104 hgw105
 have hbel107 := hbel103.drew.trans (Below.mono hgw105 hbel103.drew.size)
 clear D104 hbel103 hgw105
 as_aux_lemma =>
 go_wp2_with fail
 go_ret
 exact ⟨rfl, hbel107⟩
theorem dver_wr {lx ly lr ls ln lw lz lu lv gx gy ax ay bx bz sx sy lq : List Nat} {A1 A2 A3 : Option Addr} {n1 d1 n2 d2 n3 d3 : Nat} {ia ib : Bool} (w : World) (hlx : lx.length = 4) (hly : ly.length = 4) (hlr : lr.length = 4) (hls : ls.length = 4) (hln : ln.length = 4) (hlw : lw.length = 4) (hlz : lz.length = 4) (hlu : lu.length = 4) (hlv : lv.length = 4) (hgx : gx.length = 4) (hgy : gy.length = 4) (hax : ax.length = 4) (hay : ay.length = 4) (hbx : bx.length = 4) (hbz : bz.length = 4) (hsx : sx.length = 4) (hsy : sy.length = 4) (hlq : lq.length = 4)
   (hq : ¬ lq = lr)
   (c1 : ∀ W, Below w.heap.size w W → Calls Tryz.prog 8 #[.slice A1 n1 d1] W fun e w' => e = .returned (.tuple #[.agg (pv lx ly false).toArray, .bool true]) ∧ Below W.heap.size W w')
   (c2 : ∀ W, Below w.heap.size w W → Calls Tryz.prog 10 #[.slice A3 n3 d3] W fun e w' => e = .returned (.tuple #[.agg (natsV .u64 lr).toArray, .agg (natsV .u64 ls).toArray, .int .i64 0]) ∧ Below W.heap.size W w')
   (c3 : Ans 17 #[] (.agg (natsV .u64 ln).toArray))
   (c4 : Ans 39 #[.agg (natsV .u64 ls).toArray, .agg (natsV .u64 ln).toArray] (.agg (natsV .u64 lw).toArray))
   (c5 : ∀ W, Below w.heap.size w W → Calls Tryz.prog 12 #[.slice A2 n2 d2] W fun e w' => e = .returned (.agg (natsV .u64 lz).toArray) ∧ Below W.heap.size W w')
   (c6 : Ans 40 #[.agg (natsV .u64 lz).toArray, .agg (natsV .u64 lw).toArray, .agg (natsV .u64 ln).toArray] (.agg (natsV .u64 lu).toArray))
   (c7 : Ans 40 #[.agg (natsV .u64 lr).toArray, .agg (natsV .u64 lw).toArray, .agg (natsV .u64 ln).toArray] (.agg (natsV .u64 lv).toArray))
   (c8 : Ans 43 #[] (.agg (pv gx gy false).toArray))
   (c9 : Ans 42 #[.agg (natsV .u64 lu).toArray, .agg (pv gx gy false).toArray] (.agg (pv ax ay ia).toArray))
   (c10 : Ans 42 #[.agg (natsV .u64 lv).toArray, .agg (pv lx ly false).toArray] (.agg (pv bx bz ib).toArray))
   (c11 : Ans 41 #[.agg (pv ax ay ia).toArray, .agg (pv bx bz ib).toArray] (.agg (pv sx sy false).toArray))
   (c12 : Ans 18 #[.agg (natsV .u64 sx).toArray, .bool false, .agg (natsV .u64 ln).toArray] (.agg (natsV .u64 lq).toArray)) :
   Calls Tryz.prog 16 #[.slice A1 n1 d1, .slice A2 n2 d2, .slice A3 n3 d3] w fun e w' => e = .returned (.int .i64 74) ∧ Below w.heap.size w w' := by
 have L_lx := Hd hlx
 have L_ly := Hd hly
 have L_lr := Hd hlr
 have L_ls := Hd hls
 have L_ln := Hd hln
 have L_lw := Hd hlw
 have L_lz := Hd hlz
 have L_lu := Hd hlu
 have L_lv := Hd hlv
 have L_gx := Hd hgx
 have L_gy := Hd hgy
 have L_ax := Hd hax
 have L_ay := Hd hay
 have L_bx := Hd hbx
 have L_bz := Hd hbz
 have L_sx := Hd hsx
 have L_sy := Hd hsy
 have L_lq := Hd hlq
 have Hc1 := Hd c1
 have Hc2 := Hd c2
 have Hc3 := Hd c3
 have Hc4 := Hd c4
 have Hc5 := Hd c5
 have Hc6 := Hd c6
 have Hc7 := Hd c7
 have Hc8 := Hd c8
 have Hc9 := Hd c9
 have Hc10 := Hd c10
 have Hc11 := Hd c11
 have Hc12 := Hd c12
 have QQ := Hd (fun w => (neq24 lq lr L_lq.out L_lr.out w).trans (by rw [decide_eq_false hq]))
 have bel_ := (Below.refl w.heap.size w)
 clear hlx hly hlr hls hln hlw hlz hlu hlv hgx hgy hax hay hbx hbz hsx hsy hlq c1 c2 c3 c4 c5 c6 c7 c8 c9 c10 c11 c12 hq
 go_enter Tryz.func16, Tryz.ntmps16
 go_wp2_with fail
 refine (Hc1.out _ bel_).mono ?_
 rintro e w1 ⟨rfl, hbw1⟩
 have hbel2 := bel_.trans (Below.mono hbw1 bel_.size)
 clear bel_ hbw1
 go_upto_region 4 with (first | (refine stN rfl 28 (.tmp 7) (.tmp 20) rfl w1 rfl (pv lx ly false) rfl 28 (pv (zeros 4) (zeros 4) false) (i43 L_lx.out L_ly.out) (lenEq pz9 (pv_len L_lx.out L_ly.out)) p1_ ?_; intro w3 hgw3 hnw3; have hbel6 := hbel2.trans (Below.mono hgw3 hbel2.size); clear hbel2; have D5 := Hd hnw3; clear hnw3 hgw3; generalize w1.heap.size = G4 at *))
 try simp only [Act.put, zq]
 as_aux_lemma =>
 refine wp_region_P (fun w_ => Below w.heap.size w w_) 11 (by kernel_rfl) hbel6 ?_
 refine tkp gB0 0 rfl ?_
 try simp only [Act.put, zq]
 refine tk gB0 1 rfl (cg' Tryz.func10 (fun W_ hS_ => Hc2.out _ hS_)) ?_
 try simp only [Act.put, zq]
 refine tkp gB0 2 rfl ?_
 try simp only [Act.put, zq]
 refine tkp gB0 3 rfl ?_
 try simp only [Act.put, zq]
 refine tkp gB0 4 rfl ?_
 try simp only [Act.put, zq]
 refine tkp gB0 5 rfl ?_
 try simp only [Act.put, zq]
 refine wpAnyG_alloc2 (i := 6) (j := 7) gB0 (by kernel_rfl) (by kernel_rfl) (by kernel_rfl) (by decide) rfl rfl (allocG (by rfl) rfl _ alloc24) (allocG (by rfl) rfl _ alloc24) (fun _ => allocG (by rfl) rfl _ alloc24) (fun _ => allocG (by rfl) rfl _ alloc24) (fun _ _ => rfl) ?_
 intro w7 G8 G9 hgw7 hz_ hz2_ hne_ hn_ hn2_
 try simp only [Act.put, zq]
 have NG10 := Hd (Nat.ne_of_lt (Nat.lt_of_lt_of_le D5.out.lt hz_))
 have NG11 := Hd (Nat.ne_of_lt (Nat.lt_of_lt_of_le D5.out.lt hz2_))
 have GE12 := Hd (Nat.le_trans hbel6.size hz_)
 have GE13 := Hd (Nat.le_trans hbel6.size hz2_)
 have C14 := gq' D5 hgw7
 have hbel15 := hbel6.trans (Below.mono hgw7 hbel6.size)
 clear D5 hbel6 hz_ hz2_ hgw7
 refine wpAnyG_store (i := 8) (by kernel_rfl) rfl hn_ (lz4 L_lr.out) (StoresG.mk (cs := (natsV .u64 lr)) (by rfl) 26 _ _ rfl rfl rfl (i24 L_lr.out) n1') (.inr (fun _ hS_ => below_setRow' hS_ GE12.out _)) ?_
 intro w16 hgw16 hn17
 try simp only [Act.put, zq]
 have E18 := Hd (C14.out.grown hgw16 (fun e => NG10.out (Option.some.inj e)))
 have hn19 := hn2_.grown hgw16 (fun e => hne_.symm (Option.some.inj e))
 have hbel20 := belStore hbel15 hgw16 GE12.out
 clear C14 hn2_ hgw16
 refine wpAnyG_store (i := 9) (by kernel_rfl) rfl hn19 (lz4 L_ls.out) (StoresG.mk (cs := (natsV .u64 ls)) (by rfl) 26 _ _ rfl rfl rfl (i24 L_ls.out) n1') (.inr (fun _ hS_ => below_setRow' hS_ GE13.out _)) ?_
 intro w21 hgw21 hn22
 try simp only [Act.put, zq]
 have E23 := Hd (E18.out.grown hgw21 (fun e => NG11.out (Option.some.inj e)))
 have hn24 := hn17.grown hgw21 (fun e => hne_ (Option.some.inj e))
 have hbel25 := belStore hbel20 hgw21 GE13.out
 have D26 := Hd hn24
 have D27 := Hd hn22
 clear E18 hn17 hgw21 hn24 hn22
 refine tkp gB0 10 rfl ?_
 try simp only [Act.put, zq]
 refine wpAnyG_done (by kernel_rfl) ?_ _
 intro w28 hgw28
 try simp only [Act.put, zq]
 have C29 := gq' E23 hgw28
 have C30 := gq' D26 hgw28
 have C31 := gq' D27 hgw28
 have hbel32 := hbel25.trans (Below.mono hgw28 hbel25.size)
 clear E23 D26 D27 hbel25 hgw28 hne_
 as_aux_lemma =>
 go_wp2_with fail
 refine (Hc3.out _).mono ?_
 rintro e w33 ⟨rfl, hbw33⟩
 have C34 := gq' C29 hbw33
 have C35 := gq' C30 hbw33
 have C36 := gq' C31 hbw33
 have hbel37 := hbel32.trans (Below.mono hbw33 hbel32.size)
 clear C29 C30 C31 hbel32 hbw33
 go_wp2_with (first | (refine stN rfl 26 (.tmp 12) (.tmp 33) rfl w33 rfl (natsV .u64 ln) rfl 26 (natsV .u64 (zeros 4)) (i24 L_ln.out) (lz4 L_ln.out) n1' ?_; intro w38 hgw38 hnw38; have C41 := gq' C34 hgw38; clear C34; have C42 := gq' C35 hgw38; clear C35; have C43 := gq' C36 hgw38; clear C36; have hbel44 := hbel37.trans (Below.mono hgw38 hbel37.size); clear hbel37; have D40 := Hd hnw38; clear hnw38 hgw38; generalize w33.heap.size = G39 at *) | (refine lm' (blk_all (C43.out)) Tryz.underlying26 (i24 L_ls.out) ?_) | (refine lm' (blk_all (D40.out)) Tryz.underlying26 (i24 L_ln.out) ?_))
 refine (Hc4.out _).mono ?_
 rintro e w45 ⟨rfl, hbw45⟩
 have C46 := gq' C41 hbw45
 have C47 := gq' C42 hbw45
 have C48 := gq' C43 hbw45
 have C49 := gq' D40 hbw45
 have hbel50 := hbel44.trans (Below.mono hbw45 hbel44.size)
 clear C41 C42 C43 D40 hbel44 hbw45
 go_wp2_with (first | (refine stN rfl 26 (.tmp 13) (.tmp 36) rfl w45 rfl (natsV .u64 lw) rfl 26 (natsV .u64 (zeros 4)) (i24 L_lw.out) (lz4 L_lw.out) n1' ?_; intro w51 hgw51 hnw51; have C54 := gq' C46 hgw51; clear C46; have C55 := gq' C47 hgw51; clear C47; have C56 := gq' C48 hgw51; clear C48; have C57 := gq' C49 hgw51; clear C49; have hbel58 := hbel50.trans (Below.mono hgw51 hbel50.size); clear hbel50; have D53 := Hd hnw51; clear hnw51 hgw51; generalize w45.heap.size = G52 at *))
 as_aux_lemma =>
 refine wp_region_G (fun w_ => Blk w_ G52 26 (natsV .u64 lw) ∧ Blk w_ G39 26 (natsV .u64 ln) ∧ Below w.heap.size w w_) 6 (by kernel_rfl) ⟨D53.out.drew, C57.out.drew, hbel58.drew⟩ ?_
 refine tkp gB2 0 rfl ?_
 try simp only [Act.put, zq]
 refine tk gB2 1 rfl (cg' Tryz.func12 (fun W_ hS_ => Hc5.out _ hS_.2.2)) ?_
 try simp only [Act.put, zq]
 refine tk gB2 2 rfl (lg' (fun _ hS_ => blk_all (hS_.1)) Tryz.underlying26 (i24 L_lw.out)) ?_
 try simp only [Act.put, zq]
 refine tk gB2 3 rfl (lg' (fun _ hS_ => blk_all (hS_.2.1)) Tryz.underlying26 (i24 L_ln.out)) ?_
 try simp only [Act.put, zq]
 refine tk gB2 4 rfl (cg' Tryz.func40 (fun W_ hS_ => Hc6.out W_)) ?_
 try simp only [Act.put, zq]
 refine wpAnyG_def (i := 5) (j := 6) gB2 (by kernel_rfl) (by kernel_rfl) (by kernel_rfl) rfl rfl rfl (allocG (by rfl) rfl _ alloc24) (lz4 L_lu.out) (fun _ => StoresG.mk (cs := (natsV .u64 lu)) (by rfl) 26 _ _ rfl rfl rfl (i24 L_lu.out) n1') ?_
 intro w59 G60 hgw59 hz_ hn_
 try simp only [Act.put, zq]
 have E61 := dq' C54 hgw59
 have E62 := dq' C55 hgw59
 have E63 := dq' C56 hgw59
 have E64 := dq' C57 hgw59
 have E65 := dq' D53 hgw59
 have hbel66 := hbel58.drew.trans (Below.mono hgw59 hbel58.drew.size)
 have D67 := Hd hn_
 clear C54 C55 C56 C57 D53 hbel58 hn_ hz_ hgw59
 as_aux_lemma =>
 go_wp2_with (first | (refine lm' (blk_all (E62.out)) Tryz.underlying26 (i24 L_lr.out) ?_) | (refine lm' (blk_all (E65.out)) Tryz.underlying26 (i24 L_lw.out) ?_) | (refine lm' (blk_all (E64.out)) Tryz.underlying26 (i24 L_ln.out) ?_))
 refine (Hc7.out _).mono ?_
 rintro e w68 ⟨rfl, hbw68⟩
 have C69 := gq' E61 hbw68
 have C70 := gq' E62 hbw68
 have C71 := gq' E63 hbw68
 have C72 := gq' E64 hbw68
 have C73 := gq' E65 hbw68
 have C74 := gq' D67 hbw68
 have hbel75 := hbel66.trans (Below.mono hbw68 hbel66.size)
 clear E61 E62 E63 E64 E65 D67 hbel66 hbw68
 go_wp2_with (first | (refine stN rfl 26 (.tmp 15) (.tmp 45) rfl w68 rfl (natsV .u64 lv) rfl 26 (natsV .u64 (zeros 4)) (i24 L_lv.out) (lz4 L_lv.out) n1' ?_; intro w76 hgw76 hnw76; have C79 := gq' C69 hgw76; clear C69; have C80 := gq' C70 hgw76; clear C70; have C81 := gq' C71 hgw76; clear C71; have C82 := gq' C72 hgw76; clear C72; have C83 := gq' C73 hgw76; clear C73; have C84 := gq' C74 hgw76; clear C74; have hbel85 := hbel75.trans (Below.mono hgw76 hbel75.size); clear hbel75; have D78 := Hd hnw76; clear hnw76 hgw76; generalize w68.heap.size = G77 at *))
 as_aux_lemma =>
 refine wp_region_G (fun w_ => Blk w_ G60 26 (natsV .u64 lu) ∧ Blk w_ G77 26 (natsV .u64 lv) ∧ Blk w_ G4 28 (pv lx ly false)) 8 (by kernel_rfl) ⟨C84.out.drew, D78.out.drew, C79.out.drew⟩ ?_
 refine tk gS3 0 rfl (lg' (fun _ hS_ => blk_all (hS_.1)) Tryz.underlying26 (i24 L_lu.out)) ?_
 try simp only [Act.put, zq]
 refine tk gS3 1 rfl (cg' Tryz.func43 (fun W_ _ => Hc8.out W_)) ?_
 try simp only [Act.put, zq]
 refine tk gS3 2 rfl (cg' Tryz.func42 (fun W_ _ => Hc9.out W_)) ?_
 try simp only [Act.put, zq]
 refine tk gS3 3 rfl (lg' (fun _ hS_ => blk_all (hS_.2.1)) Tryz.underlying26 (i24 L_lv.out)) ?_
 try simp only [Act.put, zq]
 refine tk gS3 4 rfl (lg' (fun _ hS_ => blk_all (hS_.2.2)) Tryz.underlying28 (i43 L_lx.out L_ly.out)) ?_
 try simp only [Act.put, zq]
 refine tk gS3 5 rfl (cg' Tryz.func42 (fun W_ _ => Hc10.out W_)) ?_
 try simp only [Act.put, zq]
 refine tk gS3 6 rfl (cg' Tryz.func41 (fun W_ _ => Hc11.out W_)) ?_
 try simp only [Act.put, zq]
 refine wpAnyG_def (i := 7) (j := 8) gS3 (by kernel_rfl) (by kernel_rfl) (by kernel_rfl) rfl rfl rfl (allocG (by rfl) rfl _ alloc43) (lenEq pz9 (pv_len L_sx.out L_sy.out)) (fun _ => StoresG.mk (cs := (pv sx sy false)) (by rfl) 28 _ _ rfl rfl rfl (i43 L_sx.out L_sy.out) p1_) ?_
 intro w86 G87 hgw86 hz_ hn_
 try simp only [Act.put, zq]
 have NE88 := Hd (Nat.ne_of_lt (Nat.lt_of_lt_of_le C79.out.drew.lt hz_))
 have NE89 := Hd (Nat.ne_of_lt (Nat.lt_of_lt_of_le C80.out.drew.lt hz_))
 have NE90 := Hd (Nat.ne_of_lt (Nat.lt_of_lt_of_le C81.out.drew.lt hz_))
 have NE91 := Hd (Nat.ne_of_lt (Nat.lt_of_lt_of_le C82.out.drew.lt hz_))
 have NE92 := Hd (Nat.ne_of_lt (Nat.lt_of_lt_of_le C83.out.drew.lt hz_))
 have NE93 := Hd (Nat.ne_of_lt (Nat.lt_of_lt_of_le C84.out.drew.lt hz_))
 have NE94 := Hd (Nat.ne_of_lt (Nat.lt_of_lt_of_le D78.out.drew.lt hz_))
 have GE95 := Hd (Nat.le_trans hbel85.drew.size hz_)
 have E96 := dq' C79 hgw86
 have E97 := dq' C80 hgw86
 have E98 := dq' C81 hgw86
 have E99 := dq' C82 hgw86
 have E100 := dq' C83 hgw86
 have E101 := dq' C84 hgw86
 have E102 := dq' D78 hgw86
 have hbel103 := hbel85.drew.trans (Below.mono hgw86 hbel85.drew.size)
 have D104 := Hd hn_
 clear C79 C80 C81 C82 C83 C84 D78 hbel85 hn_ hz_ hgw86
 as_aux_lemma =>
 clear E96 E98 E100 E101 E102
 go_wp2_with fail
 as_aux_lemma =>
 refine wp_region_G (fun w_ => Blk w_ G87 28 (pv sx sy false) ∧ Blk w_ G39 26 (natsV .u64 ln) ∧ Blk w_ G8 26 (natsV .u64 lr)) 10 (by kernel_rfl) ⟨D104.out.drew, E99.out.drew, E97.out.drew⟩ ?_
 refine tkp gS3 0 rfl ?_
 try simp only [Act.put, zq]
 refine tk gS3 1 rfl (worldG (by rfl) (by intro w_ hS_; have cw := pv_i (hS_.1) L_sx.out L_sy.out; go_simp; first | done | with_reducible rfl)) ?_
 try simp only [Act.put, zq]
 refine tkp gS3 2 rfl ?_
 try simp only [Act.put, zq]
 refine tkp gS3 3 rfl ?_
 try simp only [Act.put, zq]
 refine tk gS3 4 rfl (lg' (fun _ hS_ => pv_x (hS_.1)) Tryz.underlying26 (i24 L_sx.out)) ?_
 try simp only [Act.put, zq]
 refine tk gS3 5 rfl (lg' (fun _ hS_ => blk_all (hS_.2.1)) Tryz.underlying26 (i24 L_ln.out)) ?_
 try simp only [Act.put, zq]
 refine tk gS3 6 rfl (cg' Tryz.func18 (fun W_ _ => Hc12.out W_)) ?_
 try simp only [Act.put, zq]
 refine tk gS3 7 rfl (lg' (fun _ hS_ => blk_all (hS_.2.2)) Tryz.underlying26 (i24 L_lr.out)) ?_
 try simp only [Act.put, zq]
 refine tk gS3 8 rfl (pureG (by rfl) (by intro w; have q := QQ.out; go_simp; first | done | with_reducible rfl)) ?_
 try simp only [Act.put, zq]
 refine tkp gS3 9 rfl ?_
 try simp only [Act.put, zq]
 refine wpAnyG_done (by kernel_rfl) ?_ _
 intro w105 hgw105
 try simp only [Act.put, zq]
 have E106 := dq' E97 hgw105
 have E107 := dq' E99 hgw105
 have E108 := dq' D104 hgw105
 have hbel109 := hbel103.drew.trans (Below.mono hgw105 hbel103.drew.size)
 clear E97 E99 D104 hbel103 hgw105
 as_aux_lemma =>
 go_wp2_with fail
 go_ret
 exact ⟨rfl, hbel109⟩
theorem dver_ok {lx ly lr ls ln lw lz lu lv gx gy ax ay bx bz sx sy lq : List Nat} {A1 A2 A3 : Option Addr} {n1 d1 n2 d2 n3 d3 : Nat} {ia ib : Bool} (w : World) (hlx : lx.length = 4) (hly : ly.length = 4) (hlr : lr.length = 4) (hls : ls.length = 4) (hln : ln.length = 4) (hlw : lw.length = 4) (hlz : lz.length = 4) (hlu : lu.length = 4) (hlv : lv.length = 4) (hgx : gx.length = 4) (hgy : gy.length = 4) (hax : ax.length = 4) (hay : ay.length = 4) (hbx : bx.length = 4) (hbz : bz.length = 4) (hsx : sx.length = 4) (hsy : sy.length = 4) (hlq : lq.length = 4)
   (hq : lq = lr)
   (c1 : ∀ W, Below w.heap.size w W → Calls Tryz.prog 8 #[.slice A1 n1 d1] W fun e w' => e = .returned (.tuple #[.agg (pv lx ly false).toArray, .bool true]) ∧ Below W.heap.size W w')
   (c2 : ∀ W, Below w.heap.size w W → Calls Tryz.prog 10 #[.slice A3 n3 d3] W fun e w' => e = .returned (.tuple #[.agg (natsV .u64 lr).toArray, .agg (natsV .u64 ls).toArray, .int .i64 0]) ∧ Below W.heap.size W w')
   (c3 : Ans 17 #[] (.agg (natsV .u64 ln).toArray))
   (c4 : Ans 39 #[.agg (natsV .u64 ls).toArray, .agg (natsV .u64 ln).toArray] (.agg (natsV .u64 lw).toArray))
   (c5 : ∀ W, Below w.heap.size w W → Calls Tryz.prog 12 #[.slice A2 n2 d2] W fun e w' => e = .returned (.agg (natsV .u64 lz).toArray) ∧ Below W.heap.size W w')
   (c6 : Ans 40 #[.agg (natsV .u64 lz).toArray, .agg (natsV .u64 lw).toArray, .agg (natsV .u64 ln).toArray] (.agg (natsV .u64 lu).toArray))
   (c7 : Ans 40 #[.agg (natsV .u64 lr).toArray, .agg (natsV .u64 lw).toArray, .agg (natsV .u64 ln).toArray] (.agg (natsV .u64 lv).toArray))
   (c8 : Ans 43 #[] (.agg (pv gx gy false).toArray))
   (c9 : Ans 42 #[.agg (natsV .u64 lu).toArray, .agg (pv gx gy false).toArray] (.agg (pv ax ay ia).toArray))
   (c10 : Ans 42 #[.agg (natsV .u64 lv).toArray, .agg (pv lx ly false).toArray] (.agg (pv bx bz ib).toArray))
   (c11 : Ans 41 #[.agg (pv ax ay ia).toArray, .agg (pv bx bz ib).toArray] (.agg (pv sx sy false).toArray))
   (c12 : Ans 18 #[.agg (natsV .u64 sx).toArray, .bool false, .agg (natsV .u64 ln).toArray] (.agg (natsV .u64 lq).toArray)) :
   Calls Tryz.prog 16 #[.slice A1 n1 d1, .slice A2 n2 d2, .slice A3 n3 d3] w fun e w' => e = .returned (.int .i64 0) ∧ Below w.heap.size w w' := by
 have L_lx := Hd hlx
 have L_ly := Hd hly
 have L_lr := Hd hlr
 have L_ls := Hd hls
 have L_ln := Hd hln
 have L_lw := Hd hlw
 have L_lz := Hd hlz
 have L_lu := Hd hlu
 have L_lv := Hd hlv
 have L_gx := Hd hgx
 have L_gy := Hd hgy
 have L_ax := Hd hax
 have L_ay := Hd hay
 have L_bx := Hd hbx
 have L_bz := Hd hbz
 have L_sx := Hd hsx
 have L_sy := Hd hsy
 have L_lq := Hd hlq
 have Hc1 := Hd c1
 have Hc2 := Hd c2
 have Hc3 := Hd c3
 have Hc4 := Hd c4
 have Hc5 := Hd c5
 have Hc6 := Hd c6
 have Hc7 := Hd c7
 have Hc8 := Hd c8
 have Hc9 := Hd c9
 have Hc10 := Hd c10
 have Hc11 := Hd c11
 have Hc12 := Hd c12
 have QQ := Hd (fun w => (neq24 lq lr L_lq.out L_lr.out w).trans (by rw [decide_eq_true hq]))
 have bel_ := (Below.refl w.heap.size w)
 clear hlx hly hlr hls hln hlw hlz hlu hlv hgx hgy hax hay hbx hbz hsx hsy hlq c1 c2 c3 c4 c5 c6 c7 c8 c9 c10 c11 c12 hq
 go_enter Tryz.func16, Tryz.ntmps16
 go_wp2_with fail
 refine (Hc1.out _ bel_).mono ?_
 rintro e w1 ⟨rfl, hbw1⟩
 have hbel2 := bel_.trans (Below.mono hbw1 bel_.size)
 clear bel_ hbw1
 go_upto_region 4 with (first | (refine stN rfl 28 (.tmp 7) (.tmp 20) rfl w1 rfl (pv lx ly false) rfl 28 (pv (zeros 4) (zeros 4) false) (i43 L_lx.out L_ly.out) (lenEq pz9 (pv_len L_lx.out L_ly.out)) p1_ ?_; intro w3 hgw3 hnw3; have hbel6 := hbel2.trans (Below.mono hgw3 hbel2.size); clear hbel2; have D5 := Hd hnw3; clear hnw3 hgw3; generalize w1.heap.size = G4 at *))
 try simp only [Act.put, zq]
 as_aux_lemma =>
 refine wp_region_P (fun w_ => Below w.heap.size w w_) 11 (by kernel_rfl) hbel6 ?_
 refine tkp gB0 0 rfl ?_
 try simp only [Act.put, zq]
 refine tk gB0 1 rfl (cg' Tryz.func10 (fun W_ hS_ => Hc2.out _ hS_)) ?_
 try simp only [Act.put, zq]
 refine tkp gB0 2 rfl ?_
 try simp only [Act.put, zq]
 refine tkp gB0 3 rfl ?_
 try simp only [Act.put, zq]
 refine tkp gB0 4 rfl ?_
 try simp only [Act.put, zq]
 refine tkp gB0 5 rfl ?_
 try simp only [Act.put, zq]
 refine wpAnyG_alloc2 (i := 6) (j := 7) gB0 (by kernel_rfl) (by kernel_rfl) (by kernel_rfl) (by decide) rfl rfl (allocG (by rfl) rfl _ alloc24) (allocG (by rfl) rfl _ alloc24) (fun _ => allocG (by rfl) rfl _ alloc24) (fun _ => allocG (by rfl) rfl _ alloc24) (fun _ _ => rfl) ?_
 intro w7 G8 G9 hgw7 hz_ hz2_ hne_ hn_ hn2_
 try simp only [Act.put, zq]
 have NG10 := Hd (Nat.ne_of_lt (Nat.lt_of_lt_of_le D5.out.lt hz_))
 have NG11 := Hd (Nat.ne_of_lt (Nat.lt_of_lt_of_le D5.out.lt hz2_))
 have GE12 := Hd (Nat.le_trans hbel6.size hz_)
 have GE13 := Hd (Nat.le_trans hbel6.size hz2_)
 have C14 := gq' D5 hgw7
 have hbel15 := hbel6.trans (Below.mono hgw7 hbel6.size)
 clear D5 hbel6 hz_ hz2_ hgw7
 refine wpAnyG_store (i := 8) (by kernel_rfl) rfl hn_ (lz4 L_lr.out) (StoresG.mk (cs := (natsV .u64 lr)) (by rfl) 26 _ _ rfl rfl rfl (i24 L_lr.out) n1') (.inr (fun _ hS_ => below_setRow' hS_ GE12.out _)) ?_
 intro w16 hgw16 hn17
 try simp only [Act.put, zq]
 have E18 := Hd (C14.out.grown hgw16 (fun e => NG10.out (Option.some.inj e)))
 have hn19 := hn2_.grown hgw16 (fun e => hne_.symm (Option.some.inj e))
 have hbel20 := belStore hbel15 hgw16 GE12.out
 clear C14 hn2_ hgw16
 refine wpAnyG_store (i := 9) (by kernel_rfl) rfl hn19 (lz4 L_ls.out) (StoresG.mk (cs := (natsV .u64 ls)) (by rfl) 26 _ _ rfl rfl rfl (i24 L_ls.out) n1') (.inr (fun _ hS_ => below_setRow' hS_ GE13.out _)) ?_
 intro w21 hgw21 hn22
 try simp only [Act.put, zq]
 have E23 := Hd (E18.out.grown hgw21 (fun e => NG11.out (Option.some.inj e)))
 have hn24 := hn17.grown hgw21 (fun e => hne_ (Option.some.inj e))
 have hbel25 := belStore hbel20 hgw21 GE13.out
 have D26 := Hd hn24
 have D27 := Hd hn22
 clear E18 hn17 hgw21 hn24 hn22
 refine tkp gB0 10 rfl ?_
 try simp only [Act.put, zq]
 refine wpAnyG_done (by kernel_rfl) ?_ _
 intro w28 hgw28
 try simp only [Act.put, zq]
 have C29 := gq' E23 hgw28
 have C30 := gq' D26 hgw28
 have C31 := gq' D27 hgw28
 have hbel32 := hbel25.trans (Below.mono hgw28 hbel25.size)
 clear E23 D26 D27 hbel25 hgw28 hne_
 as_aux_lemma =>
 go_wp2_with fail
 refine (Hc3.out _).mono ?_
 rintro e w33 ⟨rfl, hbw33⟩
 have C34 := gq' C29 hbw33
 have C35 := gq' C30 hbw33
 have C36 := gq' C31 hbw33
 have hbel37 := hbel32.trans (Below.mono hbw33 hbel32.size)
 clear C29 C30 C31 hbel32 hbw33
 go_wp2_with (first | (refine stN rfl 26 (.tmp 12) (.tmp 33) rfl w33 rfl (natsV .u64 ln) rfl 26 (natsV .u64 (zeros 4)) (i24 L_ln.out) (lz4 L_ln.out) n1' ?_; intro w38 hgw38 hnw38; have C41 := gq' C34 hgw38; clear C34; have C42 := gq' C35 hgw38; clear C35; have C43 := gq' C36 hgw38; clear C36; have hbel44 := hbel37.trans (Below.mono hgw38 hbel37.size); clear hbel37; have D40 := Hd hnw38; clear hnw38 hgw38; generalize w33.heap.size = G39 at *) | (refine lm' (blk_all (C43.out)) Tryz.underlying26 (i24 L_ls.out) ?_) | (refine lm' (blk_all (D40.out)) Tryz.underlying26 (i24 L_ln.out) ?_))
 refine (Hc4.out _).mono ?_
 rintro e w45 ⟨rfl, hbw45⟩
 have C46 := gq' C41 hbw45
 have C47 := gq' C42 hbw45
 have C48 := gq' C43 hbw45
 have C49 := gq' D40 hbw45
 have hbel50 := hbel44.trans (Below.mono hbw45 hbel44.size)
 clear C41 C42 C43 D40 hbel44 hbw45
 go_wp2_with (first | (refine stN rfl 26 (.tmp 13) (.tmp 36) rfl w45 rfl (natsV .u64 lw) rfl 26 (natsV .u64 (zeros 4)) (i24 L_lw.out) (lz4 L_lw.out) n1' ?_; intro w51 hgw51 hnw51; have C54 := gq' C46 hgw51; clear C46; have C55 := gq' C47 hgw51; clear C47; have C56 := gq' C48 hgw51; clear C48; have C57 := gq' C49 hgw51; clear C49; have hbel58 := hbel50.trans (Below.mono hgw51 hbel50.size); clear hbel50; have D53 := Hd hnw51; clear hnw51 hgw51; generalize w45.heap.size = G52 at *))
 as_aux_lemma =>
 refine wp_region_G (fun w_ => Blk w_ G52 26 (natsV .u64 lw) ∧ Blk w_ G39 26 (natsV .u64 ln) ∧ Below w.heap.size w w_) 6 (by kernel_rfl) ⟨D53.out.drew, C57.out.drew, hbel58.drew⟩ ?_
 refine tkp gB2 0 rfl ?_
 try simp only [Act.put, zq]
 refine tk gB2 1 rfl (cg' Tryz.func12 (fun W_ hS_ => Hc5.out _ hS_.2.2)) ?_
 try simp only [Act.put, zq]
 refine tk gB2 2 rfl (lg' (fun _ hS_ => blk_all (hS_.1)) Tryz.underlying26 (i24 L_lw.out)) ?_
 try simp only [Act.put, zq]
 refine tk gB2 3 rfl (lg' (fun _ hS_ => blk_all (hS_.2.1)) Tryz.underlying26 (i24 L_ln.out)) ?_
 try simp only [Act.put, zq]
 refine tk gB2 4 rfl (cg' Tryz.func40 (fun W_ hS_ => Hc6.out W_)) ?_
 try simp only [Act.put, zq]
 refine wpAnyG_def (i := 5) (j := 6) gB2 (by kernel_rfl) (by kernel_rfl) (by kernel_rfl) rfl rfl rfl (allocG (by rfl) rfl _ alloc24) (lz4 L_lu.out) (fun _ => StoresG.mk (cs := (natsV .u64 lu)) (by rfl) 26 _ _ rfl rfl rfl (i24 L_lu.out) n1') ?_
 intro w59 G60 hgw59 hz_ hn_
 try simp only [Act.put, zq]
 have E61 := dq' C54 hgw59
 have E62 := dq' C55 hgw59
 have E63 := dq' C56 hgw59
 have E64 := dq' C57 hgw59
 have E65 := dq' D53 hgw59
 have hbel66 := hbel58.drew.trans (Below.mono hgw59 hbel58.drew.size)
 have D67 := Hd hn_
 clear C54 C55 C56 C57 D53 hbel58 hn_ hz_ hgw59
 as_aux_lemma =>
 go_wp2_with (first | (refine lm' (blk_all (E62.out)) Tryz.underlying26 (i24 L_lr.out) ?_) | (refine lm' (blk_all (E65.out)) Tryz.underlying26 (i24 L_lw.out) ?_) | (refine lm' (blk_all (E64.out)) Tryz.underlying26 (i24 L_ln.out) ?_))
 refine (Hc7.out _).mono ?_
 rintro e w68 ⟨rfl, hbw68⟩
 have C69 := gq' E61 hbw68
 have C70 := gq' E62 hbw68
 have C71 := gq' E63 hbw68
 have C72 := gq' E64 hbw68
 have C73 := gq' E65 hbw68
 have C74 := gq' D67 hbw68
 have hbel75 := hbel66.trans (Below.mono hbw68 hbel66.size)
 clear E61 E62 E63 E64 E65 D67 hbel66 hbw68
 go_wp2_with (first | (refine stN rfl 26 (.tmp 15) (.tmp 45) rfl w68 rfl (natsV .u64 lv) rfl 26 (natsV .u64 (zeros 4)) (i24 L_lv.out) (lz4 L_lv.out) n1' ?_; intro w76 hgw76 hnw76; have C79 := gq' C69 hgw76; clear C69; have C80 := gq' C70 hgw76; clear C70; have C81 := gq' C71 hgw76; clear C71; have C82 := gq' C72 hgw76; clear C72; have C83 := gq' C73 hgw76; clear C73; have C84 := gq' C74 hgw76; clear C74; have hbel85 := hbel75.trans (Below.mono hgw76 hbel75.size); clear hbel75; have D78 := Hd hnw76; clear hnw76 hgw76; generalize w68.heap.size = G77 at *))
 as_aux_lemma =>
 refine wp_region_G (fun w_ => Blk w_ G60 26 (natsV .u64 lu) ∧ Blk w_ G77 26 (natsV .u64 lv) ∧ Blk w_ G4 28 (pv lx ly false)) 8 (by kernel_rfl) ⟨C84.out.drew, D78.out.drew, C79.out.drew⟩ ?_
 refine tk gS3 0 rfl (lg' (fun _ hS_ => blk_all (hS_.1)) Tryz.underlying26 (i24 L_lu.out)) ?_
 try simp only [Act.put, zq]
 refine tk gS3 1 rfl (cg' Tryz.func43 (fun W_ _ => Hc8.out W_)) ?_
 try simp only [Act.put, zq]
 refine tk gS3 2 rfl (cg' Tryz.func42 (fun W_ _ => Hc9.out W_)) ?_
 try simp only [Act.put, zq]
 refine tk gS3 3 rfl (lg' (fun _ hS_ => blk_all (hS_.2.1)) Tryz.underlying26 (i24 L_lv.out)) ?_
 try simp only [Act.put, zq]
 refine tk gS3 4 rfl (lg' (fun _ hS_ => blk_all (hS_.2.2)) Tryz.underlying28 (i43 L_lx.out L_ly.out)) ?_
 try simp only [Act.put, zq]
 refine tk gS3 5 rfl (cg' Tryz.func42 (fun W_ _ => Hc10.out W_)) ?_
 try simp only [Act.put, zq]
 refine tk gS3 6 rfl (cg' Tryz.func41 (fun W_ _ => Hc11.out W_)) ?_
 try simp only [Act.put, zq]
 refine wpAnyG_def (i := 7) (j := 8) gS3 (by kernel_rfl) (by kernel_rfl) (by kernel_rfl) rfl rfl rfl (allocG (by rfl) rfl _ alloc43) (lenEq pz9 (pv_len L_sx.out L_sy.out)) (fun _ => StoresG.mk (cs := (pv sx sy false)) (by rfl) 28 _ _ rfl rfl rfl (i43 L_sx.out L_sy.out) p1_) ?_
 intro w86 G87 hgw86 hz_ hn_
 try simp only [Act.put, zq]
 have NE88 := Hd (Nat.ne_of_lt (Nat.lt_of_lt_of_le C79.out.drew.lt hz_))
 have NE89 := Hd (Nat.ne_of_lt (Nat.lt_of_lt_of_le C80.out.drew.lt hz_))
 have NE90 := Hd (Nat.ne_of_lt (Nat.lt_of_lt_of_le C81.out.drew.lt hz_))
 have NE91 := Hd (Nat.ne_of_lt (Nat.lt_of_lt_of_le C82.out.drew.lt hz_))
 have NE92 := Hd (Nat.ne_of_lt (Nat.lt_of_lt_of_le C83.out.drew.lt hz_))
 have NE93 := Hd (Nat.ne_of_lt (Nat.lt_of_lt_of_le C84.out.drew.lt hz_))
 have NE94 := Hd (Nat.ne_of_lt (Nat.lt_of_lt_of_le D78.out.drew.lt hz_))
 have GE95 := Hd (Nat.le_trans hbel85.drew.size hz_)
 have E96 := dq' C79 hgw86
 have E97 := dq' C80 hgw86
 have E98 := dq' C81 hgw86
 have E99 := dq' C82 hgw86
 have E100 := dq' C83 hgw86
 have E101 := dq' C84 hgw86
 have E102 := dq' D78 hgw86
 have hbel103 := hbel85.drew.trans (Below.mono hgw86 hbel85.drew.size)
 have D104 := Hd hn_
 clear C79 C80 C81 C82 C83 C84 D78 hbel85 hn_ hz_ hgw86
 as_aux_lemma =>
 clear E96 E98 E100 E101 E102
 go_wp2_with fail
 as_aux_lemma =>
 refine wp_region_G (fun w_ => Blk w_ G87 28 (pv sx sy false) ∧ Blk w_ G39 26 (natsV .u64 ln) ∧ Blk w_ G8 26 (natsV .u64 lr)) 10 (by kernel_rfl) ⟨D104.out.drew, E99.out.drew, E97.out.drew⟩ ?_
 refine tkp gS3 0 rfl ?_
 try simp only [Act.put, zq]
 refine tk gS3 1 rfl (worldG (by rfl) (by intro w_ hS_; have cw := pv_i (hS_.1) L_sx.out L_sy.out; go_simp; first | done | with_reducible rfl)) ?_
 try simp only [Act.put, zq]
 refine tkp gS3 2 rfl ?_
 try simp only [Act.put, zq]
 refine tkp gS3 3 rfl ?_
 try simp only [Act.put, zq]
 refine tk gS3 4 rfl (lg' (fun _ hS_ => pv_x (hS_.1)) Tryz.underlying26 (i24 L_sx.out)) ?_
 try simp only [Act.put, zq]
 refine tk gS3 5 rfl (lg' (fun _ hS_ => blk_all (hS_.2.1)) Tryz.underlying26 (i24 L_ln.out)) ?_
 try simp only [Act.put, zq]
 refine tk gS3 6 rfl (cg' Tryz.func18 (fun W_ _ => Hc12.out W_)) ?_
 try simp only [Act.put, zq]
 refine tk gS3 7 rfl (lg' (fun _ hS_ => blk_all (hS_.2.2)) Tryz.underlying26 (i24 L_lr.out)) ?_
 try simp only [Act.put, zq]
 refine tk gS3 8 rfl (pureG (by rfl) (by intro w; have q := QQ.out; go_simp; first | done | with_reducible rfl)) ?_
 try simp only [Act.put, zq]
 refine tkp gS3 9 rfl ?_
 try simp only [Act.put, zq]
 refine wpAnyG_done (by kernel_rfl) ?_ _
 intro w105 hgw105
 try simp only [Act.put, zq]
 have E106 := dq' E97 hgw105
 have E107 := dq' E99 hgw105
 have E108 := dq' D104 hgw105
 have hbel109 := hbel103.drew.trans (Below.mono hgw105 hbel103.drew.size)
 clear E97 E99 D104 hbel103 hgw105
 as_aux_lemma =>
 go_wp2_with fail
 go_ret
 exact ⟨rfl, hbel109⟩
end Go.Proofs.YtdkkombpkojjaaaGreat
