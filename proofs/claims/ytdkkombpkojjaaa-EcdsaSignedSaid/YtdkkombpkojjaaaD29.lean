/- Parts of proofs of statements, each text behind those that it stands on. No condition of its own. -/
import Derived.Laws.Cover3
import Derived.Test.YtdkkombpkojjaaaD17
import Derived.Test.YtdkkombpkojjaaaD20
namespace Go.Proofs.Ytdkkombpkojjaaa
set_option maxRecDepth 100000
set_option maxHeartbeats 3200000
open Go.RowKit
set_option linter.unusedVariables false
set_option linter.unusedSimpArgs false
theorem wver_key {A1 A2 A3 : Option Addr} {n1 d1 n2 d2 n3 d3 : Nat} (w : World) 
   (c1 : ∀ W, Below w.heap.size w W → Calls Try.prog 31 #[.slice A1 n1 d1] W fun e w' => e = .returned (.tuple #[.agg (pv (zeros 4) (zeros 4) false).toArray, .int .i64 71]) ∧ Below W.heap.size W w') :
   Calls Try.prog 16 #[.slice A1 n1 d1, .slice A2 n2 d2, .slice A3 n3 d3] w fun e w' => e = .returned (.int .i64 71) ∧ Below w.heap.size w w' := by
 have Hc1 := Hd c1
 have bel_ := (Below.refl w.heap.size w)
 clear c1
 go_enter Try.func16, Try.ntmps16
 go_wp2_with fail
 refine (Hc1.out _ bel_).mono ?_
 rintro e w1 ⟨rfl, hbw1⟩
 have hbel2 := bel_.trans (Below.mono hbw1 bel_.size)
 clear bel_ hbw1
 go_wp2_with (first | (refine stN rfl 32 (.tmp 7) (.tmp 19) rfl w1 rfl (pv (zeros 4) (zeros 4) false) rfl 32 (pv (zeros 4) (zeros 4) false) (i43 rfl rfl) (lenEq pz9 pz9) p1_ ?_; intro w3 hgw3 hnw3; have hbel6 := hbel2.trans (Below.mono hgw3 hbel2.size); clear hbel2; have D5 := Hd hnw3; clear hnw3 hgw3; generalize w1.heap.size = G4 at *))
 go_ret
 exact ⟨rfl, hbel6⟩
theorem wver_sp72 {lx ly : List Nat} {A1 A2 A3 : Option Addr} {n1 d1 n2 d2 n3 d3 : Nat} (w : World) (hlx : lx.length = 4) (hly : ly.length = 4)
   (c1 : ∀ W, Below w.heap.size w W → Calls Try.prog 31 #[.slice A1 n1 d1] W fun e w' => e = .returned (.tuple #[.agg (pv lx ly false).toArray, .int .i64 0]) ∧ Below W.heap.size W w')
   (c2 : ∀ W, Below w.heap.size w W → Calls Try.prog 32 #[.slice A3 n3 d3] W fun e w' => e = .returned (.tuple #[.agg (natsV .u64 (zeros 4)).toArray, .agg (natsV .u64 (zeros 4)).toArray, .int .i64 72]) ∧ Below W.heap.size W w') :
   Calls Try.prog 16 #[.slice A1 n1 d1, .slice A2 n2 d2, .slice A3 n3 d3] w fun e w' => e = .returned (.int .i64 72) ∧ Below w.heap.size w w' := by
 have L_lx := Hd hlx
 have L_ly := Hd hly
 have Hc1 := Hd c1
 have Hc2 := Hd c2
 have bel_ := (Below.refl w.heap.size w)
 clear hlx hly c1 c2
 go_enter Try.func16, Try.ntmps16
 go_wp2_with fail
 refine (Hc1.out _ bel_).mono ?_
 rintro e w1 ⟨rfl, hbw1⟩
 have hbel2 := bel_.trans (Below.mono hbw1 bel_.size)
 clear bel_ hbw1
 go_upto_region 4 with (first | (refine stN rfl 32 (.tmp 7) (.tmp 19) rfl w1 rfl (pv lx ly false) rfl 32 (pv (zeros 4) (zeros 4) false) (i43 L_lx.out L_ly.out) (lenEq pz9 (pv_len L_lx.out L_ly.out)) p1_ ?_; intro w3 hgw3 hnw3; have hbel6 := hbel2.trans (Below.mono hgw3 hbel2.size); clear hbel2; have D5 := Hd hnw3; clear hnw3 hgw3; generalize w1.heap.size = G4 at *))
 try simp only [Act.put, zq]
 as_aux_lemma =>
 refine wp_region_P (fun w_ => Below w.heap.size w w_) 11 (by kernel_rfl) hbel6 ?_
 refine tkp gB0 0 rfl ?_
 try simp only [Act.put, zq]
 refine tk gB0 1 rfl (cg' Try.func32 (fun W_ hS_ => Hc2.out _ hS_)) ?_
 try simp only [Act.put, zq]
 refine tkp gB0 2 rfl ?_
 try simp only [Act.put, zq]
 refine tkp gB0 3 rfl ?_
 try simp only [Act.put, zq]
 refine tkp gB0 4 rfl ?_
 try simp only [Act.put, zq]
 refine tkp gB0 5 rfl ?_
 try simp only [Act.put, zq]
 refine wpAnyG_alloc2 (i := 6) (j := 7) gB0 (by kernel_rfl) (by kernel_rfl) (by kernel_rfl) (by decide) rfl rfl (allocG (by rfl) rfl _ alloc24) (allocG (by rfl) rfl _ alloc24) (fun _ => allocG (by rfl) rfl _ alloc24) (fun _ => allocG (by rfl) rfl _ alloc24) (fun _ _ => rfl) ?_
 intro w7 G8 G9 hgw7 hz_ hz2_ hne_ hn_ hn2_
 try simp only [Act.put, zq]
 have NG10 := Hd (Nat.ne_of_lt (Nat.lt_of_lt_of_le D5.out.lt hz_))
 have NG11 := Hd (Nat.ne_of_lt (Nat.lt_of_lt_of_le D5.out.lt hz2_))
 have GE12 := Hd (Nat.le_trans hbel6.size hz_)
 have GE13 := Hd (Nat.le_trans hbel6.size hz2_)
 have C14 := gq' D5 hgw7
 have hbel15 := hbel6.trans (Below.mono hgw7 hbel6.size)
 clear D5 hbel6 hz_ hz2_ hgw7
 refine wpAnyG_store (i := 8) (by kernel_rfl) rfl hn_ (lz4 z4l) (StoresG.mk (cs := (natsV .u64 (zeros 4))) (by rfl) 24 _ _ rfl rfl rfl (i24 z4l) n1') (.inr (fun _ hS_ => below_setRow' hS_ GE12.out _)) ?_
 intro w16 hgw16 hn17
 try simp only [Act.put, zq]
 have E18 := Hd (C14.out.grown hgw16 (fun e => NG10.out (Option.some.inj e)))
 have hn19 := hn2_.grown hgw16 (fun e => hne_.symm (Option.some.inj e))
 have hbel20 := belStore hbel15 hgw16 GE12.out
 clear C14 hn2_ hgw16
 refine wpAnyG_store (i := 9) (by kernel_rfl) rfl hn19 (lz4 z4l) (StoresG.mk (cs := (natsV .u64 (zeros 4))) (by rfl) 24 _ _ rfl rfl rfl (i24 z4l) n1') (.inr (fun _ hS_ => below_setRow' hS_ GE13.out _)) ?_
 intro w21 hgw21 hn22
 try simp only [Act.put, zq]
 have E23 := Hd (E18.out.grown hgw21 (fun e => NG11.out (Option.some.inj e)))
 have hn24 := hn17.grown hgw21 (fun e => hne_ (Option.some.inj e))
 have hbel25 := belStore hbel20 hgw21 GE13.out
 have D26 := Hd hn24
 have D27 := Hd hn22
 clear E18 hn17 hgw21 hn24 hn22
 refine tkp gB0 10 rfl ?_
 try simp only [Act.put, zq]
 refine wpAnyG_done (by kernel_rfl) ?_ _
 intro w28 hgw28
 try simp only [Act.put, zq]
 have C29 := gq' E23 hgw28
 have C30 := gq' D26 hgw28
 have C31 := gq' D27 hgw28
 have hbel32 := hbel25.trans (Below.mono hgw28 hbel25.size)
 clear E23 D26 D27 hbel25 hgw28 hne_
 as_aux_lemma =>
 go_wp2_with fail
 go_ret
 exact ⟨rfl, hbel32⟩
theorem wver_sp73 {lx ly : List Nat} {A1 A2 A3 : Option Addr} {n1 d1 n2 d2 n3 d3 : Nat} (w : World) (hlx : lx.length = 4) (hly : ly.length = 4)
   (c1 : ∀ W, Below w.heap.size w W → Calls Try.prog 31 #[.slice A1 n1 d1] W fun e w' => e = .returned (.tuple #[.agg (pv lx ly false).toArray, .int .i64 0]) ∧ Below W.heap.size W w')
   (c2 : ∀ W, Below w.heap.size w W → Calls Try.prog 32 #[.slice A3 n3 d3] W fun e w' => e = .returned (.tuple #[.agg (natsV .u64 (zeros 4)).toArray, .agg (natsV .u64 (zeros 4)).toArray, .int .i64 73]) ∧ Below W.heap.size W w') :
   Calls Try.prog 16 #[.slice A1 n1 d1, .slice A2 n2 d2, .slice A3 n3 d3] w fun e w' => e = .returned (.int .i64 73) ∧ Below w.heap.size w w' := by
 have L_lx := Hd hlx
 have L_ly := Hd hly
 have Hc1 := Hd c1
 have Hc2 := Hd c2
 have bel_ := (Below.refl w.heap.size w)
 clear hlx hly c1 c2
 go_enter Try.func16, Try.ntmps16
 go_wp2_with fail
 refine (Hc1.out _ bel_).mono ?_
 rintro e w1 ⟨rfl, hbw1⟩
 have hbel2 := bel_.trans (Below.mono hbw1 bel_.size)
 clear bel_ hbw1
 go_upto_region 4 with (first | (refine stN rfl 32 (.tmp 7) (.tmp 19) rfl w1 rfl (pv lx ly false) rfl 32 (pv (zeros 4) (zeros 4) false) (i43 L_lx.out L_ly.out) (lenEq pz9 (pv_len L_lx.out L_ly.out)) p1_ ?_; intro w3 hgw3 hnw3; have hbel6 := hbel2.trans (Below.mono hgw3 hbel2.size); clear hbel2; have D5 := Hd hnw3; clear hnw3 hgw3; generalize w1.heap.size = G4 at *))
 try simp only [Act.put, zq]
 as_aux_lemma =>
 refine wp_region_P (fun w_ => Below w.heap.size w w_) 11 (by kernel_rfl) hbel6 ?_
 refine tkp gB0 0 rfl ?_
 try simp only [Act.put, zq]
 refine tk gB0 1 rfl (cg' Try.func32 (fun W_ hS_ => Hc2.out _ hS_)) ?_
 try simp only [Act.put, zq]
 refine tkp gB0 2 rfl ?_
 try simp only [Act.put, zq]
 refine tkp gB0 3 rfl ?_
 try simp only [Act.put, zq]
 refine tkp gB0 4 rfl ?_
 try simp only [Act.put, zq]
 refine tkp gB0 5 rfl ?_
 try simp only [Act.put, zq]
 refine wpAnyG_alloc2 (i := 6) (j := 7) gB0 (by kernel_rfl) (by kernel_rfl) (by kernel_rfl) (by decide) rfl rfl (allocG (by rfl) rfl _ alloc24) (allocG (by rfl) rfl _ alloc24) (fun _ => allocG (by rfl) rfl _ alloc24) (fun _ => allocG (by rfl) rfl _ alloc24) (fun _ _ => rfl) ?_
 intro w7 G8 G9 hgw7 hz_ hz2_ hne_ hn_ hn2_
 try simp only [Act.put, zq]
 have NG10 := Hd (Nat.ne_of_lt (Nat.lt_of_lt_of_le D5.out.lt hz_))
 have NG11 := Hd (Nat.ne_of_lt (Nat.lt_of_lt_of_le D5.out.lt hz2_))
 have GE12 := Hd (Nat.le_trans hbel6.size hz_)
 have GE13 := Hd (Nat.le_trans hbel6.size hz2_)
 have C14 := gq' D5 hgw7
 have hbel15 := hbel6.trans (Below.mono hgw7 hbel6.size)
 clear D5 hbel6 hz_ hz2_ hgw7
 refine wpAnyG_store (i := 8) (by kernel_rfl) rfl hn_ (lz4 z4l) (StoresG.mk (cs := (natsV .u64 (zeros 4))) (by rfl) 24 _ _ rfl rfl rfl (i24 z4l) n1') (.inr (fun _ hS_ => below_setRow' hS_ GE12.out _)) ?_
 intro w16 hgw16 hn17
 try simp only [Act.put, zq]
 have E18 := Hd (C14.out.grown hgw16 (fun e => NG10.out (Option.some.inj e)))
 have hn19 := hn2_.grown hgw16 (fun e => hne_.symm (Option.some.inj e))
 have hbel20 := belStore hbel15 hgw16 GE12.out
 clear C14 hn2_ hgw16
 refine wpAnyG_store (i := 9) (by kernel_rfl) rfl hn19 (lz4 z4l) (StoresG.mk (cs := (natsV .u64 (zeros 4))) (by rfl) 24 _ _ rfl rfl rfl (i24 z4l) n1') (.inr (fun _ hS_ => below_setRow' hS_ GE13.out _)) ?_
 intro w21 hgw21 hn22
 try simp only [Act.put, zq]
 have E23 := Hd (E18.out.grown hgw21 (fun e => NG11.out (Option.some.inj e)))
 have hn24 := hn17.grown hgw21 (fun e => hne_ (Option.some.inj e))
 have hbel25 := belStore hbel20 hgw21 GE13.out
 have D26 := Hd hn24
 have D27 := Hd hn22
 clear E18 hn17 hgw21 hn24 hn22
 refine tkp gB0 10 rfl ?_
 try simp only [Act.put, zq]
 refine wpAnyG_done (by kernel_rfl) ?_ _
 intro w28 hgw28
 try simp only [Act.put, zq]
 have C29 := gq' E23 hgw28
 have C30 := gq' D26 hgw28
 have C31 := gq' D27 hgw28
 have hbel32 := hbel25.trans (Below.mono hgw28 hbel25.size)
 clear E23 D26 D27 hbel25 hgw28 hne_
 as_aux_lemma =>
 go_wp2_with fail
 go_ret
 exact ⟨rfl, hbel32⟩
theorem wver_inf {lx ly lr ls fs fw lz fz fu fr fv lu gx gy lv : List Nat} {A1 A2 A3 : Option Addr} {n1 d1 n2 d2 n3 d3 : Nat} (w : World) (hlx : lx.length = 4) (hly : ly.length = 4) (hlr : lr.length = 4) (hls : ls.length = 4) (hfs : fs.length = 4) (hfw : fw.length = 4) (hlz : lz.length = 4) (hfz : fz.length = 4) (hfu : fu.length = 4) (hfr : fr.length = 4) (hfv : fv.length = 4) (hlu : lu.length = 4) (hgx : gx.length = 4) (hgy : gy.length = 4) (hlv : lv.length = 4)
   (c1 : ∀ W, Below w.heap.size w W → Calls Try.prog 31 #[.slice A1 n1 d1] W fun e w' => e = .returned (.tuple #[.agg (pv lx ly false).toArray, .int .i64 0]) ∧ Below W.heap.size W w')
   (c2 : ∀ W, Below w.heap.size w W → Calls Try.prog 32 #[.slice A3 n3 d3] W fun e w' => e = .returned (.tuple #[.agg (natsV .u64 lr).toArray, .agg (natsV .u64 ls).toArray, .int .i64 0]) ∧ Below W.heap.size W w')
   (c3 : Ans 33 #[.agg (natsV .u64 ls).toArray] (.agg (natsV .u64 fs).toArray))
   (c4 : Ans 34 #[.agg (natsV .u64 fs).toArray] (.agg (natsV .u64 fw).toArray))
   (c5 : ∀ W, Below w.heap.size w W → Calls Try.prog 11 #[.slice A2 n2 d2] W fun e w' => e = .returned (.agg (natsV .u64 lz).toArray) ∧ Below W.heap.size W w')
   (c6 : Ans 33 #[.agg (natsV .u64 lz).toArray] (.agg (natsV .u64 fz).toArray))
   (c7 : Ans 35 #[.agg (natsV .u64 fz).toArray, .agg (natsV .u64 fw).toArray] (.agg (natsV .u64 fu).toArray))
   (c8 : Ans 33 #[.agg (natsV .u64 lr).toArray] (.agg (natsV .u64 fr).toArray))
   (c9 : Ans 35 #[.agg (natsV .u64 fr).toArray, .agg (natsV .u64 fw).toArray] (.agg (natsV .u64 fv).toArray))
   (c10 : Ans 36 #[.agg (natsV .u64 fu).toArray] (.agg (natsV .u64 lu).toArray))
   (c11 : Ans 8 #[] (.agg (pv gx gy false).toArray))
   (c12 : Ans 36 #[.agg (natsV .u64 fv).toArray] (.agg (natsV .u64 lv).toArray))
   (c13 : Ans 19 #[.agg (natsV .u64 lu).toArray, .agg (pv gx gy false).toArray, .agg (natsV .u64 lv).toArray, .agg (pv lx ly false).toArray] (.tuple #[.agg (pv (zeros 4) (zeros 4) true).toArray, .int .i64 0])) :
   Calls Try.prog 16 #[.slice A1 n1 d1, .slice A2 n2 d2, .slice A3 n3 d3] w fun e w' => e = .returned (.int .i64 74) ∧ Below w.heap.size w w' := by
 have L_lx := Hd hlx
 have L_ly := Hd hly
 have L_lr := Hd hlr
 have L_ls := Hd hls
 have L_fs := Hd hfs
 have L_fw := Hd hfw
 have L_lz := Hd hlz
 have L_fz := Hd hfz
 have L_fu := Hd hfu
 have L_fr := Hd hfr
 have L_fv := Hd hfv
 have L_lu := Hd hlu
 have L_gx := Hd hgx
 have L_gy := Hd hgy
 have L_lv := Hd hlv
 have Hc1 := Hd c1
 have Hc2 := Hd c2
 have Hc3 := Hd c3
 have Hc4 := Hd c4
 have Hc5 := Hd c5
 have Hc6 := Hd c6
 have Hc7 := Hd c7
 have Hc8 := Hd c8
 have Hc9 := Hd c9
 have Hc10 := Hd c10
 have Hc11 := Hd c11
 have Hc12 := Hd c12
 have Hc13 := Hd c13
 have bel_ := (Below.refl w.heap.size w)
 clear hlx hly hlr hls hfs hfw hlz hfz hfu hfr hfv hlu hgx hgy hlv c1 c2 c3 c4 c5 c6 c7 c8 c9 c10 c11 c12 c13
 go_enter Try.func16, Try.ntmps16
 go_wp2_with fail
 refine (Hc1.out _ bel_).mono ?_
 rintro e w1 ⟨rfl, hbw1⟩
 have hbel2 := bel_.trans (Below.mono hbw1 bel_.size)
 clear bel_ hbw1
 go_upto_region 4 with (first | (refine stN rfl 32 (.tmp 7) (.tmp 19) rfl w1 rfl (pv lx ly false) rfl 32 (pv (zeros 4) (zeros 4) false) (i43 L_lx.out L_ly.out) (lenEq pz9 (pv_len L_lx.out L_ly.out)) p1_ ?_; intro w3 hgw3 hnw3; have hbel6 := hbel2.trans (Below.mono hgw3 hbel2.size); clear hbel2; have D5 := Hd hnw3; clear hnw3 hgw3; generalize w1.heap.size = G4 at *))
 try simp only [Act.put, zq]
 as_aux_lemma =>
 refine wp_region_P (fun w_ => Below w.heap.size w w_) 11 (by kernel_rfl) hbel6 ?_
 refine tkp gB0 0 rfl ?_
 try simp only [Act.put, zq]
 refine tk gB0 1 rfl (cg' Try.func32 (fun W_ hS_ => Hc2.out _ hS_)) ?_
 try simp only [Act.put, zq]
 refine tkp gB0 2 rfl ?_
 try simp only [Act.put, zq]
 refine tkp gB0 3 rfl ?_
 try simp only [Act.put, zq]
 refine tkp gB0 4 rfl ?_
 try simp only [Act.put, zq]
 refine tkp gB0 5 rfl ?_
 try simp only [Act.put, zq]
 refine wpAnyG_alloc2 (i := 6) (j := 7) gB0 (by kernel_rfl) (by kernel_rfl) (by kernel_rfl) (by decide) rfl rfl (allocG (by rfl) rfl _ alloc24) (allocG (by rfl) rfl _ alloc24) (fun _ => allocG (by rfl) rfl _ alloc24) (fun _ => allocG (by rfl) rfl _ alloc24) (fun _ _ => rfl) ?_
 intro w7 G8 G9 hgw7 hz_ hz2_ hne_ hn_ hn2_
 try simp only [Act.put, zq]
 have NG10 := Hd (Nat.ne_of_lt (Nat.lt_of_lt_of_le D5.out.lt hz_))
 have NG11 := Hd (Nat.ne_of_lt (Nat.lt_of_lt_of_le D5.out.lt hz2_))
 have GE12 := Hd (Nat.le_trans hbel6.size hz_)
 have GE13 := Hd (Nat.le_trans hbel6.size hz2_)
 have C14 := gq' D5 hgw7
 have hbel15 := hbel6.trans (Below.mono hgw7 hbel6.size)
 clear D5 hbel6 hz_ hz2_ hgw7
 refine wpAnyG_store (i := 8) (by kernel_rfl) rfl hn_ (lz4 L_lr.out) (StoresG.mk (cs := (natsV .u64 lr)) (by rfl) 24 _ _ rfl rfl rfl (i24 L_lr.out) n1') (.inr (fun _ hS_ => below_setRow' hS_ GE12.out _)) ?_
 intro w16 hgw16 hn17
 try simp only [Act.put, zq]
 have E18 := Hd (C14.out.grown hgw16 (fun e => NG10.out (Option.some.inj e)))
 have hn19 := hn2_.grown hgw16 (fun e => hne_.symm (Option.some.inj e))
 have hbel20 := belStore hbel15 hgw16 GE12.out
 clear C14 hn2_ hgw16
 refine wpAnyG_store (i := 9) (by kernel_rfl) rfl hn19 (lz4 L_ls.out) (StoresG.mk (cs := (natsV .u64 ls)) (by rfl) 24 _ _ rfl rfl rfl (i24 L_ls.out) n1') (.inr (fun _ hS_ => below_setRow' hS_ GE13.out _)) ?_
 intro w21 hgw21 hn22
 try simp only [Act.put, zq]
 have E23 := Hd (E18.out.grown hgw21 (fun e => NG11.out (Option.some.inj e)))
 have hn24 := hn17.grown hgw21 (fun e => hne_ (Option.some.inj e))
 have hbel25 := belStore hbel20 hgw21 GE13.out
 have D26 := Hd hn24
 have D27 := Hd hn22
 clear E18 hn17 hgw21 hn24 hn22
 refine tkp gB0 10 rfl ?_
 try simp only [Act.put, zq]
 refine wpAnyG_done (by kernel_rfl) ?_ _
 intro w28 hgw28
 try simp only [Act.put, zq]
 have C29 := gq' E23 hgw28
 have C30 := gq' D26 hgw28
 have C31 := gq' D27 hgw28
 have hbel32 := hbel25.trans (Below.mono hgw28 hbel25.size)
 clear E23 D26 D27 hbel25 hgw28 hne_
 as_aux_lemma =>
 go_wp2_with (first | (refine lm' (blk_all (C31.out)) Try.underlying24 (i24 L_ls.out) ?_))
 refine (Hc3.out _).mono ?_
 rintro e w33 ⟨rfl, hbw33⟩
 have C34 := gq' C29 hbw33
 have C35 := gq' C30 hbw33
 have C36 := gq' C31 hbw33
 have hbel37 := hbel32.trans (Below.mono hbw33 hbel32.size)
 clear C29 C30 C31 hbel32 hbw33
 go_wp2_with fail
 refine (Hc4.out _).mono ?_
 rintro e w38 ⟨rfl, hbw38⟩
 have C39 := gq' C34 hbw38
 have C40 := gq' C35 hbw38
 have C41 := gq' C36 hbw38
 have hbel42 := hbel37.trans (Below.mono hbw38 hbel37.size)
 clear C34 C35 C36 hbel37 hbw38
 go_wp2_with (first | (refine stN rfl 60 (.tmp 11) (.tmp 35) rfl w38 rfl (natsV .u64 fw) rfl 60 (natsV .u64 (zeros 4)) (isc L_fw.out) (lz4 L_fw.out) n1' ?_; intro w43 hgw43 hnw43; have C46 := gq' C39 hgw43; clear C39; have C47 := gq' C40 hgw43; clear C40; have C48 := gq' C41 hgw43; clear C41; have hbel49 := hbel42.trans (Below.mono hgw43 hbel42.size); clear hbel42; have D45 := Hd hnw43; clear hnw43 hgw43; generalize w38.heap.size = G44 at *))
 as_aux_lemma =>
 refine wp_region_G (fun w_ => Blk w_ G44 60 (natsV .u64 fw) ∧ Below w.heap.size w w_) 6 (by kernel_rfl) ⟨D45.out.drew, hbel49.drew⟩ ?_
 refine tkp gB1 0 rfl ?_
 try simp only [Act.put, zq]
 refine tk gB1 1 rfl (cg' Try.func11 (fun W_ hS_ => Hc5.out _ hS_.2)) ?_
 try simp only [Act.put, zq]
 refine tk gB1 2 rfl (cg' Try.func33 (fun W_ hS_ => Hc6.out W_)) ?_
 try simp only [Act.put, zq]
 refine tk gB1 3 rfl (lg' (fun _ hS_ => blk_all (hS_.1)) Try.underlying60 (isc L_fw.out)) ?_
 try simp only [Act.put, zq]
 refine tk gB1 4 rfl (cg' Try.func35 (fun W_ hS_ => Hc7.out W_)) ?_
 try simp only [Act.put, zq]
 refine wpAnyG_def (i := 5) (j := 6) gB1 (by kernel_rfl) (by kernel_rfl) (by kernel_rfl) rfl rfl rfl (allocG (by rfl) rfl _ allocsc) (lz4 L_fu.out) (fun _ => StoresG.mk (cs := (natsV .u64 fu)) (by rfl) 60 _ _ rfl rfl rfl (isc L_fu.out) n1') ?_
 intro w50 G51 hgw50 hz_ hn_
 try simp only [Act.put, zq]
 have E52 := dq' C46 hgw50
 have E53 := dq' C47 hgw50
 have E54 := dq' C48 hgw50
 have E55 := dq' D45 hgw50
 have hbel56 := hbel49.drew.trans (Below.mono hgw50 hbel49.drew.size)
 have D57 := Hd hn_
 clear C46 C47 C48 D45 hbel49 hn_ hz_ hgw50
 as_aux_lemma =>
 go_wp2_with fail
 as_aux_lemma =>
 refine wp_region_G (fun w_ => Blk w_ G8 24 (natsV .u64 lr) ∧ Blk w_ G44 60 (natsV .u64 fw)) 5 (by kernel_rfl) ⟨E53.out.drew, E55.out.drew⟩ ?_
 refine tk gS2 0 rfl (lg' (fun _ hS_ => blk_all (hS_.1)) Try.underlying24 (i24 L_lr.out)) ?_
 try simp only [Act.put, zq]
 refine tk gS2 1 rfl (cg' Try.func33 (fun W_ _ => Hc8.out W_)) ?_
 try simp only [Act.put, zq]
 refine tk gS2 2 rfl (lg' (fun _ hS_ => blk_all (hS_.2)) Try.underlying60 (isc L_fw.out)) ?_
 try simp only [Act.put, zq]
 refine tk gS2 3 rfl (cg' Try.func35 (fun W_ _ => Hc9.out W_)) ?_
 try simp only [Act.put, zq]
 refine wpAnyG_def (i := 4) (j := 5) gS2 (by kernel_rfl) (by kernel_rfl) (by kernel_rfl) rfl rfl rfl (allocG (by rfl) rfl _ allocsc) (lz4 L_fv.out) (fun _ => StoresG.mk (cs := (natsV .u64 fv)) (by rfl) 60 _ _ rfl rfl rfl (isc L_fv.out) n1') ?_
 intro w58 G59 hgw58 hz_ hn_
 try simp only [Act.put, zq]
 have E60 := dq' E52 hgw58
 have E61 := dq' E53 hgw58
 have E62 := dq' E54 hgw58
 have E63 := dq' E55 hgw58
 have E64 := dq' D57 hgw58
 have hbel65 := hbel56.drew.trans (Below.mono hgw58 hbel56.drew.size)
 have D66 := Hd hn_
 clear E52 E53 E54 E55 D57 hbel56 hn_ hz_ hgw58
 as_aux_lemma =>
 go_wp2_with fail
 as_aux_lemma =>
 refine wp_region_G (fun w_ => Blk w_ G51 60 (natsV .u64 fu) ∧ Blk w_ G59 60 (natsV .u64 fv) ∧ Blk w_ G4 32 (pv lx ly false)) 13 (by kernel_rfl) ⟨E64.out.drew, D66.out.drew, E60.out.drew⟩ ?_
 refine tk gS3 0 rfl (lg' (fun _ hS_ => blk_all (hS_.1)) Try.underlying60 (isc L_fu.out)) ?_
 try simp only [Act.put, zq]
 refine tk gS3 1 rfl (cg' Try.func36 (fun W_ _ => Hc10.out W_)) ?_
 try simp only [Act.put, zq]
 refine tk gS3 2 rfl (cg' Try.func8 (fun W_ _ => Hc11.out W_)) ?_
 try simp only [Act.put, zq]
 refine tk gS3 3 rfl (lg' (fun _ hS_ => blk_all (hS_.2.1)) Try.underlying60 (isc L_fv.out)) ?_
 try simp only [Act.put, zq]
 refine tk gS3 4 rfl (cg' Try.func36 (fun W_ _ => Hc12.out W_)) ?_
 try simp only [Act.put, zq]
 refine tk gS3 5 rfl (lg' (fun _ hS_ => blk_all (hS_.2.2)) Try.underlying32 (i43 L_lx.out L_ly.out)) ?_
 try simp only [Act.put, zq]
 refine tk gS3 6 rfl (cg' Try.func19 (fun W_ _ => Hc13.out W_)) ?_
 try simp only [Act.put, zq]
 refine tkp gS3 7 rfl ?_
 try simp only [Act.put, zq]
 refine tkp gS3 8 rfl ?_
 try simp only [Act.put, zq]
 refine tkp gS3 9 rfl ?_
 try simp only [Act.put, zq]
 refine wpAnyG_alloc (i := 10) gS3 (by kernel_rfl) rfl (allocG (by rfl) rfl _ alloc43) ?_
 intro w67 G68 hgw67 hz_ hn_
 try simp only [Act.put, zq]
 have NG69 := Hd (Nat.ne_of_lt (Nat.lt_of_lt_of_le E64.out.drew.lt hz_))
 have NG70 := Hd (Nat.ne_of_lt (Nat.lt_of_lt_of_le D66.out.drew.lt hz_))
 have NG71 := Hd (Nat.ne_of_lt (Nat.lt_of_lt_of_le E60.out.drew.lt hz_))
 have NE72 := Hd (Nat.ne_of_lt (Nat.lt_of_lt_of_le E60.out.drew.lt hz_))
 have NE73 := Hd (Nat.ne_of_lt (Nat.lt_of_lt_of_le E61.out.drew.lt hz_))
 have NE74 := Hd (Nat.ne_of_lt (Nat.lt_of_lt_of_le E62.out.drew.lt hz_))
 have NE75 := Hd (Nat.ne_of_lt (Nat.lt_of_lt_of_le E63.out.drew.lt hz_))
 have NE76 := Hd (Nat.ne_of_lt (Nat.lt_of_lt_of_le E64.out.drew.lt hz_))
 have NE77 := Hd (Nat.ne_of_lt (Nat.lt_of_lt_of_le D66.out.drew.lt hz_))
 have GE78 := Hd (Nat.le_trans hbel65.drew.size hz_)
 have E79 := dq' E60 hgw67
 have E80 := dq' E61 hgw67
 have E81 := dq' E62 hgw67
 have E82 := dq' E63 hgw67
 have E83 := dq' E64 hgw67
 have E84 := dq' D66 hgw67
 have hbel85 := hbel65.drew.trans (Below.mono hgw67 hbel65.drew.size)
 have D86 := Hd hn_
 clear E60 E61 E62 E63 E64 D66 hbel65 hn_ hz_ hgw67
 refine wpAnyG_store (i := 11) (by kernel_rfl) rfl D86.out (lenEq pz9 (show (pv (zeros 4) (zeros 4) true).length = 9 from rfl)) (StoresG.mk (cs := (pv (zeros 4) (zeros 4) true)) (by rfl) 32 _ _ rfl rfl rfl (i43 rfl rfl) p1_) (.inr (fun _ hS_ => ⟨hS_.1.row _ (NG69.out), hS_.2.1.row _ (NG70.out), hS_.2.2.row _ (NG71.out)⟩)) ?_
 intro w87 hgw87 hn_
 try simp only [Act.put, zq]
 have E88 := Hd (E79.out.grown hgw87 (fun e => NE72.out (Option.some.inj e)))
 have E89 := Hd (E80.out.grown hgw87 (fun e => NE73.out (Option.some.inj e)))
 have E90 := Hd (E81.out.grown hgw87 (fun e => NE74.out (Option.some.inj e)))
 have E91 := Hd (E82.out.grown hgw87 (fun e => NE75.out (Option.some.inj e)))
 have E92 := Hd (E83.out.grown hgw87 (fun e => NE76.out (Option.some.inj e)))
 have E93 := Hd (E84.out.grown hgw87 (fun e => NE77.out (Option.some.inj e)))
 have D94 := Hd hn_
 have hbel95 := belStore hbel85 hgw87 (GE78.out)
 clear E79 E80 E81 E82 E83 E84 hn_ D86 hgw87
 refine tkp gS3 12 rfl ?_
 try simp only [Act.put, zq]
 refine wpAnyG_done (by kernel_rfl) ?_ _
 intro w96 hgw96
 try simp only [Act.put, zq]
 have C97 := gq' E88 hgw96
 have C98 := gq' E89 hgw96
 have C99 := gq' E90 hgw96
 have C100 := gq' E91 hgw96
 have C101 := gq' E92 hgw96
 have C102 := gq' E93 hgw96
 have C103 := gq' D94 hgw96
 have hbel104 := hbel95.trans (Below.mono hgw96 hbel95.size)
 clear E88 E89 E90 E91 E92 E93 D94 hbel95 hgw96
 as_aux_lemma =>
 clear C97 C98 C99 C100 C101 C102
 go_wp2_with fail
 as_aux_lemma =>
 refine wp_region_G (fun w_ => Blk w_ G68 32 (pv (zeros 4) (zeros 4) true)) 9 (by kernel_rfl) C103.out.drew ?_
 refine tkp gS1 0 rfl ?_
 try simp only [Act.put, zq]
 refine tk gS1 1 rfl (worldG (by rfl) (by intro w_ hS_; have cw := pv_i (hS_) rfl rfl; go_simp; first | done | with_reducible rfl)) ?_
 try simp only [Act.put, zq]
 refine tkp gS1 2 rfl ?_
 try simp only [Act.put, zq]
 refine tks gS1 3 rfl ?_
 try simp only [Act.put, zq]
 refine tks gS1 4 rfl ?_
 try simp only [Act.put, zq]
 refine tks gS1 5 rfl ?_
 try simp only [Act.put, zq]
 refine tks gS1 6 rfl ?_
 try simp only [Act.put, zq]
 refine tks gS1 7 rfl ?_
 try simp only [Act.put, zq]
 refine tkp gS1 8 rfl ?_
 try simp only [Act.put, zq]
 refine wpAnyG_done (by kernel_rfl) ?_ _
 intro w105 hgw105
 try simp only [Act.put, zq]
 have E106 := dq' C103 hgw105
 have hbel107 := hbel104.drew.trans (Below.mono hgw105 hbel104.drew.size)
 clear C103 hbel104 hgw105
 as_aux_lemma =>
 go_wp2_with fail
 go_ret
 exact ⟨rfl, hbel107⟩
theorem wver_wr {lx ly lr ls fs fw lz fz fu fr fv lu gx gy lv sx sy lq : List Nat} {A1 A2 A3 : Option Addr} {n1 d1 n2 d2 n3 d3 : Nat} (w : World) (hlx : lx.length = 4) (hly : ly.length = 4) (hlr : lr.length = 4) (hls : ls.length = 4) (hfs : fs.length = 4) (hfw : fw.length = 4) (hlz : lz.length = 4) (hfz : fz.length = 4) (hfu : fu.length = 4) (hfr : fr.length = 4) (hfv : fv.length = 4) (hlu : lu.length = 4) (hgx : gx.length = 4) (hgy : gy.length = 4) (hlv : lv.length = 4) (hsx : sx.length = 4) (hsy : sy.length = 4) (hlq : lq.length = 4)
   (hq : ¬ lq = lr)
   (c1 : ∀ W, Below w.heap.size w W → Calls Try.prog 31 #[.slice A1 n1 d1] W fun e w' => e = .returned (.tuple #[.agg (pv lx ly false).toArray, .int .i64 0]) ∧ Below W.heap.size W w')
   (c2 : ∀ W, Below w.heap.size w W → Calls Try.prog 32 #[.slice A3 n3 d3] W fun e w' => e = .returned (.tuple #[.agg (natsV .u64 lr).toArray, .agg (natsV .u64 ls).toArray, .int .i64 0]) ∧ Below W.heap.size W w')
   (c3 : Ans 33 #[.agg (natsV .u64 ls).toArray] (.agg (natsV .u64 fs).toArray))
   (c4 : Ans 34 #[.agg (natsV .u64 fs).toArray] (.agg (natsV .u64 fw).toArray))
   (c5 : ∀ W, Below w.heap.size w W → Calls Try.prog 11 #[.slice A2 n2 d2] W fun e w' => e = .returned (.agg (natsV .u64 lz).toArray) ∧ Below W.heap.size W w')
   (c6 : Ans 33 #[.agg (natsV .u64 lz).toArray] (.agg (natsV .u64 fz).toArray))
   (c7 : Ans 35 #[.agg (natsV .u64 fz).toArray, .agg (natsV .u64 fw).toArray] (.agg (natsV .u64 fu).toArray))
   (c8 : Ans 33 #[.agg (natsV .u64 lr).toArray] (.agg (natsV .u64 fr).toArray))
   (c9 : Ans 35 #[.agg (natsV .u64 fr).toArray, .agg (natsV .u64 fw).toArray] (.agg (natsV .u64 fv).toArray))
   (c10 : Ans 36 #[.agg (natsV .u64 fu).toArray] (.agg (natsV .u64 lu).toArray))
   (c11 : Ans 8 #[] (.agg (pv gx gy false).toArray))
   (c12 : Ans 36 #[.agg (natsV .u64 fv).toArray] (.agg (natsV .u64 lv).toArray))
   (c13 : Ans 19 #[.agg (natsV .u64 lu).toArray, .agg (pv gx gy false).toArray, .agg (natsV .u64 lv).toArray, .agg (pv lx ly false).toArray] (.tuple #[.agg (pv sx sy false).toArray, .int .i64 0]))
   (c14 : Ans 24 #[.agg (natsV .u64 sx).toArray] (.agg (natsV .u64 lq).toArray)) :
   Calls Try.prog 16 #[.slice A1 n1 d1, .slice A2 n2 d2, .slice A3 n3 d3] w fun e w' => e = .returned (.int .i64 74) ∧ Below w.heap.size w w' := by
 have L_lx := Hd hlx
 have L_ly := Hd hly
 have L_lr := Hd hlr
 have L_ls := Hd hls
 have L_fs := Hd hfs
 have L_fw := Hd hfw
 have L_lz := Hd hlz
 have L_fz := Hd hfz
 have L_fu := Hd hfu
 have L_fr := Hd hfr
 have L_fv := Hd hfv
 have L_lu := Hd hlu
 have L_gx := Hd hgx
 have L_gy := Hd hgy
 have L_lv := Hd hlv
 have L_sx := Hd hsx
 have L_sy := Hd hsy
 have L_lq := Hd hlq
 have Hc1 := Hd c1
 have Hc2 := Hd c2
 have Hc3 := Hd c3
 have Hc4 := Hd c4
 have Hc5 := Hd c5
 have Hc6 := Hd c6
 have Hc7 := Hd c7
 have Hc8 := Hd c8
 have Hc9 := Hd c9
 have Hc10 := Hd c10
 have Hc11 := Hd c11
 have Hc12 := Hd c12
 have Hc13 := Hd c13
 have Hc14 := Hd c14
 have QQ := Hd (fun w => (neq24 lq lr L_lq.out L_lr.out w).trans (by rw [decide_eq_false hq]))
 have bel_ := (Below.refl w.heap.size w)
 clear hlx hly hlr hls hfs hfw hlz hfz hfu hfr hfv hlu hgx hgy hlv hsx hsy hlq c1 c2 c3 c4 c5 c6 c7 c8 c9 c10 c11 c12 c13 c14 hq
 go_enter Try.func16, Try.ntmps16
 go_wp2_with fail
 refine (Hc1.out _ bel_).mono ?_
 rintro e w1 ⟨rfl, hbw1⟩
 have hbel2 := bel_.trans (Below.mono hbw1 bel_.size)
 clear bel_ hbw1
 go_upto_region 4 with (first | (refine stN rfl 32 (.tmp 7) (.tmp 19) rfl w1 rfl (pv lx ly false) rfl 32 (pv (zeros 4) (zeros 4) false) (i43 L_lx.out L_ly.out) (lenEq pz9 (pv_len L_lx.out L_ly.out)) p1_ ?_; intro w3 hgw3 hnw3; have hbel6 := hbel2.trans (Below.mono hgw3 hbel2.size); clear hbel2; have D5 := Hd hnw3; clear hnw3 hgw3; generalize w1.heap.size = G4 at *))
 try simp only [Act.put, zq]
 as_aux_lemma =>
 refine wp_region_P (fun w_ => Below w.heap.size w w_) 11 (by kernel_rfl) hbel6 ?_
 refine tkp gB0 0 rfl ?_
 try simp only [Act.put, zq]
 refine tk gB0 1 rfl (cg' Try.func32 (fun W_ hS_ => Hc2.out _ hS_)) ?_
 try simp only [Act.put, zq]
 refine tkp gB0 2 rfl ?_
 try simp only [Act.put, zq]
 refine tkp gB0 3 rfl ?_
 try simp only [Act.put, zq]
 refine tkp gB0 4 rfl ?_
 try simp only [Act.put, zq]
 refine tkp gB0 5 rfl ?_
 try simp only [Act.put, zq]
 refine wpAnyG_alloc2 (i := 6) (j := 7) gB0 (by kernel_rfl) (by kernel_rfl) (by kernel_rfl) (by decide) rfl rfl (allocG (by rfl) rfl _ alloc24) (allocG (by rfl) rfl _ alloc24) (fun _ => allocG (by rfl) rfl _ alloc24) (fun _ => allocG (by rfl) rfl _ alloc24) (fun _ _ => rfl) ?_
 intro w7 G8 G9 hgw7 hz_ hz2_ hne_ hn_ hn2_
 try simp only [Act.put, zq]
 have NG10 := Hd (Nat.ne_of_lt (Nat.lt_of_lt_of_le D5.out.lt hz_))
 have NG11 := Hd (Nat.ne_of_lt (Nat.lt_of_lt_of_le D5.out.lt hz2_))
 have GE12 := Hd (Nat.le_trans hbel6.size hz_)
 have GE13 := Hd (Nat.le_trans hbel6.size hz2_)
 have C14 := gq' D5 hgw7
 have hbel15 := hbel6.trans (Below.mono hgw7 hbel6.size)
 clear D5 hbel6 hz_ hz2_ hgw7
 refine wpAnyG_store (i := 8) (by kernel_rfl) rfl hn_ (lz4 L_lr.out) (StoresG.mk (cs := (natsV .u64 lr)) (by rfl) 24 _ _ rfl rfl rfl (i24 L_lr.out) n1') (.inr (fun _ hS_ => below_setRow' hS_ GE12.out _)) ?_
 intro w16 hgw16 hn17
 try simp only [Act.put, zq]
 have E18 := Hd (C14.out.grown hgw16 (fun e => NG10.out (Option.some.inj e)))
 have hn19 := hn2_.grown hgw16 (fun e => hne_.symm (Option.some.inj e))
 have hbel20 := belStore hbel15 hgw16 GE12.out
 clear C14 hn2_ hgw16
 refine wpAnyG_store (i := 9) (by kernel_rfl) rfl hn19 (lz4 L_ls.out) (StoresG.mk (cs := (natsV .u64 ls)) (by rfl) 24 _ _ rfl rfl rfl (i24 L_ls.out) n1') (.inr (fun _ hS_ => below_setRow' hS_ GE13.out _)) ?_
 intro w21 hgw21 hn22
 try simp only [Act.put, zq]
 have E23 := Hd (E18.out.grown hgw21 (fun e => NG11.out (Option.some.inj e)))
 have hn24 := hn17.grown hgw21 (fun e => hne_ (Option.some.inj e))
 have hbel25 := belStore hbel20 hgw21 GE13.out
 have D26 := Hd hn24
 have D27 := Hd hn22
 clear E18 hn17 hgw21 hn24 hn22
 refine tkp gB0 10 rfl ?_
 try simp only [Act.put, zq]
 refine wpAnyG_done (by kernel_rfl) ?_ _
 intro w28 hgw28
 try simp only [Act.put, zq]
 have C29 := gq' E23 hgw28
 have C30 := gq' D26 hgw28
 have C31 := gq' D27 hgw28
 have hbel32 := hbel25.trans (Below.mono hgw28 hbel25.size)
 clear E23 D26 D27 hbel25 hgw28 hne_
 as_aux_lemma =>
 go_wp2_with (first | (refine lm' (blk_all (C31.out)) Try.underlying24 (i24 L_ls.out) ?_))
 refine (Hc3.out _).mono ?_
 rintro e w33 ⟨rfl, hbw33⟩
 have C34 := gq' C29 hbw33
 have C35 := gq' C30 hbw33
 have C36 := gq' C31 hbw33
 have hbel37 := hbel32.trans (Below.mono hbw33 hbel32.size)
 clear C29 C30 C31 hbel32 hbw33
 go_wp2_with fail
 refine (Hc4.out _).mono ?_
 rintro e w38 ⟨rfl, hbw38⟩
 have C39 := gq' C34 hbw38
 have C40 := gq' C35 hbw38
 have C41 := gq' C36 hbw38
 have hbel42 := hbel37.trans (Below.mono hbw38 hbel37.size)
 clear C34 C35 C36 hbel37 hbw38
 go_wp2_with (first | (refine stN rfl 60 (.tmp 11) (.tmp 35) rfl w38 rfl (natsV .u64 fw) rfl 60 (natsV .u64 (zeros 4)) (isc L_fw.out) (lz4 L_fw.out) n1' ?_; intro w43 hgw43 hnw43; have C46 := gq' C39 hgw43; clear C39; have C47 := gq' C40 hgw43; clear C40; have C48 := gq' C41 hgw43; clear C41; have hbel49 := hbel42.trans (Below.mono hgw43 hbel42.size); clear hbel42; have D45 := Hd hnw43; clear hnw43 hgw43; generalize w38.heap.size = G44 at *))
 as_aux_lemma =>
 refine wp_region_G (fun w_ => Blk w_ G44 60 (natsV .u64 fw) ∧ Below w.heap.size w w_) 6 (by kernel_rfl) ⟨D45.out.drew, hbel49.drew⟩ ?_
 refine tkp gB1 0 rfl ?_
 try simp only [Act.put, zq]
 refine tk gB1 1 rfl (cg' Try.func11 (fun W_ hS_ => Hc5.out _ hS_.2)) ?_
 try simp only [Act.put, zq]
 refine tk gB1 2 rfl (cg' Try.func33 (fun W_ hS_ => Hc6.out W_)) ?_
 try simp only [Act.put, zq]
 refine tk gB1 3 rfl (lg' (fun _ hS_ => blk_all (hS_.1)) Try.underlying60 (isc L_fw.out)) ?_
 try simp only [Act.put, zq]
 refine tk gB1 4 rfl (cg' Try.func35 (fun W_ hS_ => Hc7.out W_)) ?_
 try simp only [Act.put, zq]
 refine wpAnyG_def (i := 5) (j := 6) gB1 (by kernel_rfl) (by kernel_rfl) (by kernel_rfl) rfl rfl rfl (allocG (by rfl) rfl _ allocsc) (lz4 L_fu.out) (fun _ => StoresG.mk (cs := (natsV .u64 fu)) (by rfl) 60 _ _ rfl rfl rfl (isc L_fu.out) n1') ?_
 intro w50 G51 hgw50 hz_ hn_
 try simp only [Act.put, zq]
 have E52 := dq' C46 hgw50
 have E53 := dq' C47 hgw50
 have E54 := dq' C48 hgw50
 have E55 := dq' D45 hgw50
 have hbel56 := hbel49.drew.trans (Below.mono hgw50 hbel49.drew.size)
 have D57 := Hd hn_
 clear C46 C47 C48 D45 hbel49 hn_ hz_ hgw50
 as_aux_lemma =>
 go_wp2_with fail
 as_aux_lemma =>
 refine wp_region_G (fun w_ => Blk w_ G8 24 (natsV .u64 lr) ∧ Blk w_ G44 60 (natsV .u64 fw)) 5 (by kernel_rfl) ⟨E53.out.drew, E55.out.drew⟩ ?_
 refine tk gS2 0 rfl (lg' (fun _ hS_ => blk_all (hS_.1)) Try.underlying24 (i24 L_lr.out)) ?_
 try simp only [Act.put, zq]
 refine tk gS2 1 rfl (cg' Try.func33 (fun W_ _ => Hc8.out W_)) ?_
 try simp only [Act.put, zq]
 refine tk gS2 2 rfl (lg' (fun _ hS_ => blk_all (hS_.2)) Try.underlying60 (isc L_fw.out)) ?_
 try simp only [Act.put, zq]
 refine tk gS2 3 rfl (cg' Try.func35 (fun W_ _ => Hc9.out W_)) ?_
 try simp only [Act.put, zq]
 refine wpAnyG_def (i := 4) (j := 5) gS2 (by kernel_rfl) (by kernel_rfl) (by kernel_rfl) rfl rfl rfl (allocG (by rfl) rfl _ allocsc) (lz4 L_fv.out) (fun _ => StoresG.mk (cs := (natsV .u64 fv)) (by rfl) 60 _ _ rfl rfl rfl (isc L_fv.out) n1') ?_
 intro w58 G59 hgw58 hz_ hn_
 try simp only [Act.put, zq]
 have E60 := dq' E52 hgw58
 have E61 := dq' E53 hgw58
 have E62 := dq' E54 hgw58
 have E63 := dq' E55 hgw58
 have E64 := dq' D57 hgw58
 have hbel65 := hbel56.drew.trans (Below.mono hgw58 hbel56.drew.size)
 have D66 := Hd hn_
 clear E52 E53 E54 E55 D57 hbel56 hn_ hz_ hgw58
 as_aux_lemma =>
 go_wp2_with fail
 as_aux_lemma =>
 refine wp_region_G (fun w_ => Blk w_ G51 60 (natsV .u64 fu) ∧ Blk w_ G59 60 (natsV .u64 fv) ∧ Blk w_ G4 32 (pv lx ly false)) 13 (by kernel_rfl) ⟨E64.out.drew, D66.out.drew, E60.out.drew⟩ ?_
 refine tk gS3 0 rfl (lg' (fun _ hS_ => blk_all (hS_.1)) Try.underlying60 (isc L_fu.out)) ?_
 try simp only [Act.put, zq]
 refine tk gS3 1 rfl (cg' Try.func36 (fun W_ _ => Hc10.out W_)) ?_
 try simp only [Act.put, zq]
 refine tk gS3 2 rfl (cg' Try.func8 (fun W_ _ => Hc11.out W_)) ?_
 try simp only [Act.put, zq]
 refine tk gS3 3 rfl (lg' (fun _ hS_ => blk_all (hS_.2.1)) Try.underlying60 (isc L_fv.out)) ?_
 try simp only [Act.put, zq]
 refine tk gS3 4 rfl (cg' Try.func36 (fun W_ _ => Hc12.out W_)) ?_
 try simp only [Act.put, zq]
 refine tk gS3 5 rfl (lg' (fun _ hS_ => blk_all (hS_.2.2)) Try.underlying32 (i43 L_lx.out L_ly.out)) ?_
 try simp only [Act.put, zq]
 refine tk gS3 6 rfl (cg' Try.func19 (fun W_ _ => Hc13.out W_)) ?_
 try simp only [Act.put, zq]
 refine tkp gS3 7 rfl ?_
 try simp only [Act.put, zq]
 refine tkp gS3 8 rfl ?_
 try simp only [Act.put, zq]
 refine tkp gS3 9 rfl ?_
 try simp only [Act.put, zq]
 refine wpAnyG_alloc (i := 10) gS3 (by kernel_rfl) rfl (allocG (by rfl) rfl _ alloc43) ?_
 intro w67 G68 hgw67 hz_ hn_
 try simp only [Act.put, zq]
 have NG69 := Hd (Nat.ne_of_lt (Nat.lt_of_lt_of_le E64.out.drew.lt hz_))
 have NG70 := Hd (Nat.ne_of_lt (Nat.lt_of_lt_of_le D66.out.drew.lt hz_))
 have NG71 := Hd (Nat.ne_of_lt (Nat.lt_of_lt_of_le E60.out.drew.lt hz_))
 have NE72 := Hd (Nat.ne_of_lt (Nat.lt_of_lt_of_le E60.out.drew.lt hz_))
 have NE73 := Hd (Nat.ne_of_lt (Nat.lt_of_lt_of_le E61.out.drew.lt hz_))
 have NE74 := Hd (Nat.ne_of_lt (Nat.lt_of_lt_of_le E62.out.drew.lt hz_))
 have NE75 := Hd (Nat.ne_of_lt (Nat.lt_of_lt_of_le E63.out.drew.lt hz_))
 have NE76 := Hd (Nat.ne_of_lt (Nat.lt_of_lt_of_le E64.out.drew.lt hz_))
 have NE77 := Hd (Nat.ne_of_lt (Nat.lt_of_lt_of_le D66.out.drew.lt hz_))
 have GE78 := Hd (Nat.le_trans hbel65.drew.size hz_)
 have E79 := dq' E60 hgw67
 have E80 := dq' E61 hgw67
 have E81 := dq' E62 hgw67
 have E82 := dq' E63 hgw67
 have E83 := dq' E64 hgw67
 have E84 := dq' D66 hgw67
 have hbel85 := hbel65.drew.trans (Below.mono hgw67 hbel65.drew.size)
 have D86 := Hd hn_
 clear E60 E61 E62 E63 E64 D66 hbel65 hn_ hz_ hgw67
 refine wpAnyG_store (i := 11) (by kernel_rfl) rfl D86.out (lenEq pz9 (pv_len L_sx.out L_sy.out)) (StoresG.mk (cs := (pv sx sy false)) (by rfl) 32 _ _ rfl rfl rfl (i43 L_sx.out L_sy.out) p1_) (.inr (fun _ hS_ => ⟨hS_.1.row _ (NG69.out), hS_.2.1.row _ (NG70.out), hS_.2.2.row _ (NG71.out)⟩)) ?_
 intro w87 hgw87 hn_
 try simp only [Act.put, zq]
 have E88 := Hd (E79.out.grown hgw87 (fun e => NE72.out (Option.some.inj e)))
 have E89 := Hd (E80.out.grown hgw87 (fun e => NE73.out (Option.some.inj e)))
 have E90 := Hd (E81.out.grown hgw87 (fun e => NE74.out (Option.some.inj e)))
 have E91 := Hd (E82.out.grown hgw87 (fun e => NE75.out (Option.some.inj e)))
 have E92 := Hd (E83.out.grown hgw87 (fun e => NE76.out (Option.some.inj e)))
 have E93 := Hd (E84.out.grown hgw87 (fun e => NE77.out (Option.some.inj e)))
 have D94 := Hd hn_
 have hbel95 := belStore hbel85 hgw87 (GE78.out)
 clear E79 E80 E81 E82 E83 E84 hn_ D86 hgw87
 refine tkp gS3 12 rfl ?_
 try simp only [Act.put, zq]
 refine wpAnyG_done (by kernel_rfl) ?_ _
 intro w96 hgw96
 try simp only [Act.put, zq]
 have C97 := gq' E88 hgw96
 have C98 := gq' E89 hgw96
 have C99 := gq' E90 hgw96
 have C100 := gq' E91 hgw96
 have C101 := gq' E92 hgw96
 have C102 := gq' E93 hgw96
 have C103 := gq' D94 hgw96
 have hbel104 := hbel95.trans (Below.mono hgw96 hbel95.size)
 clear E88 E89 E90 E91 E92 E93 D94 hbel95 hgw96
 as_aux_lemma =>
 clear C97 C99 C100 C101 C102
 go_wp2_with fail
 as_aux_lemma =>
 refine wp_region_G (fun w_ => Blk w_ G68 32 (pv sx sy false) ∧ Blk w_ G8 24 (natsV .u64 lr)) 9 (by kernel_rfl) ⟨C103.out.drew, C98.out.drew⟩ ?_
 refine tkp gS2 0 rfl ?_
 try simp only [Act.put, zq]
 refine tk gS2 1 rfl (worldG (by rfl) (by intro w_ hS_; have cw := pv_i (hS_.1) L_sx.out L_sy.out; go_simp; first | done | with_reducible rfl)) ?_
 try simp only [Act.put, zq]
 refine tkp gS2 2 rfl ?_
 try simp only [Act.put, zq]
 refine tkp gS2 3 rfl ?_
 try simp only [Act.put, zq]
 refine tk gS2 4 rfl (lg' (fun _ hS_ => pv_x (hS_.1)) Try.underlying24 (i24 L_sx.out)) ?_
 try simp only [Act.put, zq]
 refine tk gS2 5 rfl (cg' Try.func24 (fun W_ _ => Hc14.out W_)) ?_
 try simp only [Act.put, zq]
 refine tk gS2 6 rfl (lg' (fun _ hS_ => blk_all (hS_.2)) Try.underlying24 (i24 L_lr.out)) ?_
 try simp only [Act.put, zq]
 refine tk gS2 7 rfl (pureG (by rfl) (by intro w; have q := QQ.out; go_simp; first | done | with_reducible rfl)) ?_
 try simp only [Act.put, zq]
 refine tkp gS2 8 rfl ?_
 try simp only [Act.put, zq]
 refine wpAnyG_done (by kernel_rfl) ?_ _
 intro w105 hgw105
 try simp only [Act.put, zq]
 have E106 := dq' C98 hgw105
 have E107 := dq' C103 hgw105
 have hbel108 := hbel104.drew.trans (Below.mono hgw105 hbel104.drew.size)
 clear C98 C103 hbel104 hgw105
 as_aux_lemma =>
 go_wp2_with fail
 go_ret
 exact ⟨rfl, hbel108⟩
theorem wver_ok {lx ly lr ls fs fw lz fz fu fr fv lu gx gy lv sx sy lq : List Nat} {A1 A2 A3 : Option Addr} {n1 d1 n2 d2 n3 d3 : Nat} (w : World) (hlx : lx.length = 4) (hly : ly.length = 4) (hlr : lr.length = 4) (hls : ls.length = 4) (hfs : fs.length = 4) (hfw : fw.length = 4) (hlz : lz.length = 4) (hfz : fz.length = 4) (hfu : fu.length = 4) (hfr : fr.length = 4) (hfv : fv.length = 4) (hlu : lu.length = 4) (hgx : gx.length = 4) (hgy : gy.length = 4) (hlv : lv.length = 4) (hsx : sx.length = 4) (hsy : sy.length = 4) (hlq : lq.length = 4)
   (hq : lq = lr)
   (c1 : ∀ W, Below w.heap.size w W → Calls Try.prog 31 #[.slice A1 n1 d1] W fun e w' => e = .returned (.tuple #[.agg (pv lx ly false).toArray, .int .i64 0]) ∧ Below W.heap.size W w')
   (c2 : ∀ W, Below w.heap.size w W → Calls Try.prog 32 #[.slice A3 n3 d3] W fun e w' => e = .returned (.tuple #[.agg (natsV .u64 lr).toArray, .agg (natsV .u64 ls).toArray, .int .i64 0]) ∧ Below W.heap.size W w')
   (c3 : Ans 33 #[.agg (natsV .u64 ls).toArray] (.agg (natsV .u64 fs).toArray))
   (c4 : Ans 34 #[.agg (natsV .u64 fs).toArray] (.agg (natsV .u64 fw).toArray))
   (c5 : ∀ W, Below w.heap.size w W → Calls Try.prog 11 #[.slice A2 n2 d2] W fun e w' => e = .returned (.agg (natsV .u64 lz).toArray) ∧ Below W.heap.size W w')
   (c6 : Ans 33 #[.agg (natsV .u64 lz).toArray] (.agg (natsV .u64 fz).toArray))
   (c7 : Ans 35 #[.agg (natsV .u64 fz).toArray, .agg (natsV .u64 fw).toArray] (.agg (natsV .u64 fu).toArray))
   (c8 : Ans 33 #[.agg (natsV .u64 lr).toArray] (.agg (natsV .u64 fr).toArray))
   (c9 : Ans 35 #[.agg (natsV .u64 fr).toArray, .agg (natsV .u64 fw).toArray] (.agg (natsV .u64 fv).toArray))
   (c10 : Ans 36 #[.agg (natsV .u64 fu).toArray] (.agg (natsV .u64 lu).toArray))
   (c11 : Ans 8 #[] (.agg (pv gx gy false).toArray))
   (c12 : Ans 36 #[.agg (natsV .u64 fv).toArray] (.agg (natsV .u64 lv).toArray))
   (c13 : Ans 19 #[.agg (natsV .u64 lu).toArray, .agg (pv gx gy false).toArray, .agg (natsV .u64 lv).toArray, .agg (pv lx ly false).toArray] (.tuple #[.agg (pv sx sy false).toArray, .int .i64 0]))
   (c14 : Ans 24 #[.agg (natsV .u64 sx).toArray] (.agg (natsV .u64 lq).toArray)) :
   Calls Try.prog 16 #[.slice A1 n1 d1, .slice A2 n2 d2, .slice A3 n3 d3] w fun e w' => e = .returned (.int .i64 0) ∧ Below w.heap.size w w' := by
 have L_lx := Hd hlx
 have L_ly := Hd hly
 have L_lr := Hd hlr
 have L_ls := Hd hls
 have L_fs := Hd hfs
 have L_fw := Hd hfw
 have L_lz := Hd hlz
 have L_fz := Hd hfz
 have L_fu := Hd hfu
 have L_fr := Hd hfr
 have L_fv := Hd hfv
 have L_lu := Hd hlu
 have L_gx := Hd hgx
 have L_gy := Hd hgy
 have L_lv := Hd hlv
 have L_sx := Hd hsx
 have L_sy := Hd hsy
 have L_lq := Hd hlq
 have Hc1 := Hd c1
 have Hc2 := Hd c2
 have Hc3 := Hd c3
 have Hc4 := Hd c4
 have Hc5 := Hd c5
 have Hc6 := Hd c6
 have Hc7 := Hd c7
 have Hc8 := Hd c8
 have Hc9 := Hd c9
 have Hc10 := Hd c10
 have Hc11 := Hd c11
 have Hc12 := Hd c12
 have Hc13 := Hd c13
 have Hc14 := Hd c14
 have QQ := Hd (fun w => (neq24 lq lr L_lq.out L_lr.out w).trans (by rw [decide_eq_true hq]))
 have bel_ := (Below.refl w.heap.size w)
 clear hlx hly hlr hls hfs hfw hlz hfz hfu hfr hfv hlu hgx hgy hlv hsx hsy hlq c1 c2 c3 c4 c5 c6 c7 c8 c9 c10 c11 c12 c13 c14 hq
 go_enter Try.func16, Try.ntmps16
 go_wp2_with fail
 refine (Hc1.out _ bel_).mono ?_
 rintro e w1 ⟨rfl, hbw1⟩
 have hbel2 := bel_.trans (Below.mono hbw1 bel_.size)
 clear bel_ hbw1
 go_upto_region 4 with (first | (refine stN rfl 32 (.tmp 7) (.tmp 19) rfl w1 rfl (pv lx ly false) rfl 32 (pv (zeros 4) (zeros 4) false) (i43 L_lx.out L_ly.out) (lenEq pz9 (pv_len L_lx.out L_ly.out)) p1_ ?_; intro w3 hgw3 hnw3; have hbel6 := hbel2.trans (Below.mono hgw3 hbel2.size); clear hbel2; have D5 := Hd hnw3; clear hnw3 hgw3; generalize w1.heap.size = G4 at *))
 try simp only [Act.put, zq]
 as_aux_lemma =>
 refine wp_region_P (fun w_ => Below w.heap.size w w_) 11 (by kernel_rfl) hbel6 ?_
 refine tkp gB0 0 rfl ?_
 try simp only [Act.put, zq]
 refine tk gB0 1 rfl (cg' Try.func32 (fun W_ hS_ => Hc2.out _ hS_)) ?_
 try simp only [Act.put, zq]
 refine tkp gB0 2 rfl ?_
 try simp only [Act.put, zq]
 refine tkp gB0 3 rfl ?_
 try simp only [Act.put, zq]
 refine tkp gB0 4 rfl ?_
 try simp only [Act.put, zq]
 refine tkp gB0 5 rfl ?_
 try simp only [Act.put, zq]
 refine wpAnyG_alloc2 (i := 6) (j := 7) gB0 (by kernel_rfl) (by kernel_rfl) (by kernel_rfl) (by decide) rfl rfl (allocG (by rfl) rfl _ alloc24) (allocG (by rfl) rfl _ alloc24) (fun _ => allocG (by rfl) rfl _ alloc24) (fun _ => allocG (by rfl) rfl _ alloc24) (fun _ _ => rfl) ?_
 intro w7 G8 G9 hgw7 hz_ hz2_ hne_ hn_ hn2_
 try simp only [Act.put, zq]
 have NG10 := Hd (Nat.ne_of_lt (Nat.lt_of_lt_of_le D5.out.lt hz_))
 have NG11 := Hd (Nat.ne_of_lt (Nat.lt_of_lt_of_le D5.out.lt hz2_))
 have GE12 := Hd (Nat.le_trans hbel6.size hz_)
 have GE13 := Hd (Nat.le_trans hbel6.size hz2_)
 have C14 := gq' D5 hgw7
 have hbel15 := hbel6.trans (Below.mono hgw7 hbel6.size)
 clear D5 hbel6 hz_ hz2_ hgw7
 refine wpAnyG_store (i := 8) (by kernel_rfl) rfl hn_ (lz4 L_lr.out) (StoresG.mk (cs := (natsV .u64 lr)) (by rfl) 24 _ _ rfl rfl rfl (i24 L_lr.out) n1') (.inr (fun _ hS_ => below_setRow' hS_ GE12.out _)) ?_
 intro w16 hgw16 hn17
 try simp only [Act.put, zq]
 have E18 := Hd (C14.out.grown hgw16 (fun e => NG10.out (Option.some.inj e)))
 have hn19 := hn2_.grown hgw16 (fun e => hne_.symm (Option.some.inj e))
 have hbel20 := belStore hbel15 hgw16 GE12.out
 clear C14 hn2_ hgw16
 refine wpAnyG_store (i := 9) (by kernel_rfl) rfl hn19 (lz4 L_ls.out) (StoresG.mk (cs := (natsV .u64 ls)) (by rfl) 24 _ _ rfl rfl rfl (i24 L_ls.out) n1') (.inr (fun _ hS_ => below_setRow' hS_ GE13.out _)) ?_
 intro w21 hgw21 hn22
 try simp only [Act.put, zq]
 have E23 := Hd (E18.out.grown hgw21 (fun e => NG11.out (Option.some.inj e)))
 have hn24 := hn17.grown hgw21 (fun e => hne_ (Option.some.inj e))
 have hbel25 := belStore hbel20 hgw21 GE13.out
 have D26 := Hd hn24
 have D27 := Hd hn22
 clear E18 hn17 hgw21 hn24 hn22
 refine tkp gB0 10 rfl ?_
 try simp only [Act.put, zq]
 refine wpAnyG_done (by kernel_rfl) ?_ _
 intro w28 hgw28
 try simp only [Act.put, zq]
 have C29 := gq' E23 hgw28
 have C30 := gq' D26 hgw28
 have C31 := gq' D27 hgw28
 have hbel32 := hbel25.trans (Below.mono hgw28 hbel25.size)
 clear E23 D26 D27 hbel25 hgw28 hne_
 as_aux_lemma =>
 go_wp2_with (first | (refine lm' (blk_all (C31.out)) Try.underlying24 (i24 L_ls.out) ?_))
 refine (Hc3.out _).mono ?_
 rintro e w33 ⟨rfl, hbw33⟩
 have C34 := gq' C29 hbw33
 have C35 := gq' C30 hbw33
 have C36 := gq' C31 hbw33
 have hbel37 := hbel32.trans (Below.mono hbw33 hbel32.size)
 clear C29 C30 C31 hbel32 hbw33
 go_wp2_with fail
 refine (Hc4.out _).mono ?_
 rintro e w38 ⟨rfl, hbw38⟩
 have C39 := gq' C34 hbw38
 have C40 := gq' C35 hbw38
 have C41 := gq' C36 hbw38
 have hbel42 := hbel37.trans (Below.mono hbw38 hbel37.size)
 clear C34 C35 C36 hbel37 hbw38
 go_wp2_with (first | (refine stN rfl 60 (.tmp 11) (.tmp 35) rfl w38 rfl (natsV .u64 fw) rfl 60 (natsV .u64 (zeros 4)) (isc L_fw.out) (lz4 L_fw.out) n1' ?_; intro w43 hgw43 hnw43; have C46 := gq' C39 hgw43; clear C39; have C47 := gq' C40 hgw43; clear C40; have C48 := gq' C41 hgw43; clear C41; have hbel49 := hbel42.trans (Below.mono hgw43 hbel42.size); clear hbel42; have D45 := Hd hnw43; clear hnw43 hgw43; generalize w38.heap.size = G44 at *))
 as_aux_lemma =>
 refine wp_region_G (fun w_ => Blk w_ G44 60 (natsV .u64 fw) ∧ Below w.heap.size w w_) 6 (by kernel_rfl) ⟨D45.out.drew, hbel49.drew⟩ ?_
 refine tkp gB1 0 rfl ?_
 try simp only [Act.put, zq]
 refine tk gB1 1 rfl (cg' Try.func11 (fun W_ hS_ => Hc5.out _ hS_.2)) ?_
 try simp only [Act.put, zq]
 refine tk gB1 2 rfl (cg' Try.func33 (fun W_ hS_ => Hc6.out W_)) ?_
 try simp only [Act.put, zq]
 refine tk gB1 3 rfl (lg' (fun _ hS_ => blk_all (hS_.1)) Try.underlying60 (isc L_fw.out)) ?_
 try simp only [Act.put, zq]
 refine tk gB1 4 rfl (cg' Try.func35 (fun W_ hS_ => Hc7.out W_)) ?_
 try simp only [Act.put, zq]
 refine wpAnyG_def (i := 5) (j := 6) gB1 (by kernel_rfl) (by kernel_rfl) (by kernel_rfl) rfl rfl rfl (allocG (by rfl) rfl _ allocsc) (lz4 L_fu.out) (fun _ => StoresG.mk (cs := (natsV .u64 fu)) (by rfl) 60 _ _ rfl rfl rfl (isc L_fu.out) n1') ?_
 intro w50 G51 hgw50 hz_ hn_
 try simp only [Act.put, zq]
 have E52 := dq' C46 hgw50
 have E53 := dq' C47 hgw50
 have E54 := dq' C48 hgw50
 have E55 := dq' D45 hgw50
 have hbel56 := hbel49.drew.trans (Below.mono hgw50 hbel49.drew.size)
 have D57 := Hd hn_
 clear C46 C47 C48 D45 hbel49 hn_ hz_ hgw50
 as_aux_lemma =>
 go_wp2_with fail
 as_aux_lemma =>
 refine wp_region_G (fun w_ => Blk w_ G8 24 (natsV .u64 lr) ∧ Blk w_ G44 60 (natsV .u64 fw)) 5 (by kernel_rfl) ⟨E53.out.drew, E55.out.drew⟩ ?_
 refine tk gS2 0 rfl (lg' (fun _ hS_ => blk_all (hS_.1)) Try.underlying24 (i24 L_lr.out)) ?_
 try simp only [Act.put, zq]
 refine tk gS2 1 rfl (cg' Try.func33 (fun W_ _ => Hc8.out W_)) ?_
 try simp only [Act.put, zq]
 refine tk gS2 2 rfl (lg' (fun _ hS_ => blk_all (hS_.2)) Try.underlying60 (isc L_fw.out)) ?_
 try simp only [Act.put, zq]
 refine tk gS2 3 rfl (cg' Try.func35 (fun W_ _ => Hc9.out W_)) ?_
 try simp only [Act.put, zq]
 refine wpAnyG_def (i := 4) (j := 5) gS2 (by kernel_rfl) (by kernel_rfl) (by kernel_rfl) rfl rfl rfl (allocG (by rfl) rfl _ allocsc) (lz4 L_fv.out) (fun _ => StoresG.mk (cs := (natsV .u64 fv)) (by rfl) 60 _ _ rfl rfl rfl (isc L_fv.out) n1') ?_
 intro w58 G59 hgw58 hz_ hn_
 try simp only [Act.put, zq]
 have E60 := dq' E52 hgw58
 have E61 := dq' E53 hgw58
 have E62 := dq' E54 hgw58
 have E63 := dq' E55 hgw58
 have E64 := dq' D57 hgw58
 have hbel65 := hbel56.drew.trans (Below.mono hgw58 hbel56.drew.size)
 have D66 := Hd hn_
 clear E52 E53 E54 E55 D57 hbel56 hn_ hz_ hgw58
 as_aux_lemma =>
 go_wp2_with fail
 as_aux_lemma =>
 refine wp_region_G (fun w_ => Blk w_ G51 60 (natsV .u64 fu) ∧ Blk w_ G59 60 (natsV .u64 fv) ∧ Blk w_ G4 32 (pv lx ly false)) 13 (by kernel_rfl) ⟨E64.out.drew, D66.out.drew, E60.out.drew⟩ ?_
 refine tk gS3 0 rfl (lg' (fun _ hS_ => blk_all (hS_.1)) Try.underlying60 (isc L_fu.out)) ?_
 try simp only [Act.put, zq]
 refine tk gS3 1 rfl (cg' Try.func36 (fun W_ _ => Hc10.out W_)) ?_
 try simp only [Act.put, zq]
 refine tk gS3 2 rfl (cg' Try.func8 (fun W_ _ => Hc11.out W_)) ?_
 try simp only [Act.put, zq]
 refine tk gS3 3 rfl (lg' (fun _ hS_ => blk_all (hS_.2.1)) Try.underlying60 (isc L_fv.out)) ?_
 try simp only [Act.put, zq]
 refine tk gS3 4 rfl (cg' Try.func36 (fun W_ _ => Hc12.out W_)) ?_
 try simp only [Act.put, zq]
 refine tk gS3 5 rfl (lg' (fun _ hS_ => blk_all (hS_.2.2)) Try.underlying32 (i43 L_lx.out L_ly.out)) ?_
 try simp only [Act.put, zq]
 refine tk gS3 6 rfl (cg' Try.func19 (fun W_ _ => Hc13.out W_)) ?_
 try simp only [Act.put, zq]
 refine tkp gS3 7 rfl ?_
 try simp only [Act.put, zq]
 refine tkp gS3 8 rfl ?_
 try simp only [Act.put, zq]
 refine tkp gS3 9 rfl ?_
 try simp only [Act.put, zq]
 refine wpAnyG_alloc (i := 10) gS3 (by kernel_rfl) rfl (allocG (by rfl) rfl _ alloc43) ?_
 intro w67 G68 hgw67 hz_ hn_
 try simp only [Act.put, zq]
 have NG69 := Hd (Nat.ne_of_lt (Nat.lt_of_lt_of_le E64.out.drew.lt hz_))
 have NG70 := Hd (Nat.ne_of_lt (Nat.lt_of_lt_of_le D66.out.drew.lt hz_))
 have NG71 := Hd (Nat.ne_of_lt (Nat.lt_of_lt_of_le E60.out.drew.lt hz_))
 have NE72 := Hd (Nat.ne_of_lt (Nat.lt_of_lt_of_le E60.out.drew.lt hz_))
 have NE73 := Hd (Nat.ne_of_lt (Nat.lt_of_lt_of_le E61.out.drew.lt hz_))
 have NE74 := Hd (Nat.ne_of_lt (Nat.lt_of_lt_of_le E62.out.drew.lt hz_))
 have NE75 := Hd (Nat.ne_of_lt (Nat.lt_of_lt_of_le E63.out.drew.lt hz_))
 have NE76 := Hd (Nat.ne_of_lt (Nat.lt_of_lt_of_le E64.out.drew.lt hz_))
 have NE77 := Hd (Nat.ne_of_lt (Nat.lt_of_lt_of_le D66.out.drew.lt hz_))
 have GE78 := Hd (Nat.le_trans hbel65.drew.size hz_)
 have E79 := dq' E60 hgw67
 have E80 := dq' E61 hgw67
 have E81 := dq' E62 hgw67
 have E82 := dq' E63 hgw67
 have E83 := dq' E64 hgw67
 have E84 := dq' D66 hgw67
 have hbel85 := hbel65.drew.trans (Below.mono hgw67 hbel65.drew.size)
 have D86 := Hd hn_
 clear E60 E61 E62 E63 E64 D66 hbel65 hn_ hz_ hgw67
 refine wpAnyG_store (i := 11) (by kernel_rfl) rfl D86.out (lenEq pz9 (pv_len L_sx.out L_sy.out)) (StoresG.mk (cs := (pv sx sy false)) (by rfl) 32 _ _ rfl rfl rfl (i43 L_sx.out L_sy.out) p1_) (.inr (fun _ hS_ => ⟨hS_.1.row _ (NG69.out), hS_.2.1.row _ (NG70.out), hS_.2.2.row _ (NG71.out)⟩)) ?_
 intro w87 hgw87 hn_
 try simp only [Act.put, zq]
 have E88 := Hd (E79.out.grown hgw87 (fun e => NE72.out (Option.some.inj e)))
 have E89 := Hd (E80.out.grown hgw87 (fun e => NE73.out (Option.some.inj e)))
 have E90 := Hd (E81.out.grown hgw87 (fun e => NE74.out (Option.some.inj e)))
 have E91 := Hd (E82.out.grown hgw87 (fun e => NE75.out (Option.some.inj e)))
 have E92 := Hd (E83.out.grown hgw87 (fun e => NE76.out (Option.some.inj e)))
 have E93 := Hd (E84.out.grown hgw87 (fun e => NE77.out (Option.some.inj e)))
 have D94 := Hd hn_
 have hbel95 := belStore hbel85 hgw87 (GE78.out)
 clear E79 E80 E81 E82 E83 E84 hn_ D86 hgw87
 refine tkp gS3 12 rfl ?_
 try simp only [Act.put, zq]
 refine wpAnyG_done (by kernel_rfl) ?_ _
 intro w96 hgw96
 try simp only [Act.put, zq]
 have C97 := gq' E88 hgw96
 have C98 := gq' E89 hgw96
 have C99 := gq' E90 hgw96
 have C100 := gq' E91 hgw96
 have C101 := gq' E92 hgw96
 have C102 := gq' E93 hgw96
 have C103 := gq' D94 hgw96
 have hbel104 := hbel95.trans (Below.mono hgw96 hbel95.size)
 clear E88 E89 E90 E91 E92 E93 D94 hbel95 hgw96
 as_aux_lemma =>
 clear C97 C99 C100 C101 C102
 go_wp2_with fail
 as_aux_lemma =>
 refine wp_region_G (fun w_ => Blk w_ G68 32 (pv sx sy false) ∧ Blk w_ G8 24 (natsV .u64 lr)) 9 (by kernel_rfl) ⟨C103.out.drew, C98.out.drew⟩ ?_
 refine tkp gS2 0 rfl ?_
 try simp only [Act.put, zq]
 refine tk gS2 1 rfl (worldG (by rfl) (by intro w_ hS_; have cw := pv_i (hS_.1) L_sx.out L_sy.out; go_simp; first | done | with_reducible rfl)) ?_
 try simp only [Act.put, zq]
 refine tkp gS2 2 rfl ?_
 try simp only [Act.put, zq]
 refine tkp gS2 3 rfl ?_
 try simp only [Act.put, zq]
 refine tk gS2 4 rfl (lg' (fun _ hS_ => pv_x (hS_.1)) Try.underlying24 (i24 L_sx.out)) ?_
 try simp only [Act.put, zq]
 refine tk gS2 5 rfl (cg' Try.func24 (fun W_ _ => Hc14.out W_)) ?_
 try simp only [Act.put, zq]
 refine tk gS2 6 rfl (lg' (fun _ hS_ => blk_all (hS_.2)) Try.underlying24 (i24 L_lr.out)) ?_
 try simp only [Act.put, zq]
 refine tk gS2 7 rfl (pureG (by rfl) (by intro w; have q := QQ.out; go_simp; first | done | with_reducible rfl)) ?_
 try simp only [Act.put, zq]
 refine tkp gS2 8 rfl ?_
 try simp only [Act.put, zq]
 refine wpAnyG_done (by kernel_rfl) ?_ _
 intro w105 hgw105
 try simp only [Act.put, zq]
 have E106 := dq' C98 hgw105
 have E107 := dq' C103 hgw105
 have hbel108 := hbel104.drew.trans (Below.mono hgw105 hbel104.drew.size)
 clear C98 C103 hbel104 hgw105
 as_aux_lemma =>
 go_wp2_with fail
 go_ret
 exact ⟨rfl, hbel108⟩
end Go.Proofs.Ytdkkombpkojjaaa
