/- Parts of proofs of statements, each text behind those that it stands on. No condition of its own. -/
import Derived.Below
import Derived.ChangeOld
import Derived.OpenShut
import Derived.ShutString
import Derived.SizedLaws
import Derived.Test.YtdkkombpkojjaaaGreatRows
import Derived.Test.YtdkkombpkojjaaaGreatP33
namespace Go.Proofs.YtdkkombpkojjaaaGreat
set_option maxRecDepth 100000
set_option maxHeartbeats 3200000
open Go.RowKit
set_option linter.unusedVariables false
set_option linter.unusedSimpArgs false
theorem wparts_ok {lx ly lr ls lz : List Nat} {A1 A2 A3 : Option Addr} {n1 d1 n2 d2 n3 d3 : Nat} {es : Int} (w : World) (hlx : lx.length = 4) (hly : ly.length = 4) (hlr : lr.length = 4) (hls : ls.length = 4) (hlz : lz.length = 4)
   (c1 : Ans 6 #[] (.bool true))
   (c2 : ∀ W, Below w.heap.size w W → Calls Tryz.prog 7 #[.slice A1 n1 d1] W fun e w' => e = .returned (.tuple #[.agg (pv lx ly false).toArray, .int .i64 0]) ∧ Below W.heap.size W w')
   (c3 : ∀ W, Below w.heap.size w W → Calls Tryz.prog 8 #[.slice A1 n1 d1] W fun e w' => e = .returned (.tuple #[.agg (pv lx ly false).toArray, .bool true]) ∧ Below W.heap.size W w')
   (c4 : ∀ W, Below w.heap.size w W → Calls Tryz.prog 9 #[.slice A2 n2 d2] W fun e w' => e = .returned (.tuple #[.agg (natsV .u64 lr).toArray, .agg (natsV .u64 ls).toArray, .int .i64 es]) ∧ Below W.heap.size W w')
   (c5 : ∀ W, Below w.heap.size w W → Calls Tryz.prog 10 #[.slice A2 n2 d2] W fun e w' => e = .returned (.tuple #[.agg (natsV .u64 lr).toArray, .agg (natsV .u64 ls).toArray, .int .i64 es]) ∧ Below W.heap.size W w')
   (c6 : ∀ W, Below w.heap.size w W → Calls Tryz.prog 11 #[.slice A3 n3 d3] W fun e w' => e = .returned (.agg (natsV .u64 lz).toArray) ∧ Below W.heap.size W w')
   (c7 : ∀ W, Below w.heap.size w W → Calls Tryz.prog 12 #[.slice A3 n3 d3] W fun e w' => e = .returned (.agg (natsV .u64 lz).toArray) ∧ Below W.heap.size W w') :
   Calls Tryz.prog 3 #[.slice A1 n1 d1, .slice A2 n2 d2, .slice A3 n3 d3] w fun e w' => e = .returned (.bool true) ∧ Below w.heap.size w w' := by
 have L_lx := Hd hlx
 have L_ly := Hd hly
 have L_lr := Hd hlr
 have L_ls := Hd hls
 have L_lz := Hd hlz
 have Hc1 := Hd c1
 have Hc2 := Hd c2
 have Hc3 := Hd c3
 have Hc4 := Hd c4
 have Hc5 := Hd c5
 have Hc6 := Hd c6
 have Hc7 := Hd c7
 have QP := Hd (fun w => (eql43 lx ly lx ly false false L_lx.out L_ly.out L_lx.out L_ly.out w).trans (by rw [decide_eq_true ⟨rfl, rfl, rfl⟩]))
 have QR := Hd (fun w => (eql24 lr lr L_lr.out L_lr.out w).trans (by rw [decide_eq_true rfl]))
 have QS := Hd (fun w => (eql24 ls ls L_ls.out L_ls.out w).trans (by rw [decide_eq_true rfl]))
 have QZ := Hd (fun w => (eql24 lz lz L_lz.out L_lz.out w).trans (by rw [decide_eq_true rfl]))
 clear hlx hly hlr hls hlz c1 c2 c3 c4 c5 c6 c7
 have hee : (es == es) = true := beq_self_eq_true es
 have bel_ := Below.refl w.heap.size w
 go_enter Tryz.func3, Tryz.ntmps3
 go_wp2_with fail
 refine (Hc1.out _).mono ?_
 rintro e w1 ⟨rfl, hbw1⟩
 have hbel2 := bel_.trans (Below.mono hbw1 bel_.size)
 clear bel_ hbw1
 go_wp2_with fail
 refine (Hc2.out _ hbel2).mono ?_
 rintro e w3 ⟨rfl, hbw3⟩
 have hbel4 := hbel2.trans (Below.mono hbw3 hbel2.size)
 clear hbel2 hbw3
 go_wp2_with (first | (refine stN rfl 28 (.tmp 8) (.tmp 23) rfl w3 rfl (pv lx ly false) rfl 28 (pv (zeros 4) (zeros 4) false) (i43 L_lx.out L_ly.out) (lenEq pz9 (pv_len L_lx.out L_ly.out)) p1_ ?_; intro w5 hgw5 hnw5; have hbel8 := hbel4.trans (Below.mono hgw5 hbel4.size); clear hbel4; have D7 := Hd hnw5; clear hnw5 hgw5; generalize w3.heap.size = G6 at *))
 refine (Hc3.out _ hbel8).mono ?_
 rintro e w9 ⟨rfl, hbw9⟩
 have C10 := gq' D7 hbw9
 have hbel11 := hbel8.trans (Below.mono hbw9 hbel8.size)
 clear D7 hbel8 hbw9
 go_upto_region 4 with (first | (refine stN rfl 28 (.tmp 10) (.tmp 28) rfl w9 rfl (pv lx ly false) rfl 28 (pv (zeros 4) (zeros 4) false) (i43 L_lx.out L_ly.out) (lenEq pz9 (pv_len L_lx.out L_ly.out)) p1_ ?_; intro w12 hgw12 hnw12; have C15 := gq' C10 hgw12; clear C10; have hbel16 := hbel11.trans (Below.mono hgw12 hbel11.size); clear hbel11; have D14 := Hd hnw12; clear hnw12 hgw12; generalize w9.heap.size = G13 at *))
 try simp only [Act.put, zq]
 as_aux_lemma =>
 refine wp_region_P (fun w_ => Below w.heap.size w w_) 11 (by kernel_rfl) hbel16 ?_
 refine tkp gB0 0 rfl ?_
 try simp only [Act.put, zq]
 refine tk gB0 1 rfl (cg' Tryz.func9 (fun W_ hS_ => Hc4.out _ hS_)) ?_
 try simp only [Act.put, zq]
 refine tkp gB0 2 rfl ?_
 try simp only [Act.put, zq]
 refine tkp gB0 3 rfl ?_
 try simp only [Act.put, zq]
 refine tkp gB0 4 rfl ?_
 try simp only [Act.put, zq]
 refine tkp gB0 5 rfl ?_
 try simp only [Act.put, zq]
 refine wpAnyG_alloc2 (i := 6) (j := 7) gB0 (by kernel_rfl) (by kernel_rfl) (by kernel_rfl) (by decide) rfl rfl (allocG (by rfl) rfl _ alloc24) (allocG (by rfl) rfl _ alloc24) (fun _ => allocG (by rfl) rfl _ alloc24) (fun _ => allocG (by rfl) rfl _ alloc24) (fun _ _ => rfl) ?_
 intro w17 G18 G19 hgw17 hz_ hz2_ hne_ hn_ hn2_
 try simp only [Act.put, zq]
 have NG20 := Hd (Nat.ne_of_lt (Nat.lt_of_lt_of_le C15.out.lt hz_))
 have NG22 := Hd (Nat.ne_of_lt (Nat.lt_of_lt_of_le C15.out.lt hz2_))
 have NG21 := Hd (Nat.ne_of_lt (Nat.lt_of_lt_of_le D14.out.lt hz_))
 have NG23 := Hd (Nat.ne_of_lt (Nat.lt_of_lt_of_le D14.out.lt hz2_))
 have GE24 := Hd (Nat.le_trans hbel16.size hz_)
 have GE25 := Hd (Nat.le_trans hbel16.size hz2_)
 have C26 := gq' C15 hgw17
 have C27 := gq' D14 hgw17
 have hbel28 := hbel16.trans (Below.mono hgw17 hbel16.size)
 clear C15 D14 hbel16 hz_ hz2_ hgw17
 refine wpAnyG_store (i := 8) (by kernel_rfl) rfl hn_ (lz4 L_lr.out) (StoresG.mk (cs := (natsV .u64 lr)) (by rfl) 26 _ _ rfl rfl rfl (i24 L_lr.out) n1') (.inr (fun _ hS_ => below_setRow' hS_ GE24.out _)) ?_
 intro w29 hgw29 hn30
 try simp only [Act.put, zq]
 have E31 := Hd (C26.out.grown hgw29 (fun e => NG20.out (Option.some.inj e)))
 have E32 := Hd (C27.out.grown hgw29 (fun e => NG21.out (Option.some.inj e)))
 have hn33 := hn2_.grown hgw29 (fun e => hne_.symm (Option.some.inj e))
 have hbel34 := belStore hbel28 hgw29 GE24.out
 clear C26 C27 hn2_ hgw29
 refine wpAnyG_store (i := 9) (by kernel_rfl) rfl hn33 (lz4 L_ls.out) (StoresG.mk (cs := (natsV .u64 ls)) (by rfl) 26 _ _ rfl rfl rfl (i24 L_ls.out) n1') (.inr (fun _ hS_ => below_setRow' hS_ GE25.out _)) ?_
 intro w35 hgw35 hn36
 try simp only [Act.put, zq]
 have E37 := Hd (E31.out.grown hgw35 (fun e => NG22.out (Option.some.inj e)))
 have E38 := Hd (E32.out.grown hgw35 (fun e => NG23.out (Option.some.inj e)))
 have hn39 := hn30.grown hgw35 (fun e => hne_ (Option.some.inj e))
 have hbel40 := belStore hbel34 hgw35 GE25.out
 have D41 := Hd hn39
 have D42 := Hd hn36
 clear E31 E32 hn30 hgw35 hn39 hn36
 refine tkp gB0 10 rfl ?_
 try simp only [Act.put, zq]
 refine wpAnyG_done (by kernel_rfl) ?_ _
 intro w43 hgw43
 try simp only [Act.put, zq]
 have C44 := gq' E37 hgw43
 have C45 := gq' E38 hgw43
 have C46 := gq' D41 hgw43
 have C47 := gq' D42 hgw43
 have hbel48 := hbel40.trans (Below.mono hgw43 hbel40.size)
 clear E37 E38 D41 D42 hbel40 hgw43 hne_
 as_aux_lemma =>
 go_upto_region 5 with (fail)
 try simp only [Act.put, zq]
 as_aux_lemma =>
 refine wp_region_P (fun w_ => Below w.heap.size w w_) 11 (by kernel_rfl) hbel48 ?_
 refine tkp gB0 0 rfl ?_
 try simp only [Act.put, zq]
 refine tk gB0 1 rfl (cg' Tryz.func10 (fun W_ hS_ => Hc5.out _ hS_)) ?_
 try simp only [Act.put, zq]
 refine tkp gB0 2 rfl ?_
 try simp only [Act.put, zq]
 refine tkp gB0 3 rfl ?_
 try simp only [Act.put, zq]
 refine tkp gB0 4 rfl ?_
 try simp only [Act.put, zq]
 refine tkp gB0 5 rfl ?_
 try simp only [Act.put, zq]
 refine wpAnyG_alloc2 (i := 6) (j := 7) gB0 (by kernel_rfl) (by kernel_rfl) (by kernel_rfl) (by decide) rfl rfl (allocG (by rfl) rfl _ alloc24) (allocG (by rfl) rfl _ alloc24) (fun _ => allocG (by rfl) rfl _ alloc24) (fun _ => allocG (by rfl) rfl _ alloc24) (fun _ _ => rfl) ?_
 intro w49 G50 G51 hgw49 hz_ hz2_ hne_ hn_ hn2_
 try simp only [Act.put, zq]
 have NG52 := Hd (Nat.ne_of_lt (Nat.lt_of_lt_of_le C44.out.lt hz_))
 have NG56 := Hd (Nat.ne_of_lt (Nat.lt_of_lt_of_le C44.out.lt hz2_))
 have NG53 := Hd (Nat.ne_of_lt (Nat.lt_of_lt_of_le C45.out.lt hz_))
 have NG57 := Hd (Nat.ne_of_lt (Nat.lt_of_lt_of_le C45.out.lt hz2_))
 have NG54 := Hd (Nat.ne_of_lt (Nat.lt_of_lt_of_le C46.out.lt hz_))
 have NG58 := Hd (Nat.ne_of_lt (Nat.lt_of_lt_of_le C46.out.lt hz2_))
 have NG55 := Hd (Nat.ne_of_lt (Nat.lt_of_lt_of_le C47.out.lt hz_))
 have NG59 := Hd (Nat.ne_of_lt (Nat.lt_of_lt_of_le C47.out.lt hz2_))
 have GE60 := Hd (Nat.le_trans hbel48.size hz_)
 have GE61 := Hd (Nat.le_trans hbel48.size hz2_)
 have C62 := gq' C44 hgw49
 have C63 := gq' C45 hgw49
 have C64 := gq' C46 hgw49
 have C65 := gq' C47 hgw49
 have hbel66 := hbel48.trans (Below.mono hgw49 hbel48.size)
 clear C44 C45 C46 C47 hbel48 hz_ hz2_ hgw49
 refine wpAnyG_store (i := 8) (by kernel_rfl) rfl hn_ (lz4 L_lr.out) (StoresG.mk (cs := (natsV .u64 lr)) (by rfl) 26 _ _ rfl rfl rfl (i24 L_lr.out) n1') (.inr (fun _ hS_ => below_setRow' hS_ GE60.out _)) ?_
 intro w67 hgw67 hn68
 try simp only [Act.put, zq]
 have E69 := Hd (C62.out.grown hgw67 (fun e => NG52.out (Option.some.inj e)))
 have E70 := Hd (C63.out.grown hgw67 (fun e => NG53.out (Option.some.inj e)))
 have E71 := Hd (C64.out.grown hgw67 (fun e => NG54.out (Option.some.inj e)))
 have E72 := Hd (C65.out.grown hgw67 (fun e => NG55.out (Option.some.inj e)))
 have hn73 := hn2_.grown hgw67 (fun e => hne_.symm (Option.some.inj e))
 have hbel74 := belStore hbel66 hgw67 GE60.out
 clear C62 C63 C64 C65 hn2_ hgw67
 refine wpAnyG_store (i := 9) (by kernel_rfl) rfl hn73 (lz4 L_ls.out) (StoresG.mk (cs := (natsV .u64 ls)) (by rfl) 26 _ _ rfl rfl rfl (i24 L_ls.out) n1') (.inr (fun _ hS_ => below_setRow' hS_ GE61.out _)) ?_
 intro w75 hgw75 hn76
 try simp only [Act.put, zq]
 have E77 := Hd (E69.out.grown hgw75 (fun e => NG56.out (Option.some.inj e)))
 have E78 := Hd (E70.out.grown hgw75 (fun e => NG57.out (Option.some.inj e)))
 have E79 := Hd (E71.out.grown hgw75 (fun e => NG58.out (Option.some.inj e)))
 have E80 := Hd (E72.out.grown hgw75 (fun e => NG59.out (Option.some.inj e)))
 have hn81 := hn68.grown hgw75 (fun e => hne_ (Option.some.inj e))
 have hbel82 := belStore hbel74 hgw75 GE61.out
 have D83 := Hd hn81
 have D84 := Hd hn76
 clear E69 E70 E71 E72 hn68 hgw75 hn81 hn76
 refine tkp gB0 10 rfl ?_
 try simp only [Act.put, zq]
 refine wpAnyG_done (by kernel_rfl) ?_ _
 intro w85 hgw85
 try simp only [Act.put, zq]
 have C86 := gq' E77 hgw85
 have C87 := gq' E78 hgw85
 have C88 := gq' E79 hgw85
 have C89 := gq' E80 hgw85
 have C90 := gq' D83 hgw85
 have C91 := gq' D84 hgw85
 have hbel92 := hbel82.trans (Below.mono hgw85 hbel82.size)
 clear E77 E78 E79 E80 D83 D84 hbel82 hgw85 hne_
 as_aux_lemma =>
 have qp := QP.out
 have qr := QR.out
 have qs := QS.out
 have qz := QZ.out
 go_wp2_with (first | (refine lm' (blk_all (C86.out)) Tryz.underlying28 (i43 L_lx.out L_ly.out) ?_) | (refine lm' (blk_all (C87.out)) Tryz.underlying28 (i43 L_lx.out L_ly.out) ?_) | (refine ldwM 26 (.tmp 12) rfl G18 0 rfl (natsV .u64 lr) _ (blk_all (C88.out)) Tryz.underlying26 rfl (i24 L_lr.out) 4 true rfl 62 rfl rfl ?_) | (refine ldwM 26 (.tmp 15) rfl G50 0 rfl (natsV .u64 lr) _ (blk_all (C90.out)) Tryz.underlying26 rfl (i24 L_lr.out) 4 true rfl 62 rfl rfl ?_) | (refine ldwM 26 (.tmp 13) rfl G19 0 rfl (natsV .u64 ls) _ (blk_all (C89.out)) Tryz.underlying26 rfl (i24 L_ls.out) 9 true rfl 67 rfl rfl ?_) | (refine ldwM 26 (.tmp 16) rfl G51 0 rfl (natsV .u64 ls) _ (blk_all (C91.out)) Tryz.underlying26 rfl (i24 L_ls.out) 9 true rfl 67 rfl rfl ?_))
 refine (Hc6.out _ hbel92).mono ?_
 rintro e w93 ⟨rfl, hbw93⟩
 have C94 := gq' C86 hbw93
 have C95 := gq' C87 hbw93
 have C96 := gq' C88 hbw93
 have C97 := gq' C89 hbw93
 have C98 := gq' C90 hbw93
 have C99 := gq' C91 hbw93
 have hbel100 := hbel92.trans (Below.mono hbw93 hbel92.size)
 clear C86 C87 C88 C89 C90 C91 hbel92 hbw93
 go_wp2_with fail
 refine (Hc7.out _ hbel100).mono ?_
 rintro e w101 ⟨rfl, hbw101⟩
 have C102 := gq' C94 hbw101
 have C103 := gq' C95 hbw101
 have C104 := gq' C96 hbw101
 have C105 := gq' C97 hbw101
 have C106 := gq' C98 hbw101
 have C107 := gq' C99 hbw101
 have hbel108 := hbel100.trans (Below.mono hbw101 hbel100.size)
 clear C94 C95 C96 C97 C98 C99 hbel100 hbw101
 go_wp2_with fail
 go_ret
 exact ⟨rfl, hbel108⟩
theorem wparts_no {lx ly lr ls lz : List Nat} {A1 A2 A3 : Option Addr} {n1 d1 n2 d2 n3 d3 : Nat} {es : Int} (w : World) (hlx : lx.length = 4) (hly : ly.length = 4) (hlr : lr.length = 4) (hls : ls.length = 4) (hlz : lz.length = 4)
   (c1 : Ans 6 #[] (.bool true))
   (c2 : ∀ W, Below w.heap.size w W → Calls Tryz.prog 7 #[.slice A1 n1 d1] W fun e w' => e = .returned (.tuple #[.agg (pv lx ly false).toArray, .int .i64 71]) ∧ Below W.heap.size W w')
   (c3 : ∀ W, Below w.heap.size w W → Calls Tryz.prog 8 #[.slice A1 n1 d1] W fun e w' => e = .returned (.tuple #[.agg (pv lx ly false).toArray, .bool false]) ∧ Below W.heap.size W w')
   (c4 : ∀ W, Below w.heap.size w W → Calls Tryz.prog 9 #[.slice A2 n2 d2] W fun e w' => e = .returned (.tuple #[.agg (natsV .u64 lr).toArray, .agg (natsV .u64 ls).toArray, .int .i64 es]) ∧ Below W.heap.size W w')
   (c5 : ∀ W, Below w.heap.size w W → Calls Tryz.prog 10 #[.slice A2 n2 d2] W fun e w' => e = .returned (.tuple #[.agg (natsV .u64 lr).toArray, .agg (natsV .u64 ls).toArray, .int .i64 es]) ∧ Below W.heap.size W w')
   (c6 : ∀ W, Below w.heap.size w W → Calls Tryz.prog 11 #[.slice A3 n3 d3] W fun e w' => e = .returned (.agg (natsV .u64 lz).toArray) ∧ Below W.heap.size W w')
   (c7 : ∀ W, Below w.heap.size w W → Calls Tryz.prog 12 #[.slice A3 n3 d3] W fun e w' => e = .returned (.agg (natsV .u64 lz).toArray) ∧ Below W.heap.size W w') :
   Calls Tryz.prog 3 #[.slice A1 n1 d1, .slice A2 n2 d2, .slice A3 n3 d3] w fun e w' => e = .returned (.bool true) ∧ Below w.heap.size w w' := by
 have L_lx := Hd hlx
 have L_ly := Hd hly
 have L_lr := Hd hlr
 have L_ls := Hd hls
 have L_lz := Hd hlz
 have Hc1 := Hd c1
 have Hc2 := Hd c2
 have Hc3 := Hd c3
 have Hc4 := Hd c4
 have Hc5 := Hd c5
 have Hc6 := Hd c6
 have Hc7 := Hd c7
 have QP := Hd (fun w => (eql43 lx ly lx ly false false L_lx.out L_ly.out L_lx.out L_ly.out w).trans (by rw [decide_eq_true ⟨rfl, rfl, rfl⟩]))
 have QR := Hd (fun w => (eql24 lr lr L_lr.out L_lr.out w).trans (by rw [decide_eq_true rfl]))
 have QS := Hd (fun w => (eql24 ls ls L_ls.out L_ls.out w).trans (by rw [decide_eq_true rfl]))
 have QZ := Hd (fun w => (eql24 lz lz L_lz.out L_lz.out w).trans (by rw [decide_eq_true rfl]))
 clear hlx hly hlr hls hlz c1 c2 c3 c4 c5 c6 c7
 have hee : (es == es) = true := beq_self_eq_true es
 have bel_ := Below.refl w.heap.size w
 go_enter Tryz.func3, Tryz.ntmps3
 go_wp2_with fail
 refine (Hc1.out _).mono ?_
 rintro e w1 ⟨rfl, hbw1⟩
 have hbel2 := bel_.trans (Below.mono hbw1 bel_.size)
 clear bel_ hbw1
 go_wp2_with fail
 refine (Hc2.out _ hbel2).mono ?_
 rintro e w3 ⟨rfl, hbw3⟩
 have hbel4 := hbel2.trans (Below.mono hbw3 hbel2.size)
 clear hbel2 hbw3
 go_wp2_with (first | (refine stN rfl 28 (.tmp 8) (.tmp 23) rfl w3 rfl (pv lx ly false) rfl 28 (pv (zeros 4) (zeros 4) false) (i43 L_lx.out L_ly.out) (lenEq pz9 (pv_len L_lx.out L_ly.out)) p1_ ?_; intro w5 hgw5 hnw5; have hbel8 := hbel4.trans (Below.mono hgw5 hbel4.size); clear hbel4; have D7 := Hd hnw5; clear hnw5 hgw5; generalize w3.heap.size = G6 at *))
 refine (Hc3.out _ hbel8).mono ?_
 rintro e w9 ⟨rfl, hbw9⟩
 have C10 := gq' D7 hbw9
 have hbel11 := hbel8.trans (Below.mono hbw9 hbel8.size)
 clear D7 hbel8 hbw9
 go_upto_region 4 with (first | (refine stN rfl 28 (.tmp 10) (.tmp 28) rfl w9 rfl (pv lx ly false) rfl 28 (pv (zeros 4) (zeros 4) false) (i43 L_lx.out L_ly.out) (lenEq pz9 (pv_len L_lx.out L_ly.out)) p1_ ?_; intro w12 hgw12 hnw12; have C15 := gq' C10 hgw12; clear C10; have hbel16 := hbel11.trans (Below.mono hgw12 hbel11.size); clear hbel11; have D14 := Hd hnw12; clear hnw12 hgw12; generalize w9.heap.size = G13 at *))
 try simp only [Act.put, zq]
 as_aux_lemma =>
 refine wp_region_P (fun w_ => Below w.heap.size w w_) 11 (by kernel_rfl) hbel16 ?_
 refine tkp gB0 0 rfl ?_
 try simp only [Act.put, zq]
 refine tk gB0 1 rfl (cg' Tryz.func9 (fun W_ hS_ => Hc4.out _ hS_)) ?_
 try simp only [Act.put, zq]
 refine tkp gB0 2 rfl ?_
 try simp only [Act.put, zq]
 refine tkp gB0 3 rfl ?_
 try simp only [Act.put, zq]
 refine tkp gB0 4 rfl ?_
 try simp only [Act.put, zq]
 refine tkp gB0 5 rfl ?_
 try simp only [Act.put, zq]
 refine wpAnyG_alloc2 (i := 6) (j := 7) gB0 (by kernel_rfl) (by kernel_rfl) (by kernel_rfl) (by decide) rfl rfl (allocG (by rfl) rfl _ alloc24) (allocG (by rfl) rfl _ alloc24) (fun _ => allocG (by rfl) rfl _ alloc24) (fun _ => allocG (by rfl) rfl _ alloc24) (fun _ _ => rfl) ?_
 intro w17 G18 G19 hgw17 hz_ hz2_ hne_ hn_ hn2_
 try simp only [Act.put, zq]
 have NG20 := Hd (Nat.ne_of_lt (Nat.lt_of_lt_of_le C15.out.lt hz_))
 have NG22 := Hd (Nat.ne_of_lt (Nat.lt_of_lt_of_le C15.out.lt hz2_))
 have NG21 := Hd (Nat.ne_of_lt (Nat.lt_of_lt_of_le D14.out.lt hz_))
 have NG23 := Hd (Nat.ne_of_lt (Nat.lt_of_lt_of_le D14.out.lt hz2_))
 have GE24 := Hd (Nat.le_trans hbel16.size hz_)
 have GE25 := Hd (Nat.le_trans hbel16.size hz2_)
 have C26 := gq' C15 hgw17
 have C27 := gq' D14 hgw17
 have hbel28 := hbel16.trans (Below.mono hgw17 hbel16.size)
 clear C15 D14 hbel16 hz_ hz2_ hgw17
 refine wpAnyG_store (i := 8) (by kernel_rfl) rfl hn_ (lz4 L_lr.out) (StoresG.mk (cs := (natsV .u64 lr)) (by rfl) 26 _ _ rfl rfl rfl (i24 L_lr.out) n1') (.inr (fun _ hS_ => below_setRow' hS_ GE24.out _)) ?_
 intro w29 hgw29 hn30
 try simp only [Act.put, zq]
 have E31 := Hd (C26.out.grown hgw29 (fun e => NG20.out (Option.some.inj e)))
 have E32 := Hd (C27.out.grown hgw29 (fun e => NG21.out (Option.some.inj e)))
 have hn33 := hn2_.grown hgw29 (fun e => hne_.symm (Option.some.inj e))
 have hbel34 := belStore hbel28 hgw29 GE24.out
 clear C26 C27 hn2_ hgw29
 refine wpAnyG_store (i := 9) (by kernel_rfl) rfl hn33 (lz4 L_ls.out) (StoresG.mk (cs := (natsV .u64 ls)) (by rfl) 26 _ _ rfl rfl rfl (i24 L_ls.out) n1') (.inr (fun _ hS_ => below_setRow' hS_ GE25.out _)) ?_
 intro w35 hgw35 hn36
 try simp only [Act.put, zq]
 have E37 := Hd (E31.out.grown hgw35 (fun e => NG22.out (Option.some.inj e)))
 have E38 := Hd (E32.out.grown hgw35 (fun e => NG23.out (Option.some.inj e)))
 have hn39 := hn30.grown hgw35 (fun e => hne_ (Option.some.inj e))
 have hbel40 := belStore hbel34 hgw35 GE25.out
 have D41 := Hd hn39
 have D42 := Hd hn36
 clear E31 E32 hn30 hgw35 hn39 hn36
 refine tkp gB0 10 rfl ?_
 try simp only [Act.put, zq]
 refine wpAnyG_done (by kernel_rfl) ?_ _
 intro w43 hgw43
 try simp only [Act.put, zq]
 have C44 := gq' E37 hgw43
 have C45 := gq' E38 hgw43
 have C46 := gq' D41 hgw43
 have C47 := gq' D42 hgw43
 have hbel48 := hbel40.trans (Below.mono hgw43 hbel40.size)
 clear E37 E38 D41 D42 hbel40 hgw43 hne_
 as_aux_lemma =>
 go_upto_region 5 with (fail)
 try simp only [Act.put, zq]
 as_aux_lemma =>
 refine wp_region_P (fun w_ => Below w.heap.size w w_) 11 (by kernel_rfl) hbel48 ?_
 refine tkp gB0 0 rfl ?_
 try simp only [Act.put, zq]
 refine tk gB0 1 rfl (cg' Tryz.func10 (fun W_ hS_ => Hc5.out _ hS_)) ?_
 try simp only [Act.put, zq]
 refine tkp gB0 2 rfl ?_
 try simp only [Act.put, zq]
 refine tkp gB0 3 rfl ?_
 try simp only [Act.put, zq]
 refine tkp gB0 4 rfl ?_
 try simp only [Act.put, zq]
 refine tkp gB0 5 rfl ?_
 try simp only [Act.put, zq]
 refine wpAnyG_alloc2 (i := 6) (j := 7) gB0 (by kernel_rfl) (by kernel_rfl) (by kernel_rfl) (by decide) rfl rfl (allocG (by rfl) rfl _ alloc24) (allocG (by rfl) rfl _ alloc24) (fun _ => allocG (by rfl) rfl _ alloc24) (fun _ => allocG (by rfl) rfl _ alloc24) (fun _ _ => rfl) ?_
 intro w49 G50 G51 hgw49 hz_ hz2_ hne_ hn_ hn2_
 try simp only [Act.put, zq]
 have NG52 := Hd (Nat.ne_of_lt (Nat.lt_of_lt_of_le C44.out.lt hz_))
 have NG56 := Hd (Nat.ne_of_lt (Nat.lt_of_lt_of_le C44.out.lt hz2_))
 have NG53 := Hd (Nat.ne_of_lt (Nat.lt_of_lt_of_le C45.out.lt hz_))
 have NG57 := Hd (Nat.ne_of_lt (Nat.lt_of_lt_of_le C45.out.lt hz2_))
 have NG54 := Hd (Nat.ne_of_lt (Nat.lt_of_lt_of_le C46.out.lt hz_))
 have NG58 := Hd (Nat.ne_of_lt (Nat.lt_of_lt_of_le C46.out.lt hz2_))
 have NG55 := Hd (Nat.ne_of_lt (Nat.lt_of_lt_of_le C47.out.lt hz_))
 have NG59 := Hd (Nat.ne_of_lt (Nat.lt_of_lt_of_le C47.out.lt hz2_))
 have GE60 := Hd (Nat.le_trans hbel48.size hz_)
 have GE61 := Hd (Nat.le_trans hbel48.size hz2_)
 have C62 := gq' C44 hgw49
 have C63 := gq' C45 hgw49
 have C64 := gq' C46 hgw49
 have C65 := gq' C47 hgw49
 have hbel66 := hbel48.trans (Below.mono hgw49 hbel48.size)
 clear C44 C45 C46 C47 hbel48 hz_ hz2_ hgw49
 refine wpAnyG_store (i := 8) (by kernel_rfl) rfl hn_ (lz4 L_lr.out) (StoresG.mk (cs := (natsV .u64 lr)) (by rfl) 26 _ _ rfl rfl rfl (i24 L_lr.out) n1') (.inr (fun _ hS_ => below_setRow' hS_ GE60.out _)) ?_
 intro w67 hgw67 hn68
 try simp only [Act.put, zq]
 have E69 := Hd (C62.out.grown hgw67 (fun e => NG52.out (Option.some.inj e)))
 have E70 := Hd (C63.out.grown hgw67 (fun e => NG53.out (Option.some.inj e)))
 have E71 := Hd (C64.out.grown hgw67 (fun e => NG54.out (Option.some.inj e)))
 have E72 := Hd (C65.out.grown hgw67 (fun e => NG55.out (Option.some.inj e)))
 have hn73 := hn2_.grown hgw67 (fun e => hne_.symm (Option.some.inj e))
 have hbel74 := belStore hbel66 hgw67 GE60.out
 clear C62 C63 C64 C65 hn2_ hgw67
 refine wpAnyG_store (i := 9) (by kernel_rfl) rfl hn73 (lz4 L_ls.out) (StoresG.mk (cs := (natsV .u64 ls)) (by rfl) 26 _ _ rfl rfl rfl (i24 L_ls.out) n1') (.inr (fun _ hS_ => below_setRow' hS_ GE61.out _)) ?_
 intro w75 hgw75 hn76
 try simp only [Act.put, zq]
 have E77 := Hd (E69.out.grown hgw75 (fun e => NG56.out (Option.some.inj e)))
 have E78 := Hd (E70.out.grown hgw75 (fun e => NG57.out (Option.some.inj e)))
 have E79 := Hd (E71.out.grown hgw75 (fun e => NG58.out (Option.some.inj e)))
 have E80 := Hd (E72.out.grown hgw75 (fun e => NG59.out (Option.some.inj e)))
 have hn81 := hn68.grown hgw75 (fun e => hne_ (Option.some.inj e))
 have hbel82 := belStore hbel74 hgw75 GE61.out
 have D83 := Hd hn81
 have D84 := Hd hn76
 clear E69 E70 E71 E72 hn68 hgw75 hn81 hn76
 refine tkp gB0 10 rfl ?_
 try simp only [Act.put, zq]
 refine wpAnyG_done (by kernel_rfl) ?_ _
 intro w85 hgw85
 try simp only [Act.put, zq]
 have C86 := gq' E77 hgw85
 have C87 := gq' E78 hgw85
 have C88 := gq' E79 hgw85
 have C89 := gq' E80 hgw85
 have C90 := gq' D83 hgw85
 have C91 := gq' D84 hgw85
 have hbel92 := hbel82.trans (Below.mono hgw85 hbel82.size)
 clear E77 E78 E79 E80 D83 D84 hbel82 hgw85 hne_
 as_aux_lemma =>
 have qp := QP.out
 have qr := QR.out
 have qs := QS.out
 have qz := QZ.out
 go_wp2_with (first | (refine lm' (blk_all (C86.out)) Tryz.underlying28 (i43 L_lx.out L_ly.out) ?_) | (refine lm' (blk_all (C87.out)) Tryz.underlying28 (i43 L_lx.out L_ly.out) ?_) | (refine ldwM 26 (.tmp 12) rfl G18 0 rfl (natsV .u64 lr) _ (blk_all (C88.out)) Tryz.underlying26 rfl (i24 L_lr.out) 4 true rfl 62 rfl rfl ?_) | (refine ldwM 26 (.tmp 15) rfl G50 0 rfl (natsV .u64 lr) _ (blk_all (C90.out)) Tryz.underlying26 rfl (i24 L_lr.out) 4 true rfl 62 rfl rfl ?_) | (refine ldwM 26 (.tmp 13) rfl G19 0 rfl (natsV .u64 ls) _ (blk_all (C89.out)) Tryz.underlying26 rfl (i24 L_ls.out) 9 true rfl 67 rfl rfl ?_) | (refine ldwM 26 (.tmp 16) rfl G51 0 rfl (natsV .u64 ls) _ (blk_all (C91.out)) Tryz.underlying26 rfl (i24 L_ls.out) 9 true rfl 67 rfl rfl ?_))
 refine (Hc6.out _ hbel92).mono ?_
 rintro e w93 ⟨rfl, hbw93⟩
 have C94 := gq' C86 hbw93
 have C95 := gq' C87 hbw93
 have C96 := gq' C88 hbw93
 have C97 := gq' C89 hbw93
 have C98 := gq' C90 hbw93
 have C99 := gq' C91 hbw93
 have hbel100 := hbel92.trans (Below.mono hbw93 hbel92.size)
 clear C86 C87 C88 C89 C90 C91 hbel92 hbw93
 go_wp2_with fail
 refine (Hc7.out _ hbel100).mono ?_
 rintro e w101 ⟨rfl, hbw101⟩
 have C102 := gq' C94 hbw101
 have C103 := gq' C95 hbw101
 have C104 := gq' C96 hbw101
 have C105 := gq' C97 hbw101
 have C106 := gq' C98 hbw101
 have C107 := gq' C99 hbw101
 have hbel108 := hbel100.trans (Below.mono hbw101 hbel100.size)
 clear C94 C95 C96 C97 C98 C99 hbel100 hbw101
 go_wp2_with fail
 go_ret
 exact ⟨rfl, hbel108⟩
theorem parts_any (A1 : Option Addr) (n1 d1 : Nat) (l1 : List Nat) (A2 : Option Addr) (n2 d2 : Nat) (l2 : List Nat) (A3 : Option Addr) (n3 d3 : Nat) (l3 : List Nat) (w : World) (h1 : BIn w A1 n1 d1 l1) (h2 : BIn w A2 n2 d2 l2) (h3 : BIn w A3 n3 d3 l3) :
   Calls Tryz.prog 3 #[.slice A1 n1 d1, .slice A2 n2 d2, .slice A3 n3 d3] w fun e w' => e = .returned (.bool true) ∧ Below w.heap.size w w' := by
 have c1 := fun W hW => k_key (w := W) (h1.below hW)
 have c2 := fun W hW => d_key (w := W) (h1.below hW)
 have c3 := fun W hW => k_split (w := W) (h2.below hW)
 have c4 := fun W hW => d_split (w := W) (h2.below hW)
 have c5 := fun W hW => k_scalar (w := W) (h3.below hW)
 have c6 := fun W hW => d_scalar (w := W) (h3.below hW)
 unfold keyV at c1 c2
 unfold sigV at c3 c4
 by_cases hk : keyOk n1 l1
 · rw [decide_eq_true hk] at c2
   rw [keyA_ok hk] at c1 c2
   exact wparts_ok w (nw_len _) (nw_len _) (wds_len 4 _) (wds_len 4 _) (wds_len 4 _) k_awake7 c1 c2 c3 c4 c5 c6
 · rw [decide_eq_false hk] at c2
   rw [keyA_no hk] at c1 c2
   exact wparts_no w rfl rfl (wds_len 4 _) (wds_len 4 _) (wds_len 4 _) k_awake7 c1 c2 c3 c4 c5 c6
open Go.ChangeShapes Go.WideShapes Go.ChangeAt Go.RowKit
theorem own : ownKnob Tryz.prog.godebug = none := by kernel_rfl
theorem laidOut : laidOutB Tryz.prog = true := by kernel_rfl
theorem u8_bounds {n : Int} (h : (Lit.int .u8 n).wf = true) : 0 ≤ n ∧ n < 256 := by
 have := bounds_u8 h; omega
theorem byteRow_in {H : Type} {enc : TypeId × Value → H} {W : World} {a : Option Addr} {len cap fuel : Nat} {x : DataW H × List MemPlace}
   (h : DataW.trod enc Tryz.prog W 0 (fun _ => true) true fuel 22 [Value.slice a len cap] = some x) : ∃ l, ByteRow W a len l := by
 rcases open_ints Tryz.underlying22 Tryz.underlying5 (by kernel_rfl) h with ⟨hcs, _⟩ | ⟨y, l, c, zs, hcs, _, hl, hm, hz, _, hcell, hwz⟩
 · simp only [List.cons.injEq, Value.slice.injEq, and_true] at hcs
   obtain ⟨rfl, rfl, rfl⟩ := hcs
   exact ⟨[], rfl, Nat.zero_le _, by simp, .inl rfl⟩
 · simp only [List.cons.injEq, Value.slice.injEq, and_true] at hcs
   obtain ⟨rfl, rfl, rfl⟩ := hcs
   simp only [if_true] at hz
   refine ⟨(zs.take len).map Int.toNat, by simp; omega, by omega, ?_, ?_⟩
   · intro n hn
     obtain ⟨z, hz1, rfl⟩ := List.mem_map.1 hn
     have := u8_bounds (hwz z (List.mem_of_mem_take hz1))
     omega
   · by_cases h0 : len = 0
     · exact .inl h0
     right
     obtain ⟨b, off, spot⟩ := y
     have hs := World.cell?_spot (hcell 0 (by omega))
     simp only [Addr.add] at hs
     subst hs
     refine ⟨b, off, rfl, fun i hi => ?_⟩
     have hc := hcell i (by omega)
     have ha : (Addr.mk b off none).add i = Addr.mk b (off + i) none := by
       simp only [Addr.add]; split
       · rename_i h; subst h; rfl
       · rfl
     rw [ha] at hc
     rw [hc]
     have hzi : zs.getD i 0 ∈ zs := by
       rw [List.getD_eq_getElem?_getD, List.getElem?_eq_getElem (by omega)]; exact List.getElem_mem _
     have hb := u8_bounds (hwz _ hzi)
     have e : ((zs.take len).map Int.toNat).getD i 0 = (zs.getD i 0).toNat := by
       simp only [List.getD_eq_getElem?_getD, List.getElem?_map, List.getElem?_take]
       rw [if_pos hi, List.getElem?_eq_getElem (by omega)]; rfl
     rw [e, Int.toNat_of_nonneg hb.1]
theorem bytes5 : Tryz.prog.bytesOf 5 = 1 := by kernel_rfl
theorem bin_in {H : Type} {enc : TypeId × Value → H} {W : World} {v : Value} {fuel : Nat} {x : DataW H × List MemPlace}
   (h : DataW.trod enc Tryz.prog W 0 (fun _ => true) true fuel 22 [v] = some x) (hr : ∀ k ∈ DataW.weights Tryz.prog 22 x.1, k ≤ reachBytes) :
   ∃ a n c l, v = .slice a n c ∧ BIn W a n c l ∧ n ≤ 140737488351232 := by
 rcases open_ints Tryz.underlying22 Tryz.underlying5 (by kernel_rfl) h with ⟨hcs, _⟩ | ⟨y, n, c, zs, hcs, _, hl, hm, hz, hx, hcell, hwz⟩
 · simp only [List.cons.injEq, and_true] at hcs
   subst hcs
   exact ⟨none, 0, 0, [], rfl, ⟨⟨rfl, Nat.zero_le _, by simp, .inl rfl⟩, Nat.le_refl _, Nat.zero_le _, by omega, fun _ => rfl⟩, by omega⟩
 · simp only [List.cons.injEq, and_true] at hcs
   subst hcs
   obtain ⟨l, hrow⟩ := byteRow_in h
   simp only [if_true] at hz
   have hb : c ≤ 140737488351232 := by
     have := hr (zs.length * 1) (by
       rw [hx]
       simp only [DataW.weights, Tryz.underlying22, bytes5]
       refine List.mem_cons.2 (.inl ?_)
       simp [lits]
       omega)
     rw [hz] at this
     simp only [reachBytes] at this
     omega
   exact ⟨some y, n, c, l, rfl, ⟨hrow, hl, hm, by omega, fun h => by cases h⟩, by omega⟩
end Go.Proofs.YtdkkombpkojjaaaGreat
