/- Parts of proofs of statements, each text behind those that it stands on. No condition of its own. -/
import Derived.Test.YtdkkombpkojjaaaGreatC39
namespace Go.Proofs.YtdkkombpkojjaaaGreat
set_option maxRecDepth 100000
set_option maxHeartbeats 3200000
open Go.RowKit
set_option linter.unusedVariables false
set_option linter.unusedSimpArgs false
def SignIs (L : List Nat) (w : World) (e : Ending) (w' : World) : Prop := ∃ g c, e = .returned (.tuple #[.slice (some ⟨g, 0, none⟩) 64 c, .bool true]) ∧ BIn w' (some ⟨g, 0, none⟩) 64 c L ∧ Below w.heap.size w w'
theorem wsign_r0 {ld lk ln gx gy px py lr lz l1 l2 li ls : List Nat} {A : Option Addr} {n c : Nat} {ip : Bool} (w : World) (hld : ld.length = 4) (hlk : lk.length = 4) (hln : ln.length = 4) (hgx : gx.length = 4) (hgy : gy.length = 4) (hpx : px.length = 4) (hpy : py.length = 4) (hlr : lr.length = 4) (hlz : lz.length = 4) (hl1 : l1.length = 4) (hl2 : l2.length = 4) (hli : li.length = 4) (hls : ls.length = 4)
   (z1 : lr = zeros 4)
   (c1 : Ans 17 #[] (.agg (natsV .u64 ln).toArray))
   (c2 : Ans 43 #[] (.agg (pv gx gy false).toArray))
   (c3 : Ans 42 #[.agg (natsV .u64 lk).toArray, .agg (pv gx gy false).toArray] (.agg (pv px py ip).toArray))
   (c4 : Ans 18 #[.agg (natsV .u64 px).toArray, .bool false, .agg (natsV .u64 ln).toArray] (.agg (natsV .u64 lr).toArray))
   (c5 : ∀ W, Below w.heap.size w W → Calls Tryz.prog 12 #[.slice A n c] W fun e w' => e = .returned (.agg (natsV .u64 lz).toArray) ∧ Below W.heap.size W w')
   (c6 : Ans 40 #[.agg (natsV .u64 lr).toArray, .agg (natsV .u64 ld).toArray, .agg (natsV .u64 ln).toArray] (.agg (natsV .u64 l1).toArray))
   (c7 : Ans 45 #[.agg (natsV .u64 lz).toArray, .agg (natsV .u64 l1).toArray, .agg (natsV .u64 ln).toArray] (.agg (natsV .u64 l2).toArray))
   (c8 : Ans 39 #[.agg (natsV .u64 lk).toArray, .agg (natsV .u64 ln).toArray] (.agg (natsV .u64 li).toArray))
   (c9 : Ans 40 #[.agg (natsV .u64 l2).toArray, .agg (natsV .u64 li).toArray, .agg (natsV .u64 ln).toArray] (.agg (natsV .u64 ls).toArray)) :
   Calls Tryz.prog 19 #[.agg (natsV .u64 ld).toArray, .agg (natsV .u64 lk).toArray, .slice A n c] w fun e w' => e = .returned (.tuple #[.slice none 0 0, .bool false]) ∧ Below w.heap.size w w' := by
 have L_ld := Hd hld
 have L_lk := Hd hlk
 have L_ln := Hd hln
 have L_gx := Hd hgx
 have L_gy := Hd hgy
 have L_px := Hd hpx
 have L_py := Hd hpy
 have L_lr := Hd hlr
 have L_lz := Hd hlz
 have L_l1 := Hd hl1
 have L_l2 := Hd hl2
 have L_li := Hd hli
 have L_ls := Hd hls
 have Hc1 := Hd c1
 have Hc2 := Hd c2
 have Hc3 := Hd c3
 have Hc4 := Hd c4
 have Hc5 := Hd c5
 have Hc6 := Hd c6
 have Hc7 := Hd c7
 have Hc8 := Hd c8
 have Hc9 := Hd c9
 have Q1 := Hd (fun w => (eqZ24 lr L_lr.out w).trans (by rw [decide_eq_true z1]))
 have B0_ := Hd ((Blk.new w  26 (natsV .u64 ld)).alloc (.cells (natsV .u64 lk).toArray 26))
 have B1_ := Hd (Blk.new2 w (.cells (natsV .u64 ld).toArray 26) 26 (natsV .u64 lk))
 have bel_ := (((Below.refl w.heap.size w).alloc (Nat.le_refl _) (.cells (natsV .u64 ld).toArray 26)).alloc (by simp) (.cells (natsV .u64 lk).toArray 26))
 clear hld hlk hln hgx hgy hpx hpy hlr hlz hl1 hl2 hli hls c1 c2 c3 c4 c5 c6 c7 c8 c9 z1
 go_enter Tryz.func19, Tryz.ntmps19
 go_wp2_with fail
 refine (Hc1.out _).mono ?_
 rintro e w1 ⟨rfl, hbw1⟩
 have C2 := gq' B0_ hbw1
 have C3 := gq' B1_ hbw1
 have hbel4 := bel_.trans (Below.mono hbw1 bel_.size)
 clear B0_ B1_ bel_ hbw1
 go_wp2_with (first | (refine stN rfl 26 (.tmp 8) (.tmp 12) rfl w1 rfl (natsV .u64 ln) rfl 26 (natsV .u64 (zeros 4)) (i24 L_ln.out) (lz4 L_ln.out) n1' ?_; intro w5 hgw5 hnw5; have C8 := gq' C2 hgw5; clear C2; have C9 := gq' C3 hgw5; clear C3; have hbel10 := hbel4.trans (Below.mono hgw5 hbel4.size); clear hbel4; have D7 := Hd hnw5; clear hnw5 hgw5; generalize w1.heap.size = G6 at *))
 as_aux_lemma =>
 refine wp_region_G (fun w_ => Blk w_ (w.heap.size + 1) 26 (natsV .u64 lk)) 4 (by kernel_rfl) C9.out.drew ?_
 refine tk gS1 0 rfl (lg' (fun _ hS_ => blk_all (hS_)) Tryz.underlying26 (i24 L_lk.out)) ?_
 try simp only [Act.put, zq]
 refine tk gS1 1 rfl (cg' Tryz.func43 (fun W_ _ => Hc2.out W_)) ?_
 try simp only [Act.put, zq]
 refine tk gS1 2 rfl (cg' Tryz.func42 (fun W_ _ => Hc3.out W_)) ?_
 try simp only [Act.put, zq]
 refine wpAnyG_def (i := 3) (j := 4) gS1 (by kernel_rfl) (by kernel_rfl) (by kernel_rfl) rfl rfl rfl (allocG (by rfl) rfl _ alloc43) (lenEq pz9 (pv_len L_px.out L_py.out)) (fun _ => StoresG.mk (cs := (pv px py ip)) (by rfl) 28 _ _ rfl rfl rfl (i43 L_px.out L_py.out) p1_) ?_
 intro w11 G12 hgw11 hz_ hn_
 try simp only [Act.put, zq]
 have E13 := dq' C8 hgw11
 have E14 := dq' C9 hgw11
 have E15 := dq' D7 hgw11
 have hbel16 := hbel10.drew.trans (Below.mono hgw11 hbel10.drew.size)
 have D17 := Hd hn_
 clear C8 C9 D7 hbel10 hn_ hz_ hgw11
 as_aux_lemma =>
 go_wp2_with (first | (refine lm' (pv_x (D17.out)) Tryz.underlying26 (i24 L_px.out) ?_) | (refine lm' (blk_all (E15.out)) Tryz.underlying26 (i24 L_ln.out) ?_))
 refine (Hc4.out _).mono ?_
 rintro e w18 ⟨rfl, hbw18⟩
 have C19 := gq' E13 hbw18
 have C20 := gq' E14 hbw18
 have C21 := gq' E15 hbw18
 have C22 := gq' D17 hbw18
 have hbel23 := hbel16.trans (Below.mono hbw18 hbel16.size)
 clear E13 E14 E15 D17 hbel16 hbw18
 go_wp2_with (first | (refine stN rfl 26 (.tmp 10) (.tmp 19) rfl w18 rfl (natsV .u64 lr) rfl 26 (natsV .u64 (zeros 4)) (i24 L_lr.out) (lz4 L_lr.out) n1' ?_; intro w24 hgw24 hnw24; have C27 := gq' C19 hgw24; clear C19; have C28 := gq' C20 hgw24; clear C20; have C29 := gq' C21 hgw24; clear C21; have C30 := gq' C22 hgw24; clear C22; have hbel31 := hbel23.trans (Below.mono hgw24 hbel23.size); clear hbel23; have D26 := Hd hnw24; clear hnw24 hgw24; generalize w18.heap.size = G25 at *))
 as_aux_lemma =>
 refine wp_region_G (fun w_ => Blk w_ G25 26 (natsV .u64 lr) ∧ Blk w_ w.heap.size 26 (natsV .u64 ld) ∧ Blk w_ G6 26 (natsV .u64 ln) ∧ Below w.heap.size w w_) 9 (by kernel_rfl) ⟨D26.out.drew, C27.out.drew, C29.out.drew, hbel31.drew⟩ ?_
 refine tkp gB3 0 rfl ?_
 try simp only [Act.put, zq]
 refine tk gB3 1 rfl (cg' Tryz.func12 (fun W_ hS_ => Hc5.out _ hS_.2.2.2)) ?_
 try simp only [Act.put, zq]
 refine tk gB3 2 rfl (lg' (fun _ hS_ => blk_all (hS_.1)) Tryz.underlying26 (i24 L_lr.out)) ?_
 try simp only [Act.put, zq]
 refine tk gB3 3 rfl (lg' (fun _ hS_ => blk_all (hS_.2.1)) Tryz.underlying26 (i24 L_ld.out)) ?_
 try simp only [Act.put, zq]
 refine tk gB3 4 rfl (lg' (fun _ hS_ => blk_all (hS_.2.2.1)) Tryz.underlying26 (i24 L_ln.out)) ?_
 try simp only [Act.put, zq]
 refine tk gB3 5 rfl (cg' Tryz.func40 (fun W_ hS_ => Hc6.out W_)) ?_
 try simp only [Act.put, zq]
 refine tk gB3 6 rfl (lg' (fun _ hS_ => blk_all (hS_.2.2.1)) Tryz.underlying26 (i24 L_ln.out)) ?_
 try simp only [Act.put, zq]
 refine tk gB3 7 rfl (cg' Tryz.func45 (fun W_ hS_ => Hc7.out W_)) ?_
 try simp only [Act.put, zq]
 refine wpAnyG_def (i := 8) (j := 9) gB3 (by kernel_rfl) (by kernel_rfl) (by kernel_rfl) rfl rfl rfl (allocG (by rfl) rfl _ alloc24) (lz4 L_l2.out) (fun _ => StoresG.mk (cs := (natsV .u64 l2)) (by rfl) 26 _ _ rfl rfl rfl (i24 L_l2.out) n1') ?_
 intro w32 G33 hgw32 hz_ hn_
 try simp only [Act.put, zq]
 have NE34 := Hd (Nat.ne_of_lt (Nat.lt_of_lt_of_le C27.out.drew.lt hz_))
 have NE35 := Hd (Nat.ne_of_lt (Nat.lt_of_lt_of_le C28.out.drew.lt hz_))
 have NE36 := Hd (Nat.ne_of_lt (Nat.lt_of_lt_of_le C29.out.drew.lt hz_))
 have NE37 := Hd (Nat.ne_of_lt (Nat.lt_of_lt_of_le C30.out.drew.lt hz_))
 have NE38 := Hd (Nat.ne_of_lt (Nat.lt_of_lt_of_le D26.out.drew.lt hz_))
 have GE39 := Hd (Nat.le_trans hbel31.drew.size hz_)
 have E40 := dq' C27 hgw32
 have E41 := dq' C28 hgw32
 have E42 := dq' C29 hgw32
 have E43 := dq' C30 hgw32
 have E44 := dq' D26 hgw32
 have hbel45 := hbel31.drew.trans (Below.mono hgw32 hbel31.drew.size)
 have D46 := Hd hn_
 clear C27 C28 C29 C30 D26 hbel31 hn_ hz_ hgw32
 as_aux_lemma =>
 go_wp2_with fail
 as_aux_lemma =>
 refine wp_region_G (fun w_ => Blk w_ G33 26 (natsV .u64 l2) ∧ Blk w_ (w.heap.size + 1) 26 (natsV .u64 lk) ∧ Blk w_ G6 26 (natsV .u64 ln)) 6 (by kernel_rfl) ⟨D46.out.drew, E41.out.drew, E42.out.drew⟩ ?_
 refine tk gS3 0 rfl (lg' (fun _ hS_ => blk_all (hS_.1)) Tryz.underlying26 (i24 L_l2.out)) ?_
 try simp only [Act.put, zq]
 refine tk gS3 1 rfl (lg' (fun _ hS_ => blk_all (hS_.2.1)) Tryz.underlying26 (i24 L_lk.out)) ?_
 try simp only [Act.put, zq]
 refine tk gS3 2 rfl (lg' (fun _ hS_ => blk_all (hS_.2.2)) Tryz.underlying26 (i24 L_ln.out)) ?_
 try simp only [Act.put, zq]
 refine tk gS3 3 rfl (cg' Tryz.func39 (fun W_ _ => Hc8.out W_)) ?_
 try simp only [Act.put, zq]
 refine tk gS3 4 rfl (lg' (fun _ hS_ => blk_all (hS_.2.2)) Tryz.underlying26 (i24 L_ln.out)) ?_
 try simp only [Act.put, zq]
 refine tk gS3 5 rfl (cg' Tryz.func40 (fun W_ _ => Hc9.out W_)) ?_
 try simp only [Act.put, zq]
 refine wpAnyG_set (i := 6) (by kernel_rfl) (by kernel_rfl) rfl rfl D46.out.drew (lenEq (nl' L_l2.out) (nl' L_ls.out)) (StoresG.mk (cs := (natsV .u64 ls)) (by rfl) 26 _ _ rfl rfl rfl (i24 L_ls.out) n1') ?_
 intro w47 hgw47 hn_
 try simp only [Act.put, zq]
 have E48 := Hd (E40.out.drew.grown hgw47 (fun e => NE34.out (Option.some.inj e)))
 have E49 := Hd (E41.out.drew.grown hgw47 (fun e => NE35.out (Option.some.inj e)))
 have E50 := Hd (E42.out.drew.grown hgw47 (fun e => NE36.out (Option.some.inj e)))
 have E51 := Hd (E43.out.drew.grown hgw47 (fun e => NE37.out (Option.some.inj e)))
 have E52 := Hd (E44.out.drew.grown hgw47 (fun e => NE38.out (Option.some.inj e)))
 have D53 := Hd hn_
 have hbel54 := belStore hbel45.drew hgw47 (GE39.out)
 clear E40 E41 E42 E43 E44 hn_ D46 hgw47
 as_aux_lemma =>
 have qa := Q1.out
 go_wp2_with (first | (refine lm' (blk_all (E52.out)) Tryz.underlying26 (i24 L_lr.out) ?_) | (refine ldwM 26 (.tmp 11) rfl G33 0 rfl (natsV .u64 ls) _ (blk_all (D53.out)) Tryz.underlying26 rfl (i24 L_ls.out) 3 false rfl 37 rfl rfl ?_))
 first | go_ret2 | go_ret
 exact ⟨rfl, hbel54⟩
theorem wsign_s0 {ld lk ln gx gy px py lr lz l1 l2 li ls : List Nat} {A : Option Addr} {n c : Nat} {ip : Bool} (w : World) (hld : ld.length = 4) (hlk : lk.length = 4) (hln : ln.length = 4) (hgx : gx.length = 4) (hgy : gy.length = 4) (hpx : px.length = 4) (hpy : py.length = 4) (hlr : lr.length = 4) (hlz : lz.length = 4) (hl1 : l1.length = 4) (hl2 : l2.length = 4) (hli : li.length = 4) (hls : ls.length = 4)
   (z1 : ¬ lr = zeros 4)
   (z2 : ls = zeros 4)
   (c1 : Ans 17 #[] (.agg (natsV .u64 ln).toArray))
   (c2 : Ans 43 #[] (.agg (pv gx gy false).toArray))
   (c3 : Ans 42 #[.agg (natsV .u64 lk).toArray, .agg (pv gx gy false).toArray] (.agg (pv px py ip).toArray))
   (c4 : Ans 18 #[.agg (natsV .u64 px).toArray, .bool false, .agg (natsV .u64 ln).toArray] (.agg (natsV .u64 lr).toArray))
   (c5 : ∀ W, Below w.heap.size w W → Calls Tryz.prog 12 #[.slice A n c] W fun e w' => e = .returned (.agg (natsV .u64 lz).toArray) ∧ Below W.heap.size W w')
   (c6 : Ans 40 #[.agg (natsV .u64 lr).toArray, .agg (natsV .u64 ld).toArray, .agg (natsV .u64 ln).toArray] (.agg (natsV .u64 l1).toArray))
   (c7 : Ans 45 #[.agg (natsV .u64 lz).toArray, .agg (natsV .u64 l1).toArray, .agg (natsV .u64 ln).toArray] (.agg (natsV .u64 l2).toArray))
   (c8 : Ans 39 #[.agg (natsV .u64 lk).toArray, .agg (natsV .u64 ln).toArray] (.agg (natsV .u64 li).toArray))
   (c9 : Ans 40 #[.agg (natsV .u64 l2).toArray, .agg (natsV .u64 li).toArray, .agg (natsV .u64 ln).toArray] (.agg (natsV .u64 ls).toArray)) :
   Calls Tryz.prog 19 #[.agg (natsV .u64 ld).toArray, .agg (natsV .u64 lk).toArray, .slice A n c] w fun e w' => e = .returned (.tuple #[.slice none 0 0, .bool false]) ∧ Below w.heap.size w w' := by
 have L_ld := Hd hld
 have L_lk := Hd hlk
 have L_ln := Hd hln
 have L_gx := Hd hgx
 have L_gy := Hd hgy
 have L_px := Hd hpx
 have L_py := Hd hpy
 have L_lr := Hd hlr
 have L_lz := Hd hlz
 have L_l1 := Hd hl1
 have L_l2 := Hd hl2
 have L_li := Hd hli
 have L_ls := Hd hls
 have Hc1 := Hd c1
 have Hc2 := Hd c2
 have Hc3 := Hd c3
 have Hc4 := Hd c4
 have Hc5 := Hd c5
 have Hc6 := Hd c6
 have Hc7 := Hd c7
 have Hc8 := Hd c8
 have Hc9 := Hd c9
 have Q1 := Hd (fun w => (eqZ24 lr L_lr.out w).trans (by rw [decide_eq_false z1]))
 have Q2 := Hd (fun w => (eqZ24 ls L_ls.out w).trans (by rw [decide_eq_true z2]))
 have B0_ := Hd ((Blk.new w  26 (natsV .u64 ld)).alloc (.cells (natsV .u64 lk).toArray 26))
 have B1_ := Hd (Blk.new2 w (.cells (natsV .u64 ld).toArray 26) 26 (natsV .u64 lk))
 have bel_ := (((Below.refl w.heap.size w).alloc (Nat.le_refl _) (.cells (natsV .u64 ld).toArray 26)).alloc (by simp) (.cells (natsV .u64 lk).toArray 26))
 clear hld hlk hln hgx hgy hpx hpy hlr hlz hl1 hl2 hli hls c1 c2 c3 c4 c5 c6 c7 c8 c9 z1 z2
 go_enter Tryz.func19, Tryz.ntmps19
 go_wp2_with fail
 refine (Hc1.out _).mono ?_
 rintro e w1 ⟨rfl, hbw1⟩
 have C2 := gq' B0_ hbw1
 have C3 := gq' B1_ hbw1
 have hbel4 := bel_.trans (Below.mono hbw1 bel_.size)
 clear B0_ B1_ bel_ hbw1
 go_wp2_with (first | (refine stN rfl 26 (.tmp 8) (.tmp 12) rfl w1 rfl (natsV .u64 ln) rfl 26 (natsV .u64 (zeros 4)) (i24 L_ln.out) (lz4 L_ln.out) n1' ?_; intro w5 hgw5 hnw5; have C8 := gq' C2 hgw5; clear C2; have C9 := gq' C3 hgw5; clear C3; have hbel10 := hbel4.trans (Below.mono hgw5 hbel4.size); clear hbel4; have D7 := Hd hnw5; clear hnw5 hgw5; generalize w1.heap.size = G6 at *))
 as_aux_lemma =>
 refine wp_region_G (fun w_ => Blk w_ (w.heap.size + 1) 26 (natsV .u64 lk)) 4 (by kernel_rfl) C9.out.drew ?_
 refine tk gS1 0 rfl (lg' (fun _ hS_ => blk_all (hS_)) Tryz.underlying26 (i24 L_lk.out)) ?_
 try simp only [Act.put, zq]
 refine tk gS1 1 rfl (cg' Tryz.func43 (fun W_ _ => Hc2.out W_)) ?_
 try simp only [Act.put, zq]
 refine tk gS1 2 rfl (cg' Tryz.func42 (fun W_ _ => Hc3.out W_)) ?_
 try simp only [Act.put, zq]
 refine wpAnyG_def (i := 3) (j := 4) gS1 (by kernel_rfl) (by kernel_rfl) (by kernel_rfl) rfl rfl rfl (allocG (by rfl) rfl _ alloc43) (lenEq pz9 (pv_len L_px.out L_py.out)) (fun _ => StoresG.mk (cs := (pv px py ip)) (by rfl) 28 _ _ rfl rfl rfl (i43 L_px.out L_py.out) p1_) ?_
 intro w11 G12 hgw11 hz_ hn_
 try simp only [Act.put, zq]
 have E13 := dq' C8 hgw11
 have E14 := dq' C9 hgw11
 have E15 := dq' D7 hgw11
 have hbel16 := hbel10.drew.trans (Below.mono hgw11 hbel10.drew.size)
 have D17 := Hd hn_
 clear C8 C9 D7 hbel10 hn_ hz_ hgw11
 as_aux_lemma =>
 go_wp2_with (first | (refine lm' (pv_x (D17.out)) Tryz.underlying26 (i24 L_px.out) ?_) | (refine lm' (blk_all (E15.out)) Tryz.underlying26 (i24 L_ln.out) ?_))
 refine (Hc4.out _).mono ?_
 rintro e w18 ⟨rfl, hbw18⟩
 have C19 := gq' E13 hbw18
 have C20 := gq' E14 hbw18
 have C21 := gq' E15 hbw18
 have C22 := gq' D17 hbw18
 have hbel23 := hbel16.trans (Below.mono hbw18 hbel16.size)
 clear E13 E14 E15 D17 hbel16 hbw18
 go_wp2_with (first | (refine stN rfl 26 (.tmp 10) (.tmp 19) rfl w18 rfl (natsV .u64 lr) rfl 26 (natsV .u64 (zeros 4)) (i24 L_lr.out) (lz4 L_lr.out) n1' ?_; intro w24 hgw24 hnw24; have C27 := gq' C19 hgw24; clear C19; have C28 := gq' C20 hgw24; clear C20; have C29 := gq' C21 hgw24; clear C21; have C30 := gq' C22 hgw24; clear C22; have hbel31 := hbel23.trans (Below.mono hgw24 hbel23.size); clear hbel23; have D26 := Hd hnw24; clear hnw24 hgw24; generalize w18.heap.size = G25 at *))
 as_aux_lemma =>
 refine wp_region_G (fun w_ => Blk w_ G25 26 (natsV .u64 lr) ∧ Blk w_ w.heap.size 26 (natsV .u64 ld) ∧ Blk w_ G6 26 (natsV .u64 ln) ∧ Below w.heap.size w w_) 9 (by kernel_rfl) ⟨D26.out.drew, C27.out.drew, C29.out.drew, hbel31.drew⟩ ?_
 refine tkp gB3 0 rfl ?_
 try simp only [Act.put, zq]
 refine tk gB3 1 rfl (cg' Tryz.func12 (fun W_ hS_ => Hc5.out _ hS_.2.2.2)) ?_
 try simp only [Act.put, zq]
 refine tk gB3 2 rfl (lg' (fun _ hS_ => blk_all (hS_.1)) Tryz.underlying26 (i24 L_lr.out)) ?_
 try simp only [Act.put, zq]
 refine tk gB3 3 rfl (lg' (fun _ hS_ => blk_all (hS_.2.1)) Tryz.underlying26 (i24 L_ld.out)) ?_
 try simp only [Act.put, zq]
 refine tk gB3 4 rfl (lg' (fun _ hS_ => blk_all (hS_.2.2.1)) Tryz.underlying26 (i24 L_ln.out)) ?_
 try simp only [Act.put, zq]
 refine tk gB3 5 rfl (cg' Tryz.func40 (fun W_ hS_ => Hc6.out W_)) ?_
 try simp only [Act.put, zq]
 refine tk gB3 6 rfl (lg' (fun _ hS_ => blk_all (hS_.2.2.1)) Tryz.underlying26 (i24 L_ln.out)) ?_
 try simp only [Act.put, zq]
 refine tk gB3 7 rfl (cg' Tryz.func45 (fun W_ hS_ => Hc7.out W_)) ?_
 try simp only [Act.put, zq]
 refine wpAnyG_def (i := 8) (j := 9) gB3 (by kernel_rfl) (by kernel_rfl) (by kernel_rfl) rfl rfl rfl (allocG (by rfl) rfl _ alloc24) (lz4 L_l2.out) (fun _ => StoresG.mk (cs := (natsV .u64 l2)) (by rfl) 26 _ _ rfl rfl rfl (i24 L_l2.out) n1') ?_
 intro w32 G33 hgw32 hz_ hn_
 try simp only [Act.put, zq]
 have NE34 := Hd (Nat.ne_of_lt (Nat.lt_of_lt_of_le C27.out.drew.lt hz_))
 have NE35 := Hd (Nat.ne_of_lt (Nat.lt_of_lt_of_le C28.out.drew.lt hz_))
 have NE36 := Hd (Nat.ne_of_lt (Nat.lt_of_lt_of_le C29.out.drew.lt hz_))
 have NE37 := Hd (Nat.ne_of_lt (Nat.lt_of_lt_of_le C30.out.drew.lt hz_))
 have NE38 := Hd (Nat.ne_of_lt (Nat.lt_of_lt_of_le D26.out.drew.lt hz_))
 have GE39 := Hd (Nat.le_trans hbel31.drew.size hz_)
 have E40 := dq' C27 hgw32
 have E41 := dq' C28 hgw32
 have E42 := dq' C29 hgw32
 have E43 := dq' C30 hgw32
 have E44 := dq' D26 hgw32
 have hbel45 := hbel31.drew.trans (Below.mono hgw32 hbel31.drew.size)
 have D46 := Hd hn_
 clear C27 C28 C29 C30 D26 hbel31 hn_ hz_ hgw32
 as_aux_lemma =>
 go_wp2_with fail
 as_aux_lemma =>
 refine wp_region_G (fun w_ => Blk w_ G33 26 (natsV .u64 l2) ∧ Blk w_ (w.heap.size + 1) 26 (natsV .u64 lk) ∧ Blk w_ G6 26 (natsV .u64 ln)) 6 (by kernel_rfl) ⟨D46.out.drew, E41.out.drew, E42.out.drew⟩ ?_
 refine tk gS3 0 rfl (lg' (fun _ hS_ => blk_all (hS_.1)) Tryz.underlying26 (i24 L_l2.out)) ?_
 try simp only [Act.put, zq]
 refine tk gS3 1 rfl (lg' (fun _ hS_ => blk_all (hS_.2.1)) Tryz.underlying26 (i24 L_lk.out)) ?_
 try simp only [Act.put, zq]
 refine tk gS3 2 rfl (lg' (fun _ hS_ => blk_all (hS_.2.2)) Tryz.underlying26 (i24 L_ln.out)) ?_
 try simp only [Act.put, zq]
 refine tk gS3 3 rfl (cg' Tryz.func39 (fun W_ _ => Hc8.out W_)) ?_
 try simp only [Act.put, zq]
 refine tk gS3 4 rfl (lg' (fun _ hS_ => blk_all (hS_.2.2)) Tryz.underlying26 (i24 L_ln.out)) ?_
 try simp only [Act.put, zq]
 refine tk gS3 5 rfl (cg' Tryz.func40 (fun W_ _ => Hc9.out W_)) ?_
 try simp only [Act.put, zq]
 refine wpAnyG_set (i := 6) (by kernel_rfl) (by kernel_rfl) rfl rfl D46.out.drew (lenEq (nl' L_l2.out) (nl' L_ls.out)) (StoresG.mk (cs := (natsV .u64 ls)) (by rfl) 26 _ _ rfl rfl rfl (i24 L_ls.out) n1') ?_
 intro w47 hgw47 hn_
 try simp only [Act.put, zq]
 have E48 := Hd (E40.out.drew.grown hgw47 (fun e => NE34.out (Option.some.inj e)))
 have E49 := Hd (E41.out.drew.grown hgw47 (fun e => NE35.out (Option.some.inj e)))
 have E50 := Hd (E42.out.drew.grown hgw47 (fun e => NE36.out (Option.some.inj e)))
 have E51 := Hd (E43.out.drew.grown hgw47 (fun e => NE37.out (Option.some.inj e)))
 have E52 := Hd (E44.out.drew.grown hgw47 (fun e => NE38.out (Option.some.inj e)))
 have D53 := Hd hn_
 have hbel54 := belStore hbel45.drew hgw47 (GE39.out)
 clear E40 E41 E42 E43 E44 hn_ D46 hgw47
 as_aux_lemma =>
 have qa := Q1.out
 have qb := Q2.out
 go_wp2_with (first | (refine lm' (blk_all (E52.out)) Tryz.underlying26 (i24 L_lr.out) ?_) | (refine ldwM 26 (.tmp 11) rfl G33 0 rfl (natsV .u64 ls) _ (blk_all (D53.out)) Tryz.underlying26 rfl (i24 L_ls.out) 3 false rfl 37 rfl rfl ?_))
 first | go_ret2 | go_ret
 exact ⟨rfl, hbel54⟩
theorem wsign_ok {ld lk ln gx gy px py lr lz l1 l2 li ls : List Nat} {A : Option Addr} {n c : Nat} {ip : Bool} {L : List Nat} (w : World) (hld : ld.length = 4) (hlk : lk.length = 4) (hln : ln.length = 4) (hgx : gx.length = 4) (hgy : gy.length = 4) (hpx : px.length = 4) (hpy : py.length = 4) (hlr : lr.length = 4) (hlz : lz.length = 4) (hl1 : l1.length = 4) (hl2 : l2.length = 4) (hli : li.length = 4) (hls : ls.length = 4)
   (z1 : ¬ lr = zeros 4)
   (z2 : ¬ ls = zeros 4)
   (hL : ∀ z ∈ L, z < 256)
   (hj : ∀ w, Calls Tryz.prog 46 #[.agg (natsV .u64 lr).toArray, .agg (natsV .u64 ls).toArray] w (OwnL 64 L w))
   (c1 : Ans 17 #[] (.agg (natsV .u64 ln).toArray))
   (c2 : Ans 43 #[] (.agg (pv gx gy false).toArray))
   (c3 : Ans 42 #[.agg (natsV .u64 lk).toArray, .agg (pv gx gy false).toArray] (.agg (pv px py ip).toArray))
   (c4 : Ans 18 #[.agg (natsV .u64 px).toArray, .bool false, .agg (natsV .u64 ln).toArray] (.agg (natsV .u64 lr).toArray))
   (c5 : ∀ W, Below w.heap.size w W → Calls Tryz.prog 12 #[.slice A n c] W fun e w' => e = .returned (.agg (natsV .u64 lz).toArray) ∧ Below W.heap.size W w')
   (c6 : Ans 40 #[.agg (natsV .u64 lr).toArray, .agg (natsV .u64 ld).toArray, .agg (natsV .u64 ln).toArray] (.agg (natsV .u64 l1).toArray))
   (c7 : Ans 45 #[.agg (natsV .u64 lz).toArray, .agg (natsV .u64 l1).toArray, .agg (natsV .u64 ln).toArray] (.agg (natsV .u64 l2).toArray))
   (c8 : Ans 39 #[.agg (natsV .u64 lk).toArray, .agg (natsV .u64 ln).toArray] (.agg (natsV .u64 li).toArray))
   (c9 : Ans 40 #[.agg (natsV .u64 l2).toArray, .agg (natsV .u64 li).toArray, .agg (natsV .u64 ln).toArray] (.agg (natsV .u64 ls).toArray)) :
   Calls Tryz.prog 19 #[.agg (natsV .u64 ld).toArray, .agg (natsV .u64 lk).toArray, .slice A n c] w (SignIs L w) := by
 have L_ld := Hd hld
 have L_lk := Hd hlk
 have L_ln := Hd hln
 have L_gx := Hd hgx
 have L_gy := Hd hgy
 have L_px := Hd hpx
 have L_py := Hd hpy
 have L_lr := Hd hlr
 have L_lz := Hd hlz
 have L_l1 := Hd hl1
 have L_l2 := Hd hl2
 have L_li := Hd hli
 have L_ls := Hd hls
 have Hc1 := Hd c1
 have Hc2 := Hd c2
 have Hc3 := Hd c3
 have Hc4 := Hd c4
 have Hc5 := Hd c5
 have Hc6 := Hd c6
 have Hc7 := Hd c7
 have Hc8 := Hd c8
 have Hc9 := Hd c9
 have Q1 := Hd (fun w => (eqZ24 lr L_lr.out w).trans (by rw [decide_eq_false z1]))
 have Q2 := Hd (fun w => (eqZ24 ls L_ls.out w).trans (by rw [decide_eq_false z2]))
 have HL := Hd hL
 have HJ := Hd hj
 have B0_ := Hd ((Blk.new w  26 (natsV .u64 ld)).alloc (.cells (natsV .u64 lk).toArray 26))
 have B1_ := Hd (Blk.new2 w (.cells (natsV .u64 ld).toArray 26) 26 (natsV .u64 lk))
 have bel_ := (((Below.refl w.heap.size w).alloc (Nat.le_refl _) (.cells (natsV .u64 ld).toArray 26)).alloc (by simp) (.cells (natsV .u64 lk).toArray 26))
 clear hld hlk hln hgx hgy hpx hpy hlr hlz hl1 hl2 hli hls c1 c2 c3 c4 c5 c6 c7 c8 c9 z1 z2 hL hj
 go_enter Tryz.func19, Tryz.ntmps19
 go_wp2_with fail
 refine (Hc1.out _).mono ?_
 rintro e w1 ⟨rfl, hbw1⟩
 have C2 := gq' B0_ hbw1
 have C3 := gq' B1_ hbw1
 have hbel4 := bel_.trans (Below.mono hbw1 bel_.size)
 clear B0_ B1_ bel_ hbw1
 go_wp2_with (first | (refine stN rfl 26 (.tmp 8) (.tmp 12) rfl w1 rfl (natsV .u64 ln) rfl 26 (natsV .u64 (zeros 4)) (i24 L_ln.out) (lz4 L_ln.out) n1' ?_; intro w5 hgw5 hnw5; have C8 := gq' C2 hgw5; clear C2; have C9 := gq' C3 hgw5; clear C3; have hbel10 := hbel4.trans (Below.mono hgw5 hbel4.size); clear hbel4; have D7 := Hd hnw5; clear hnw5 hgw5; generalize w1.heap.size = G6 at *))
 as_aux_lemma =>
 refine wp_region_G (fun w_ => Blk w_ (w.heap.size + 1) 26 (natsV .u64 lk)) 4 (by kernel_rfl) C9.out.drew ?_
 refine tk gS1 0 rfl (lg' (fun _ hS_ => blk_all (hS_)) Tryz.underlying26 (i24 L_lk.out)) ?_
 try simp only [Act.put, zq]
 refine tk gS1 1 rfl (cg' Tryz.func43 (fun W_ _ => Hc2.out W_)) ?_
 try simp only [Act.put, zq]
 refine tk gS1 2 rfl (cg' Tryz.func42 (fun W_ _ => Hc3.out W_)) ?_
 try simp only [Act.put, zq]
 refine wpAnyG_def (i := 3) (j := 4) gS1 (by kernel_rfl) (by kernel_rfl) (by kernel_rfl) rfl rfl rfl (allocG (by rfl) rfl _ alloc43) (lenEq pz9 (pv_len L_px.out L_py.out)) (fun _ => StoresG.mk (cs := (pv px py ip)) (by rfl) 28 _ _ rfl rfl rfl (i43 L_px.out L_py.out) p1_) ?_
 intro w11 G12 hgw11 hz_ hn_
 try simp only [Act.put, zq]
 have E13 := dq' C8 hgw11
 have E14 := dq' C9 hgw11
 have E15 := dq' D7 hgw11
 have hbel16 := hbel10.drew.trans (Below.mono hgw11 hbel10.drew.size)
 have D17 := Hd hn_
 clear C8 C9 D7 hbel10 hn_ hz_ hgw11
 as_aux_lemma =>
 go_wp2_with (first | (refine lm' (pv_x (D17.out)) Tryz.underlying26 (i24 L_px.out) ?_) | (refine lm' (blk_all (E15.out)) Tryz.underlying26 (i24 L_ln.out) ?_))
 refine (Hc4.out _).mono ?_
 rintro e w18 ⟨rfl, hbw18⟩
 have C19 := gq' E13 hbw18
 have C20 := gq' E14 hbw18
 have C21 := gq' E15 hbw18
 have C22 := gq' D17 hbw18
 have hbel23 := hbel16.trans (Below.mono hbw18 hbel16.size)
 clear E13 E14 E15 D17 hbel16 hbw18
 go_wp2_with (first | (refine stN rfl 26 (.tmp 10) (.tmp 19) rfl w18 rfl (natsV .u64 lr) rfl 26 (natsV .u64 (zeros 4)) (i24 L_lr.out) (lz4 L_lr.out) n1' ?_; intro w24 hgw24 hnw24; have C27 := gq' C19 hgw24; clear C19; have C28 := gq' C20 hgw24; clear C20; have C29 := gq' C21 hgw24; clear C21; have C30 := gq' C22 hgw24; clear C22; have hbel31 := hbel23.trans (Below.mono hgw24 hbel23.size); clear hbel23; have D26 := Hd hnw24; clear hnw24 hgw24; generalize w18.heap.size = G25 at *))
 as_aux_lemma =>
 refine wp_region_G (fun w_ => Blk w_ G25 26 (natsV .u64 lr) ∧ Blk w_ w.heap.size 26 (natsV .u64 ld) ∧ Blk w_ G6 26 (natsV .u64 ln) ∧ Below w.heap.size w w_) 9 (by kernel_rfl) ⟨D26.out.drew, C27.out.drew, C29.out.drew, hbel31.drew⟩ ?_
 refine tkp gB3 0 rfl ?_
 try simp only [Act.put, zq]
 refine tk gB3 1 rfl (cg' Tryz.func12 (fun W_ hS_ => Hc5.out _ hS_.2.2.2)) ?_
 try simp only [Act.put, zq]
 refine tk gB3 2 rfl (lg' (fun _ hS_ => blk_all (hS_.1)) Tryz.underlying26 (i24 L_lr.out)) ?_
 try simp only [Act.put, zq]
 refine tk gB3 3 rfl (lg' (fun _ hS_ => blk_all (hS_.2.1)) Tryz.underlying26 (i24 L_ld.out)) ?_
 try simp only [Act.put, zq]
 refine tk gB3 4 rfl (lg' (fun _ hS_ => blk_all (hS_.2.2.1)) Tryz.underlying26 (i24 L_ln.out)) ?_
 try simp only [Act.put, zq]
 refine tk gB3 5 rfl (cg' Tryz.func40 (fun W_ hS_ => Hc6.out W_)) ?_
 try simp only [Act.put, zq]
 refine tk gB3 6 rfl (lg' (fun _ hS_ => blk_all (hS_.2.2.1)) Tryz.underlying26 (i24 L_ln.out)) ?_
 try simp only [Act.put, zq]
 refine tk gB3 7 rfl (cg' Tryz.func45 (fun W_ hS_ => Hc7.out W_)) ?_
 try simp only [Act.put, zq]
 refine wpAnyG_def (i := 8) (j := 9) gB3 (by kernel_rfl) (by kernel_rfl) (by kernel_rfl) rfl rfl rfl (allocG (by rfl) rfl _ alloc24) (lz4 L_l2.out) (fun _ => StoresG.mk (cs := (natsV .u64 l2)) (by rfl) 26 _ _ rfl rfl rfl (i24 L_l2.out) n1') ?_
 intro w32 G33 hgw32 hz_ hn_
 try simp only [Act.put, zq]
 have NE34 := Hd (Nat.ne_of_lt (Nat.lt_of_lt_of_le C27.out.drew.lt hz_))
 have NE35 := Hd (Nat.ne_of_lt (Nat.lt_of_lt_of_le C28.out.drew.lt hz_))
 have NE36 := Hd (Nat.ne_of_lt (Nat.lt_of_lt_of_le C29.out.drew.lt hz_))
 have NE37 := Hd (Nat.ne_of_lt (Nat.lt_of_lt_of_le C30.out.drew.lt hz_))
 have NE38 := Hd (Nat.ne_of_lt (Nat.lt_of_lt_of_le D26.out.drew.lt hz_))
 have GE39 := Hd (Nat.le_trans hbel31.drew.size hz_)
 have E40 := dq' C27 hgw32
 have E41 := dq' C28 hgw32
 have E42 := dq' C29 hgw32
 have E43 := dq' C30 hgw32
 have E44 := dq' D26 hgw32
 have hbel45 := hbel31.drew.trans (Below.mono hgw32 hbel31.drew.size)
 have D46 := Hd hn_
 clear C27 C28 C29 C30 D26 hbel31 hn_ hz_ hgw32
 as_aux_lemma =>
 go_wp2_with fail
 as_aux_lemma =>
 refine wp_region_G (fun w_ => Blk w_ G33 26 (natsV .u64 l2) ∧ Blk w_ (w.heap.size + 1) 26 (natsV .u64 lk) ∧ Blk w_ G6 26 (natsV .u64 ln)) 6 (by kernel_rfl) ⟨D46.out.drew, E41.out.drew, E42.out.drew⟩ ?_
 refine tk gS3 0 rfl (lg' (fun _ hS_ => blk_all (hS_.1)) Tryz.underlying26 (i24 L_l2.out)) ?_
 try simp only [Act.put, zq]
 refine tk gS3 1 rfl (lg' (fun _ hS_ => blk_all (hS_.2.1)) Tryz.underlying26 (i24 L_lk.out)) ?_
 try simp only [Act.put, zq]
 refine tk gS3 2 rfl (lg' (fun _ hS_ => blk_all (hS_.2.2)) Tryz.underlying26 (i24 L_ln.out)) ?_
 try simp only [Act.put, zq]
 refine tk gS3 3 rfl (cg' Tryz.func39 (fun W_ _ => Hc8.out W_)) ?_
 try simp only [Act.put, zq]
 refine tk gS3 4 rfl (lg' (fun _ hS_ => blk_all (hS_.2.2)) Tryz.underlying26 (i24 L_ln.out)) ?_
 try simp only [Act.put, zq]
 refine tk gS3 5 rfl (cg' Tryz.func40 (fun W_ _ => Hc9.out W_)) ?_
 try simp only [Act.put, zq]
 refine wpAnyG_set (i := 6) (by kernel_rfl) (by kernel_rfl) rfl rfl D46.out.drew (lenEq (nl' L_l2.out) (nl' L_ls.out)) (StoresG.mk (cs := (natsV .u64 ls)) (by rfl) 26 _ _ rfl rfl rfl (i24 L_ls.out) n1') ?_
 intro w47 hgw47 hn_
 try simp only [Act.put, zq]
 have E48 := Hd (E40.out.drew.grown hgw47 (fun e => NE34.out (Option.some.inj e)))
 have E49 := Hd (E41.out.drew.grown hgw47 (fun e => NE35.out (Option.some.inj e)))
 have E50 := Hd (E42.out.drew.grown hgw47 (fun e => NE36.out (Option.some.inj e)))
 have E51 := Hd (E43.out.drew.grown hgw47 (fun e => NE37.out (Option.some.inj e)))
 have E52 := Hd (E44.out.drew.grown hgw47 (fun e => NE38.out (Option.some.inj e)))
 have D53 := Hd hn_
 have hbel54 := belStore hbel45.drew hgw47 (GE39.out)
 clear E40 E41 E42 E43 E44 hn_ D46 hgw47
 as_aux_lemma =>
 have qa := Q1.out
 have qb := Q2.out
 go_wp2_with (first | (refine lm' (blk_all (E52.out)) Tryz.underlying26 (i24 L_lr.out) ?_) | (refine ldwM 26 (.tmp 11) rfl G33 0 rfl (natsV .u64 ls) _ (blk_all (D53.out)) Tryz.underlying26 rfl (i24 L_ls.out) 3 false rfl 37 rfl rfl ?_) | (refine lm' (blk_all (E52.out)) Tryz.underlying26 (i24 L_lr.out) ?_) | (refine lm' (blk_all (D53.out)) Tryz.underlying26 (i24 L_ls.out) ?_))
 refine (HJ.out _).mono ?_
 rintro e w55 ⟨Gj, cj, rfl, ow55, hbw55⟩
 have C56 := gq' E48 hbw55
 have C57 := gq' E49 hbw55
 have C58 := gq' E50 hbw55
 have C59 := gq' E51 hbw55
 have C60 := gq' E52 hbw55
 have C61 := gq' D53 hbw55
 have hbel62 := hbel54.trans (Below.mono hbw55 hbel54.size)
 have HBj := Hd (own_bin ow55 HL.out (by decide))
 clear E48 E49 E50 E51 E52 D53 hbel54 ow55 hbw55
 go_wp2_with fail
 first | go_ret2 | go_ret
 exact ⟨Gj, cj, rfl, HBj.out, hbel62⟩
theorem xN_256 (P : EC.Pt mP) : xN P < 2 ^ 256 := by cases P with | inf => exact Nat.two_pow_pos 256 | aff x y => exact lt256 x
theorem pX_xN (P : EC.Pt mP) : pX P = wds 4 (xN P) := by cases P with | inf => exact wds0_.symm | aff x y => rfl
section
variable {w : World} {A : Option Addr} {n c : Nat} {l : List Nat} {d k : Nat}
theorem d_sign_ok (hB : BIn w A n c l) (hd : d < mN) (hk : k < mN) (h1 : rE k ≠ 0) (h2 : sE (scE n l) d k ≠ 0) :
   Calls Tryz.prog 19 #[.agg (natsV .u64 (wds 4 d)).toArray, .agg (natsV .u64 (wds 4 k)).toArray, .slice A n c] w (SignIs (sigL (rE k) (sE (scE n l) d k)) w) := by
 have hd2 := Nat.lt_trans hd mN256
 have hk2 := Nat.lt_trans hk mN256
 have c3 := d_mulP on_gP k hk2
 rw [ptV_eq (EC.mul k gP), pX_xN] at c3
 have c4 := d_rest (xN (EC.mul k gP)) (xN_256 _)
 have c5 := fun W hW => d_scalar (w := W) (hB.below hW)
 have c6 := d_mulN (rE k) d (Nat.lt_trans (rE_lt k) mN256) hd2
 have c7 := fun w => DAdd_any (scE n l) (rE k * d % mN) mN w mN256 (scE_lt n l) (Nat.mod_lt _ mNpos)
 have c8 := d_invN k hk2
 have c9 := d_mulN ((scE n l + rE k * d % mN) % mN) (wN k) (Nat.lt_trans (Nat.mod_lt _ mNpos) mN256) (wN_256 k)
 have hr2 := Nat.lt_trans (rE_lt k) mN256
 have hs2 := Nat.lt_trans (sE_lt (scE n l) d k) mN256
 exact wsign_ok w (wds_len 4 _) (wds_len 4 _) (wds_len 4 mN) (nw_len gX) (nw_len gY) (wds_len 4 _) (pY_len _) (wds_len 4 _) (wds_len 4 _) (wds_len 4 _) (wds_len 4 _) (wds_len 4 _) (wds_len 4 _)
   (fun h => h1 ((wds4_0 hr2).1 h)) (fun h => h2 ((wds4_0 hs2).1 h)) (sigL_lt _ _) (d_join _ _) DN_any dbase_k c3 c4 c5 c6 c7 c8 c9
theorem d_sign_no (hB : BIn w A n c l) (hd : d < mN) (hk : k < mN) (h : ¬ (rE k ≠ 0 ∧ sE (scE n l) d k ≠ 0)) :
   Calls Tryz.prog 19 #[.agg (natsV .u64 (wds 4 d)).toArray, .agg (natsV .u64 (wds 4 k)).toArray, .slice A n c] w fun e w' => e = .returned (.tuple #[.slice none 0 0, .bool false]) ∧ Below w.heap.size w w' := by
 have hd2 := Nat.lt_trans hd mN256
 have hk2 := Nat.lt_trans hk mN256
 have c3 := d_mulP on_gP k hk2
 rw [ptV_eq (EC.mul k gP), pX_xN] at c3
 have c4 := d_rest (xN (EC.mul k gP)) (xN_256 _)
 have c5 := fun W hW => d_scalar (w := W) (hB.below hW)
 have c6 := d_mulN (rE k) d (Nat.lt_trans (rE_lt k) mN256) hd2
 have c7 := fun w => DAdd_any (scE n l) (rE k * d % mN) mN w mN256 (scE_lt n l) (Nat.mod_lt _ mNpos)
 have c8 := d_invN k hk2
 have c9 := d_mulN ((scE n l + rE k * d % mN) % mN) (wN k) (Nat.lt_trans (Nat.mod_lt _ mNpos) mN256) (wN_256 k)
 have hr2 := Nat.lt_trans (rE_lt k) mN256
 have hs2 := Nat.lt_trans (sE_lt (scE n l) d k) mN256
 by_cases h1 : rE k = 0
 · exact wsign_r0 w (wds_len 4 _) (wds_len 4 _) (wds_len 4 mN) (nw_len gX) (nw_len gY) (wds_len 4 _) (pY_len _) (wds_len 4 _) (wds_len 4 _) (wds_len 4 _) (wds_len 4 _) (wds_len 4 _) (wds_len 4 _)
     ((wds4_0 hr2).2 h1) DN_any dbase_k c3 c4 c5 c6 c7 c8 c9
 · have h2 : sE (scE n l) d k = 0 := Classical.byContradiction fun h3 => h ⟨h1, h3⟩
   exact wsign_s0 w (wds_len 4 _) (wds_len 4 _) (wds_len 4 mN) (nw_len gX) (nw_len gY) (wds_len 4 _) (pY_len _) (wds_len 4 _) (wds_len 4 _) (wds_len 4 _) (wds_len 4 _) (wds_len 4 _) (wds_len 4 _)
     (fun h => h1 ((wds4_0 hr2).1 h)) ((wds4_0 hs2).2 h2) DN_any dbase_k c3 c4 c5 c6 c7 c8 c9
end
end Go.Proofs.YtdkkombpkojjaaaGreat
