/- Parts of proofs of statements, each text behind those that it stands on. No condition of its own. -/
import Derived.Great.Walk
import Derived.Test.YtfffmoolkgheaaaY23
namespace Go.Proofs.Ytfffmoolkgheaaa
open Go.RowKit
set_option linter.unusedVariables false
set_option linter.unusedSimpArgs false
set_option maxRecDepth 100000 in
set_option maxHeartbeats 6400000 in
theorem plus_e {lx ly lz mx my mz ss st xs y1 ys y2 yt run rise sq cu sh r2 r3 d1 ux e1 e2 e3 uy z1 uz : List Nat} (hlx : lx.length = 4) (hly : ly.length = 4) (hlz : lz.length = 4) (hmx : mx.length = 4) (hmy : my.length = 4) (hmz : mz.length = 4) (hss : ss.length = 4) (hst : st.length = 4) (hxs : xs.length = 4) (hy1 : y1.length = 4) (hys : ys.length = 4) (hy2 : y2.length = 4) (hyt : yt.length = 4) (hrun : run.length = 4) (hrise : rise.length = 4) (hsq : sq.length = 4) (hcu : cu.length = 4) (hsh : sh.length = 4) (hr2 : r2.length = 4) (hr3 : r3.length = 4) (hd1 : d1.length = 4) (hux : ux.length = 4) (he1 : e1.length = 4) (he2 : e2.length = 4) (he3 : e3.length = 4) (huy : uy.length = 4) (hz1 : z1.length = 4) (huz : uz.length = 4)
    (c1 : ∀ w, Calls Try.prog 116 #[.agg (tv lx ly lz).toArray] w fun e w' => e = .returned (.bool false) ∧ Below w.heap.size w w')
    (c2 : ∀ w, Calls Try.prog 116 #[.agg (tv mx my mz).toArray] w fun e w' => e = .returned (.bool false) ∧ Below w.heap.size w w')
    (c3 : ∀ w, Calls Try.prog 72 #[.agg (natsV .u64 lz).toArray] w fun e w' => e = .returned (.agg (natsV .u64 ss).toArray) ∧ Below w.heap.size w w')
    (c4 : ∀ w, Calls Try.prog 72 #[.agg (natsV .u64 mz).toArray] w fun e w' => e = .returned (.agg (natsV .u64 st).toArray) ∧ Below w.heap.size w w')
    (c5 : ∀ w, Calls Try.prog 108 #[.agg (natsV .u64 lx).toArray, .agg (natsV .u64 st).toArray] w fun e w' => e = .returned (.agg (natsV .u64 xs).toArray) ∧ Below w.heap.size w w')
    (c6 : ∀ w, Calls Try.prog 108 #[.agg (natsV .u64 mx).toArray, .agg (natsV .u64 ss).toArray] w fun e w' => e = .returned (.agg (natsV .u64 xs).toArray) ∧ Below w.heap.size w w')
    (c7 : ∀ w, Calls Try.prog 108 #[.agg (natsV .u64 ly).toArray, .agg (natsV .u64 st).toArray] w fun e w' => e = .returned (.agg (natsV .u64 y1).toArray) ∧ Below w.heap.size w w')
    (c8 : ∀ w, Calls Try.prog 108 #[.agg (natsV .u64 y1).toArray, .agg (natsV .u64 mz).toArray] w fun e w' => e = .returned (.agg (natsV .u64 ys).toArray) ∧ Below w.heap.size w w')
    (c9 : ∀ w, Calls Try.prog 108 #[.agg (natsV .u64 my).toArray, .agg (natsV .u64 ss).toArray] w fun e w' => e = .returned (.agg (natsV .u64 y2).toArray) ∧ Below w.heap.size w w')
    (c10 : ∀ w, Calls Try.prog 108 #[.agg (natsV .u64 y2).toArray, .agg (natsV .u64 lz).toArray] w fun e w' => e = .returned (.agg (natsV .u64 yt).toArray) ∧ Below w.heap.size w w')
    (c11 : ∀ w, Calls Try.prog 111 #[.agg (natsV .u64 xs).toArray, .agg (natsV .u64 xs).toArray] w fun e w' => e = .returned (.agg (natsV .u64 run).toArray) ∧ Below w.heap.size w w')
    (c12 : ∀ w, Calls Try.prog 111 #[.agg (natsV .u64 yt).toArray, .agg (natsV .u64 ys).toArray] w fun e w' => e = .returned (.agg (natsV .u64 rise).toArray) ∧ Below w.heap.size w w')
    (c13 : ∀ w, Calls Try.prog 72 #[.agg (natsV .u64 run).toArray] w fun e w' => e = .returned (.agg (natsV .u64 sq).toArray) ∧ Below w.heap.size w w')
    (c14 : ∀ w, Calls Try.prog 108 #[.agg (natsV .u64 sq).toArray, .agg (natsV .u64 run).toArray] w fun e w' => e = .returned (.agg (natsV .u64 cu).toArray) ∧ Below w.heap.size w w')
    (c15 : ∀ w, Calls Try.prog 108 #[.agg (natsV .u64 xs).toArray, .agg (natsV .u64 sq).toArray] w fun e w' => e = .returned (.agg (natsV .u64 sh).toArray) ∧ Below w.heap.size w w')
    (c16 : ∀ w, Calls Try.prog 72 #[.agg (natsV .u64 rise).toArray] w fun e w' => e = .returned (.agg (natsV .u64 r2).toArray) ∧ Below w.heap.size w w')
    (c17 : ∀ w, Calls Try.prog 111 #[.agg (natsV .u64 r2).toArray, .agg (natsV .u64 cu).toArray] w fun e w' => e = .returned (.agg (natsV .u64 r3).toArray) ∧ Below w.heap.size w w')
    (c18 : ∀ w, Calls Try.prog 109 #[.agg (natsV .u64 sh).toArray] w fun e w' => e = .returned (.agg (natsV .u64 d1).toArray) ∧ Below w.heap.size w w')
    (c19 : ∀ w, Calls Try.prog 111 #[.agg (natsV .u64 r3).toArray, .agg (natsV .u64 d1).toArray] w fun e w' => e = .returned (.agg (natsV .u64 ux).toArray) ∧ Below w.heap.size w w')
    (c20 : ∀ w, Calls Try.prog 111 #[.agg (natsV .u64 sh).toArray, .agg (natsV .u64 ux).toArray] w fun e w' => e = .returned (.agg (natsV .u64 e1).toArray) ∧ Below w.heap.size w w')
    (c21 : ∀ w, Calls Try.prog 108 #[.agg (natsV .u64 rise).toArray, .agg (natsV .u64 e1).toArray] w fun e w' => e = .returned (.agg (natsV .u64 e2).toArray) ∧ Below w.heap.size w w')
    (c22 : ∀ w, Calls Try.prog 108 #[.agg (natsV .u64 ys).toArray, .agg (natsV .u64 cu).toArray] w fun e w' => e = .returned (.agg (natsV .u64 e3).toArray) ∧ Below w.heap.size w w')
    (c23 : ∀ w, Calls Try.prog 111 #[.agg (natsV .u64 e2).toArray, .agg (natsV .u64 e3).toArray] w fun e w' => e = .returned (.agg (natsV .u64 uy).toArray) ∧ Below w.heap.size w w')
    (c24 : ∀ w, Calls Try.prog 108 #[.agg (natsV .u64 lz).toArray, .agg (natsV .u64 mz).toArray] w fun e w' => e = .returned (.agg (natsV .u64 z1).toArray) ∧ Below w.heap.size w w')
    (c25 : ∀ w, Calls Try.prog 108 #[.agg (natsV .u64 z1).toArray, .agg (natsV .u64 run).toArray] w fun e w' => e = .returned (.agg (natsV .u64 uz).toArray) ∧ Below w.heap.size w w') (hne : ¬ ys = yt) (w : World) :
    Calls Try.prog 82 #[.agg (tv lx ly lz).toArray, .agg (tv mx my mz).toArray] w fun e w' => e = .returned (.agg (tv ux uy uz).toArray) ∧ Below w.heap.size w w' := by
  have L_lx := Lib.hid hlx
  clear hlx
  have L_ly := Lib.hid hly
  clear hly
  have L_lz := Lib.hid hlz
  clear hlz
  have L_mx := Lib.hid hmx
  clear hmx
  have L_my := Lib.hid hmy
  clear hmy
  have L_mz := Lib.hid hmz
  clear hmz
  have L_ss := Lib.hid hss
  clear hss
  have L_st := Lib.hid hst
  clear hst
  have L_xs := Lib.hid hxs
  clear hxs
  have L_y1 := Lib.hid hy1
  clear hy1
  have L_ys := Lib.hid hys
  clear hys
  have L_y2 := Lib.hid hy2
  clear hy2
  have L_yt := Lib.hid hyt
  clear hyt
  have L_run := Lib.hid hrun
  clear hrun
  have L_rise := Lib.hid hrise
  clear hrise
  have L_sq := Lib.hid hsq
  clear hsq
  have L_cu := Lib.hid hcu
  clear hcu
  have L_sh := Lib.hid hsh
  clear hsh
  have L_r2 := Lib.hid hr2
  clear hr2
  have L_r3 := Lib.hid hr3
  clear hr3
  have L_d1 := Lib.hid hd1
  clear hd1
  have L_ux := Lib.hid hux
  clear hux
  have L_e1 := Lib.hid he1
  clear he1
  have L_e2 := Lib.hid he2
  clear he2
  have L_e3 := Lib.hid he3
  clear he3
  have L_uy := Lib.hid huy
  clear huy
  have L_z1 := Lib.hid hz1
  clear hz1
  have L_uz := Lib.hid huz
  clear huz
  have Hc1 := Lib.hid c1
  clear c1
  have Hc2 := Lib.hid c2
  clear c2
  have Hc3 := Lib.hid c3
  clear c3
  have Hc4 := Lib.hid c4
  clear c4
  have Hc5 := Lib.hid c5
  clear c5
  have Hc6 := Lib.hid c6
  clear c6
  have Hc7 := Lib.hid c7
  clear c7
  have Hc8 := Lib.hid c8
  clear c8
  have Hc9 := Lib.hid c9
  clear c9
  have Hc10 := Lib.hid c10
  clear c10
  have Hc11 := Lib.hid c11
  clear c11
  have Hc12 := Lib.hid c12
  clear c12
  have Hc13 := Lib.hid c13
  clear c13
  have Hc14 := Lib.hid c14
  clear c14
  have Hc15 := Lib.hid c15
  clear c15
  have Hc16 := Lib.hid c16
  clear c16
  have Hc17 := Lib.hid c17
  clear c17
  have Hc18 := Lib.hid c18
  clear c18
  have Hc19 := Lib.hid c19
  clear c19
  have Hc20 := Lib.hid c20
  clear c20
  have Hc21 := Lib.hid c21
  clear c21
  have Hc22 := Lib.hid c22
  clear c22
  have Hc23 := Lib.hid c23
  clear c23
  have Hc24 := Lib.hid c24
  clear c24
  have Hc25 := Lib.hid c25
  clear c25
  have QX := Lib.hid (fun w => (eql94 xs xs L_xs.out L_xs.out w).trans (by rw [decide_eq_true rfl]))
  have QY := Lib.hid (fun w => (eql94 ys yt L_ys.out L_yt.out w).trans (by rw [decide_eq_false hne]))
  clear hne
  have B0_ := Lib.hid (((Blk.new w  103 (tv lx ly lz)).alloc (.cells (tv mx my mz).toArray 103)).alloc (.cells (natsV .u64 (zeros 12)).toArray 103))
  have B1_ := Lib.hid ((Blk.new2 w (.cells (tv lx ly lz).toArray 103) 103 (tv mx my mz)).alloc (.cells (natsV .u64 (zeros 12)).toArray 103))
  have B2_ := Lib.hid (Blk.new3 w (.cells (tv lx ly lz).toArray 103) (.cells (tv mx my mz).toArray 103) 103 (natsV .u64 (zeros 12)))
  have bel_ := ((((Below.refl w.heap.size w).alloc (Nat.le_refl _) (.cells (tv lx ly lz).toArray 103)).alloc (by simp) (.cells (tv mx my mz).toArray 103)).alloc (by simp; omega) (.cells (natsV .u64 (zeros 12)).toArray 103))
  go_enter Try.func82, Try.ntmps82
  go_wp2_with (first | (refine wpList_load_mid rfl 103 (.tmp 2) rfl w.heap.size 0 rfl (tv lx ly lz) _ (blk_all (B0_.out)) Try.underlying103 rfl (i103 L_lx.out L_ly.out L_lz.out) ?_))
  refine (Hc1.out _).mono ?_
  rintro e w1 ⟨rfl, hbw1⟩
  have C2 := Lib.hid (B0_.out.gr hbw1)
  clear B0_
  have C3 := Lib.hid (B1_.out.gr hbw1)
  clear B1_
  have C4 := Lib.hid (B2_.out.gr hbw1)
  clear B2_
  have hbel5 := bel_.trans (Below.mono hbw1 bel_.size)
  clear bel_
  clear hbw1
  go_wp2_with (first | (refine wpList_load_mid rfl 103 (.tmp 3) rfl (w.heap.size + 1) 0 rfl (tv mx my mz) _ (blk_all (C3.out)) Try.underlying103 rfl (i103 L_mx.out L_my.out L_mz.out) ?_))
  refine (Hc2.out _).mono ?_
  rintro e w6 ⟨rfl, hbw6⟩
  have C7 := Lib.hid (C2.out.gr hbw6)
  clear C2
  have C8 := Lib.hid (C3.out.gr hbw6)
  clear C3
  have C9 := Lib.hid (C4.out.gr hbw6)
  clear C4
  have hbel10 := hbel5.trans (Below.mono hbw6 hbel5.size)
  clear hbel5
  clear hbw6
  go_wp2_with fail
  as_aux_lemma =>
  refine wp_region_G (fun w_ => Blk w_ w.heap.size 103 (tv lx ly lz) ∧ Blk w_ (w.heap.size + 1) 103 (tv mx my mz)) 9 (by kernel_rfl) ⟨C7.out.drew, C8.out.drew⟩ ?_
  refine wpAnyG_take (fun _ _ hS_ hb_ => ⟨hS_.1.gr hb_, hS_.2.gr hb_⟩) (i := 0) rfl (by kernel_rfl) (fun _ _ _ h => h) (pureG (by rfl) (by intro w; go_simp; first | done | with_reducible rfl)) ?_
  try simp only [Act.put, zq1, zq2, zq3, zq4, zq5, zq6]
  refine wpAnyG_take (fun _ _ hS_ hb_ => ⟨hS_.1.gr hb_, hS_.2.gr hb_⟩) (i := 1) rfl (by kernel_rfl) (fun _ _ _ h => h) (loadG (by rfl) _ _ rfl _ _ rfl (natsV .u64 lz) _ (fun _ hS_ => tv_z (hS_.1) L_lx.out L_ly.out) Try.underlying94 rfl (i94 L_lz.out)) ?_
  try simp only [Act.put, zq1, zq2, zq3, zq4, zq5, zq6]
  refine wpAnyG_take (fun _ _ hS_ hb_ => ⟨hS_.1.gr hb_, hS_.2.gr hb_⟩) (i := 2) rfl (by kernel_rfl) (fun _ _ _ h => h) (callG (by rfl) rfl Try.func72 (by kernel_rfl) (by kernel_rfl) (#[.agg (natsV .u64 lz).toArray]) (by simp [Act.eval]) (fun w _ => Hc3.out w)) ?_
  try simp only [Act.put, zq1, zq2, zq3, zq4, zq5, zq6]
  refine wpAnyG_take (fun _ _ hS_ hb_ => ⟨hS_.1.gr hb_, hS_.2.gr hb_⟩) (i := 3) rfl (by kernel_rfl) (fun _ _ _ h => h) (pureG (by rfl) (by intro w; go_simp; first | done | with_reducible rfl)) ?_
  try simp only [Act.put, zq1, zq2, zq3, zq4, zq5, zq6]
  refine wpAnyG_take (fun _ _ hS_ hb_ => ⟨hS_.1.gr hb_, hS_.2.gr hb_⟩) (i := 4) rfl (by kernel_rfl) (fun _ _ _ h => h) (loadG (by rfl) _ _ rfl _ _ rfl (natsV .u64 mz) _ (fun _ hS_ => tv_z (hS_.2) L_mx.out L_my.out) Try.underlying94 rfl (i94 L_mz.out)) ?_
  try simp only [Act.put, zq1, zq2, zq3, zq4, zq5, zq6]
  refine wpAnyG_take (fun _ _ hS_ hb_ => ⟨hS_.1.gr hb_, hS_.2.gr hb_⟩) (i := 5) rfl (by kernel_rfl) (fun _ _ _ h => h) (callG (by rfl) rfl Try.func72 (by kernel_rfl) (by kernel_rfl) (#[.agg (natsV .u64 mz).toArray]) (by simp [Act.eval]) (fun w _ => Hc4.out w)) ?_
  try simp only [Act.put, zq1, zq2, zq3, zq4, zq5, zq6]
  refine wpAnyG_def2 (i := 6) (j := 7) (k := 8) (l := 9) (fun _ _ hS_ hb_ => ⟨hS_.1.gr hb_, hS_.2.gr hb_⟩) (by kernel_rfl) (by kernel_rfl) (by kernel_rfl) (by kernel_rfl) (by kernel_rfl) (by kernel_rfl) (by decide) rfl rfl rfl rfl rfl (allocG (by rfl) rfl _ alloc94) (allocG (by rfl) rfl _ alloc94) (fun _ => allocG (by rfl) rfl _ alloc94) (fun _ => allocG (by rfl) rfl _ alloc94) (fun _ _ => rfl) (lenEq (show (natsV .u64 (zeros 4)).length = 4 from rfl) (by rw [natsV_length, L_ss.out])) (lenEq (show (natsV .u64 (zeros 4)).length = 4 from rfl) (by rw [natsV_length, L_st.out])) (fun _ _ => StoresG.mk (cs := (natsV .u64 ss)) (by rfl) 94 _ _ rfl rfl rfl (i94 L_ss.out) (natsV_one _ _)) (fun _ _ => StoresG.mk (cs := (natsV .u64 st)) (by rfl) 94 _ _ rfl rfl rfl (i94 L_st.out) (natsV_one _ _)) (fun g_ w_ hS_ hz_ hb_ => ⟨(hS_.1.gr hb_).row _ (Nat.ne_of_lt (Nat.lt_of_lt_of_le hS_.1.lt hz_)), (hS_.2.gr hb_).row _ (Nat.ne_of_lt (Nat.lt_of_lt_of_le hS_.2.lt hz_))⟩) (⟨C7.out.drew, C8.out.drew⟩) ?_
  intro w11 G12 G13 hgw11 hz_ hz2_ hne_ hn_ hn2_
  try simp only [Act.put, zq1, zq2, zq3, zq4, zq5, zq6]
  have E14 := Lib.hid (C7.out.drew.gr hgw11)
  clear C7
  have E15 := Lib.hid (C8.out.drew.gr hgw11)
  clear C8
  have E16 := Lib.hid (C9.out.drew.gr hgw11)
  clear C9
  have hbel17 := hbel10.drew.trans (Below.mono hgw11 hbel10.drew.size)
  clear hbel10
  have D18 := Lib.hid hn_
  have D19 := Lib.hid hn2_
  clear hn_ hn2_ hz_ hz2_ hne_ hgw11
  as_aux_lemma =>
  go_wp2_with fail
  as_aux_lemma =>
  refine wp_region_G (fun w_ => Blk w_ w.heap.size 103 (tv lx ly lz) ∧ Blk w_ G13 94 (natsV .u64 st) ∧ Blk w_ (w.heap.size + 1) 103 (tv mx my mz) ∧ Blk w_ G12 94 (natsV .u64 ss)) 11 (by kernel_rfl) ⟨E14.out.drew, D19.out.drew, E15.out.drew, D18.out.drew⟩ ?_
  refine wpAnyG_take (fun _ _ hS_ hb_ => ⟨hS_.1.gr hb_, hS_.2.1.gr hb_, hS_.2.2.1.gr hb_, hS_.2.2.2.gr hb_⟩) (i := 0) rfl (by kernel_rfl) (fun _ _ _ h => h) (pureG (by rfl) (by intro w; go_simp; first | done | with_reducible rfl)) ?_
  try simp only [Act.put, zq1, zq2, zq3, zq4, zq5, zq6]
  refine wpAnyG_take (fun _ _ hS_ hb_ => ⟨hS_.1.gr hb_, hS_.2.1.gr hb_, hS_.2.2.1.gr hb_, hS_.2.2.2.gr hb_⟩) (i := 1) rfl (by kernel_rfl) (fun _ _ _ h => h) (loadG (by rfl) _ _ rfl _ _ rfl (natsV .u64 lx) _ (fun _ hS_ => tv_x (hS_.1)) Try.underlying94 rfl (i94 L_lx.out)) ?_
  try simp only [Act.put, zq1, zq2, zq3, zq4, zq5, zq6]
  refine wpAnyG_take (fun _ _ hS_ hb_ => ⟨hS_.1.gr hb_, hS_.2.1.gr hb_, hS_.2.2.1.gr hb_, hS_.2.2.2.gr hb_⟩) (i := 2) rfl (by kernel_rfl) (fun _ _ _ h => h) (loadG (by rfl) _ _ rfl _ _ rfl (natsV .u64 st) _ (fun _ hS_ => blk_all (hS_.2.1)) Try.underlying94 rfl (i94 L_st.out)) ?_
  try simp only [Act.put, zq1, zq2, zq3, zq4, zq5, zq6]
  refine wpAnyG_take (fun _ _ hS_ hb_ => ⟨hS_.1.gr hb_, hS_.2.1.gr hb_, hS_.2.2.1.gr hb_, hS_.2.2.2.gr hb_⟩) (i := 3) rfl (by kernel_rfl) (fun _ _ _ h => h) (callG (by rfl) rfl Try.func108 (by kernel_rfl) (by kernel_rfl) (#[.agg (natsV .u64 lx).toArray, .agg (natsV .u64 st).toArray]) (by simp [Act.eval]) (fun w _ => Hc5.out w)) ?_
  try simp only [Act.put, zq1, zq2, zq3, zq4, zq5, zq6]
  refine wpAnyG_take (fun _ _ hS_ hb_ => ⟨hS_.1.gr hb_, hS_.2.1.gr hb_, hS_.2.2.1.gr hb_, hS_.2.2.2.gr hb_⟩) (i := 4) rfl (by kernel_rfl) (fun _ _ _ h => h) (pureG (by rfl) (by intro w; go_simp; first | done | with_reducible rfl)) ?_
  try simp only [Act.put, zq1, zq2, zq3, zq4, zq5, zq6]
  refine wpAnyG_take (fun _ _ hS_ hb_ => ⟨hS_.1.gr hb_, hS_.2.1.gr hb_, hS_.2.2.1.gr hb_, hS_.2.2.2.gr hb_⟩) (i := 5) rfl (by kernel_rfl) (fun _ _ _ h => h) (loadG (by rfl) _ _ rfl _ _ rfl (natsV .u64 mx) _ (fun _ hS_ => tv_x (hS_.2.2.1)) Try.underlying94 rfl (i94 L_mx.out)) ?_
  try simp only [Act.put, zq1, zq2, zq3, zq4, zq5, zq6]
  refine wpAnyG_take (fun _ _ hS_ hb_ => ⟨hS_.1.gr hb_, hS_.2.1.gr hb_, hS_.2.2.1.gr hb_, hS_.2.2.2.gr hb_⟩) (i := 6) rfl (by kernel_rfl) (fun _ _ _ h => h) (loadG (by rfl) _ _ rfl _ _ rfl (natsV .u64 ss) _ (fun _ hS_ => blk_all (hS_.2.2.2)) Try.underlying94 rfl (i94 L_ss.out)) ?_
  try simp only [Act.put, zq1, zq2, zq3, zq4, zq5, zq6]
  refine wpAnyG_take (fun _ _ hS_ hb_ => ⟨hS_.1.gr hb_, hS_.2.1.gr hb_, hS_.2.2.1.gr hb_, hS_.2.2.2.gr hb_⟩) (i := 7) rfl (by kernel_rfl) (fun _ _ _ h => h) (callG (by rfl) rfl Try.func108 (by kernel_rfl) (by kernel_rfl) (#[.agg (natsV .u64 mx).toArray, .agg (natsV .u64 ss).toArray]) (by simp [Act.eval]) (fun w _ => Hc6.out w)) ?_
  try simp only [Act.put, zq1, zq2, zq3, zq4, zq5, zq6]
  refine wpAnyG_def2 (i := 8) (j := 9) (k := 10) (l := 11) (fun _ _ hS_ hb_ => ⟨hS_.1.gr hb_, hS_.2.1.gr hb_, hS_.2.2.1.gr hb_, hS_.2.2.2.gr hb_⟩) (by kernel_rfl) (by kernel_rfl) (by kernel_rfl) (by kernel_rfl) (by kernel_rfl) (by kernel_rfl) (by decide) rfl rfl rfl rfl rfl (allocG (by rfl) rfl _ alloc94) (allocG (by rfl) rfl _ alloc94) (fun _ => allocG (by rfl) rfl _ alloc94) (fun _ => allocG (by rfl) rfl _ alloc94) (fun _ _ => rfl) (lenEq (show (natsV .u64 (zeros 4)).length = 4 from rfl) (by rw [natsV_length, L_xs.out])) (lenEq (show (natsV .u64 (zeros 4)).length = 4 from rfl) (by rw [natsV_length, L_xs.out])) (fun _ _ => StoresG.mk (cs := (natsV .u64 xs)) (by rfl) 94 _ _ rfl rfl rfl (i94 L_xs.out) (natsV_one _ _)) (fun _ _ => StoresG.mk (cs := (natsV .u64 xs)) (by rfl) 94 _ _ rfl rfl rfl (i94 L_xs.out) (natsV_one _ _)) (fun g_ w_ hS_ hz_ hb_ => ⟨(hS_.1.gr hb_).row _ (Nat.ne_of_lt (Nat.lt_of_lt_of_le hS_.1.lt hz_)), (hS_.2.1.gr hb_).row _ (Nat.ne_of_lt (Nat.lt_of_lt_of_le hS_.2.1.lt hz_)), (hS_.2.2.1.gr hb_).row _ (Nat.ne_of_lt (Nat.lt_of_lt_of_le hS_.2.2.1.lt hz_)), (hS_.2.2.2.gr hb_).row _ (Nat.ne_of_lt (Nat.lt_of_lt_of_le hS_.2.2.2.lt hz_))⟩) (⟨E14.out.drew, D19.out.drew, E15.out.drew, D18.out.drew⟩) ?_
  intro w20 G21 G22 hgw20 hz_ hz2_ hne_ hn_ hn2_
  try simp only [Act.put, zq1, zq2, zq3, zq4, zq5, zq6]
  have E23 := Lib.hid (E14.out.drew.gr hgw20)
  clear E14
  have E24 := Lib.hid (E15.out.drew.gr hgw20)
  clear E15
  have E25 := Lib.hid (E16.out.drew.gr hgw20)
  clear E16
  have E26 := Lib.hid (D18.out.drew.gr hgw20)
  clear D18
  have E27 := Lib.hid (D19.out.drew.gr hgw20)
  clear D19
  have hbel28 := hbel17.drew.trans (Below.mono hgw20 hbel17.drew.size)
  clear hbel17
  have D29 := Lib.hid hn_
  have D30 := Lib.hid hn2_
  clear hn_ hn2_ hz_ hz2_ hne_ hgw20
  as_aux_lemma =>
  go_wp2_with fail
  as_aux_lemma =>
  refine wp_region_G (fun w_ => Blk w_ w.heap.size 103 (tv lx ly lz) ∧ Blk w_ G13 94 (natsV .u64 st) ∧ Blk w_ (w.heap.size + 1) 103 (tv mx my mz) ∧ Blk w_ G12 94 (natsV .u64 ss)) 17 (by kernel_rfl) ⟨E23.out.drew, E27.out.drew, E24.out.drew, E26.out.drew⟩ ?_
  refine wpAnyG_take (fun _ _ hS_ hb_ => ⟨hS_.1.gr hb_, hS_.2.1.gr hb_, hS_.2.2.1.gr hb_, hS_.2.2.2.gr hb_⟩) (i := 0) rfl (by kernel_rfl) (fun _ _ _ h => h) (pureG (by rfl) (by intro w; go_simp; first | done | with_reducible rfl)) ?_
  try simp only [Act.put, zq1, zq2, zq3, zq4, zq5, zq6]
  refine wpAnyG_take (fun _ _ hS_ hb_ => ⟨hS_.1.gr hb_, hS_.2.1.gr hb_, hS_.2.2.1.gr hb_, hS_.2.2.2.gr hb_⟩) (i := 1) rfl (by kernel_rfl) (fun _ _ _ h => h) (loadG (by rfl) _ _ rfl _ _ rfl (natsV .u64 ly) _ (fun _ hS_ => tv_y (hS_.1) L_lx.out) Try.underlying94 rfl (i94 L_ly.out)) ?_
  try simp only [Act.put, zq1, zq2, zq3, zq4, zq5, zq6]
  refine wpAnyG_take (fun _ _ hS_ hb_ => ⟨hS_.1.gr hb_, hS_.2.1.gr hb_, hS_.2.2.1.gr hb_, hS_.2.2.2.gr hb_⟩) (i := 2) rfl (by kernel_rfl) (fun _ _ _ h => h) (loadG (by rfl) _ _ rfl _ _ rfl (natsV .u64 st) _ (fun _ hS_ => blk_all (hS_.2.1)) Try.underlying94 rfl (i94 L_st.out)) ?_
  try simp only [Act.put, zq1, zq2, zq3, zq4, zq5, zq6]
  refine wpAnyG_take (fun _ _ hS_ hb_ => ⟨hS_.1.gr hb_, hS_.2.1.gr hb_, hS_.2.2.1.gr hb_, hS_.2.2.2.gr hb_⟩) (i := 3) rfl (by kernel_rfl) (fun _ _ _ h => h) (callG (by rfl) rfl Try.func108 (by kernel_rfl) (by kernel_rfl) (#[.agg (natsV .u64 ly).toArray, .agg (natsV .u64 st).toArray]) (by simp [Act.eval]) (fun w _ => Hc7.out w)) ?_
  try simp only [Act.put, zq1, zq2, zq3, zq4, zq5, zq6]
  refine wpAnyG_take (fun _ _ hS_ hb_ => ⟨hS_.1.gr hb_, hS_.2.1.gr hb_, hS_.2.2.1.gr hb_, hS_.2.2.2.gr hb_⟩) (i := 4) rfl (by kernel_rfl) (fun _ _ _ h => h) (pureG (by rfl) (by intro w; go_simp; first | done | with_reducible rfl)) ?_
  try simp only [Act.put, zq1, zq2, zq3, zq4, zq5, zq6]
  refine wpAnyG_take (fun _ _ hS_ hb_ => ⟨hS_.1.gr hb_, hS_.2.1.gr hb_, hS_.2.2.1.gr hb_, hS_.2.2.2.gr hb_⟩) (i := 5) rfl (by kernel_rfl) (fun _ _ _ h => h) (loadG (by rfl) _ _ rfl _ _ rfl (natsV .u64 mz) _ (fun _ hS_ => tv_z (hS_.2.2.1) L_mx.out L_my.out) Try.underlying94 rfl (i94 L_mz.out)) ?_
  try simp only [Act.put, zq1, zq2, zq3, zq4, zq5, zq6]
  refine wpAnyG_take (fun _ _ hS_ hb_ => ⟨hS_.1.gr hb_, hS_.2.1.gr hb_, hS_.2.2.1.gr hb_, hS_.2.2.2.gr hb_⟩) (i := 6) rfl (by kernel_rfl) (fun _ _ _ h => h) (callG (by rfl) rfl Try.func108 (by kernel_rfl) (by kernel_rfl) (#[.agg (natsV .u64 y1).toArray, .agg (natsV .u64 mz).toArray]) (by simp [Act.eval]) (fun w _ => Hc8.out w)) ?_
  try simp only [Act.put, zq1, zq2, zq3, zq4, zq5, zq6]
  refine wpAnyG_take (fun _ _ hS_ hb_ => ⟨hS_.1.gr hb_, hS_.2.1.gr hb_, hS_.2.2.1.gr hb_, hS_.2.2.2.gr hb_⟩) (i := 7) rfl (by kernel_rfl) (fun _ _ _ h => h) (pureG (by rfl) (by intro w; go_simp; first | done | with_reducible rfl)) ?_
  try simp only [Act.put, zq1, zq2, zq3, zq4, zq5, zq6]
  refine wpAnyG_take (fun _ _ hS_ hb_ => ⟨hS_.1.gr hb_, hS_.2.1.gr hb_, hS_.2.2.1.gr hb_, hS_.2.2.2.gr hb_⟩) (i := 8) rfl (by kernel_rfl) (fun _ _ _ h => h) (loadG (by rfl) _ _ rfl _ _ rfl (natsV .u64 my) _ (fun _ hS_ => tv_y (hS_.2.2.1) L_mx.out) Try.underlying94 rfl (i94 L_my.out)) ?_
  try simp only [Act.put, zq1, zq2, zq3, zq4, zq5, zq6]
  refine wpAnyG_take (fun _ _ hS_ hb_ => ⟨hS_.1.gr hb_, hS_.2.1.gr hb_, hS_.2.2.1.gr hb_, hS_.2.2.2.gr hb_⟩) (i := 9) rfl (by kernel_rfl) (fun _ _ _ h => h) (loadG (by rfl) _ _ rfl _ _ rfl (natsV .u64 ss) _ (fun _ hS_ => blk_all (hS_.2.2.2)) Try.underlying94 rfl (i94 L_ss.out)) ?_
  try simp only [Act.put, zq1, zq2, zq3, zq4, zq5, zq6]
  refine wpAnyG_take (fun _ _ hS_ hb_ => ⟨hS_.1.gr hb_, hS_.2.1.gr hb_, hS_.2.2.1.gr hb_, hS_.2.2.2.gr hb_⟩) (i := 10) rfl (by kernel_rfl) (fun _ _ _ h => h) (callG (by rfl) rfl Try.func108 (by kernel_rfl) (by kernel_rfl) (#[.agg (natsV .u64 my).toArray, .agg (natsV .u64 ss).toArray]) (by simp [Act.eval]) (fun w _ => Hc9.out w)) ?_
  try simp only [Act.put, zq1, zq2, zq3, zq4, zq5, zq6]
  refine wpAnyG_take (fun _ _ hS_ hb_ => ⟨hS_.1.gr hb_, hS_.2.1.gr hb_, hS_.2.2.1.gr hb_, hS_.2.2.2.gr hb_⟩) (i := 11) rfl (by kernel_rfl) (fun _ _ _ h => h) (pureG (by rfl) (by intro w; go_simp; first | done | with_reducible rfl)) ?_
  try simp only [Act.put, zq1, zq2, zq3, zq4, zq5, zq6]
  refine wpAnyG_take (fun _ _ hS_ hb_ => ⟨hS_.1.gr hb_, hS_.2.1.gr hb_, hS_.2.2.1.gr hb_, hS_.2.2.2.gr hb_⟩) (i := 12) rfl (by kernel_rfl) (fun _ _ _ h => h) (loadG (by rfl) _ _ rfl _ _ rfl (natsV .u64 lz) _ (fun _ hS_ => tv_z (hS_.1) L_lx.out L_ly.out) Try.underlying94 rfl (i94 L_lz.out)) ?_
  try simp only [Act.put, zq1, zq2, zq3, zq4, zq5, zq6]
  refine wpAnyG_take (fun _ _ hS_ hb_ => ⟨hS_.1.gr hb_, hS_.2.1.gr hb_, hS_.2.2.1.gr hb_, hS_.2.2.2.gr hb_⟩) (i := 13) rfl (by kernel_rfl) (fun _ _ _ h => h) (callG (by rfl) rfl Try.func108 (by kernel_rfl) (by kernel_rfl) (#[.agg (natsV .u64 y2).toArray, .agg (natsV .u64 lz).toArray]) (by simp [Act.eval]) (fun w _ => Hc10.out w)) ?_
  try simp only [Act.put, zq1, zq2, zq3, zq4, zq5, zq6]
  refine wpAnyG_def2 (i := 14) (j := 15) (k := 16) (l := 17) (fun _ _ hS_ hb_ => ⟨hS_.1.gr hb_, hS_.2.1.gr hb_, hS_.2.2.1.gr hb_, hS_.2.2.2.gr hb_⟩) (by kernel_rfl) (by kernel_rfl) (by kernel_rfl) (by kernel_rfl) (by kernel_rfl) (by kernel_rfl) (by decide) rfl rfl rfl rfl rfl (allocG (by rfl) rfl _ alloc94) (allocG (by rfl) rfl _ alloc94) (fun _ => allocG (by rfl) rfl _ alloc94) (fun _ => allocG (by rfl) rfl _ alloc94) (fun _ _ => rfl) (lenEq (show (natsV .u64 (zeros 4)).length = 4 from rfl) (by rw [natsV_length, L_ys.out])) (lenEq (show (natsV .u64 (zeros 4)).length = 4 from rfl) (by rw [natsV_length, L_yt.out])) (fun _ _ => StoresG.mk (cs := (natsV .u64 ys)) (by rfl) 94 _ _ rfl rfl rfl (i94 L_ys.out) (natsV_one _ _)) (fun _ _ => StoresG.mk (cs := (natsV .u64 yt)) (by rfl) 94 _ _ rfl rfl rfl (i94 L_yt.out) (natsV_one _ _)) (fun g_ w_ hS_ hz_ hb_ => ⟨(hS_.1.gr hb_).row _ (Nat.ne_of_lt (Nat.lt_of_lt_of_le hS_.1.lt hz_)), (hS_.2.1.gr hb_).row _ (Nat.ne_of_lt (Nat.lt_of_lt_of_le hS_.2.1.lt hz_)), (hS_.2.2.1.gr hb_).row _ (Nat.ne_of_lt (Nat.lt_of_lt_of_le hS_.2.2.1.lt hz_)), (hS_.2.2.2.gr hb_).row _ (Nat.ne_of_lt (Nat.lt_of_lt_of_le hS_.2.2.2.lt hz_))⟩) (⟨E23.out.drew, E27.out.drew, E24.out.drew, E26.out.drew⟩) ?_
  intro w31 G32 G33 hgw31 hz_ hz2_ hne_ hn_ hn2_
  try simp only [Act.put, zq1, zq2, zq3, zq4, zq5, zq6]
  have E34 := Lib.hid (E23.out.drew.gr hgw31)
  clear E23
  have E35 := Lib.hid (E24.out.drew.gr hgw31)
  clear E24
  have E36 := Lib.hid (E25.out.drew.gr hgw31)
  clear E25
  have E37 := Lib.hid (E26.out.drew.gr hgw31)
  clear E26
  have E38 := Lib.hid (E27.out.drew.gr hgw31)
  clear E27
  have E39 := Lib.hid (D29.out.drew.gr hgw31)
  clear D29
  have E40 := Lib.hid (D30.out.drew.gr hgw31)
  clear D30
  have hbel41 := hbel28.drew.trans (Below.mono hgw31 hbel28.drew.size)
  clear hbel28
  have D42 := Lib.hid hn_
  have D43 := Lib.hid hn2_
  clear hn_ hn2_ hz_ hz2_ hne_ hgw31
  as_aux_lemma =>
  have qx := QX.out
  have qy := QY.out
  go_wp2_with (first | (refine wpList_load_mid rfl 94 (.tmp 7) rfl G21 0 rfl (natsV .u64 xs) _ (blk_all (E39.out)) Try.underlying94 rfl (i94 L_xs.out) ?_) | (refine wpList_load_mid rfl 94 (.tmp 8) rfl G22 0 rfl (natsV .u64 xs) _ (blk_all (E40.out)) Try.underlying94 rfl (i94 L_xs.out) ?_) | (refine ldw 94 (.tmp 9) rfl G32 rfl .u64 ys D42.out _ _ Try.underlying94 (by rw [info94, L_ys.out]) 3 rfl 55 rfl rfl ?_) | (refine ldw 94 (.tmp 10) rfl G33 rfl .u64 yt D43.out _ _ Try.underlying94 (by rw [info94, L_yt.out]) 3 rfl 55 rfl rfl ?_))
  as_aux_lemma =>
  refine wp_region_G (fun w_ => Blk w_ G22 94 (natsV .u64 xs) ∧ Blk w_ G21 94 (natsV .u64 xs) ∧ Blk w_ G33 94 (natsV .u64 yt) ∧ Blk w_ G32 94 (natsV .u64 ys)) 9 (by kernel_rfl) ⟨E40.out.drew, E39.out.drew, D43.out.drew, D42.out.drew⟩ ?_
  refine wpAnyG_take (fun _ _ hS_ hb_ => ⟨hS_.1.gr hb_, hS_.2.1.gr hb_, hS_.2.2.1.gr hb_, hS_.2.2.2.gr hb_⟩) (i := 0) rfl (by kernel_rfl) (fun _ _ _ h => h) (loadG (by rfl) _ _ rfl _ _ rfl (natsV .u64 xs) _ (fun _ hS_ => blk_all (hS_.1)) Try.underlying94 rfl (i94 L_xs.out)) ?_
  try simp only [Act.put, zq1, zq2, zq3, zq4, zq5, zq6]
  refine wpAnyG_take (fun _ _ hS_ hb_ => ⟨hS_.1.gr hb_, hS_.2.1.gr hb_, hS_.2.2.1.gr hb_, hS_.2.2.2.gr hb_⟩) (i := 1) rfl (by kernel_rfl) (fun _ _ _ h => h) (loadG (by rfl) _ _ rfl _ _ rfl (natsV .u64 xs) _ (fun _ hS_ => blk_all (hS_.2.1)) Try.underlying94 rfl (i94 L_xs.out)) ?_
  try simp only [Act.put, zq1, zq2, zq3, zq4, zq5, zq6]
  refine wpAnyG_take (fun _ _ hS_ hb_ => ⟨hS_.1.gr hb_, hS_.2.1.gr hb_, hS_.2.2.1.gr hb_, hS_.2.2.2.gr hb_⟩) (i := 2) rfl (by kernel_rfl) (fun _ _ _ h => h) (callG (by rfl) rfl Try.func111 (by kernel_rfl) (by kernel_rfl) (#[.agg (natsV .u64 xs).toArray, .agg (natsV .u64 xs).toArray]) (by simp [Act.eval]) (fun w _ => Hc11.out w)) ?_
  try simp only [Act.put, zq1, zq2, zq3, zq4, zq5, zq6]
  refine wpAnyG_take (fun _ _ hS_ hb_ => ⟨hS_.1.gr hb_, hS_.2.1.gr hb_, hS_.2.2.1.gr hb_, hS_.2.2.2.gr hb_⟩) (i := 3) rfl (by kernel_rfl) (fun _ _ _ h => h) (loadG (by rfl) _ _ rfl _ _ rfl (natsV .u64 yt) _ (fun _ hS_ => blk_all (hS_.2.2.1)) Try.underlying94 rfl (i94 L_yt.out)) ?_
  try simp only [Act.put, zq1, zq2, zq3, zq4, zq5, zq6]
  refine wpAnyG_take (fun _ _ hS_ hb_ => ⟨hS_.1.gr hb_, hS_.2.1.gr hb_, hS_.2.2.1.gr hb_, hS_.2.2.2.gr hb_⟩) (i := 4) rfl (by kernel_rfl) (fun _ _ _ h => h) (loadG (by rfl) _ _ rfl _ _ rfl (natsV .u64 ys) _ (fun _ hS_ => blk_all (hS_.2.2.2)) Try.underlying94 rfl (i94 L_ys.out)) ?_
  try simp only [Act.put, zq1, zq2, zq3, zq4, zq5, zq6]
  refine wpAnyG_take (fun _ _ hS_ hb_ => ⟨hS_.1.gr hb_, hS_.2.1.gr hb_, hS_.2.2.1.gr hb_, hS_.2.2.2.gr hb_⟩) (i := 5) rfl (by kernel_rfl) (fun _ _ _ h => h) (callG (by rfl) rfl Try.func111 (by kernel_rfl) (by kernel_rfl) (#[.agg (natsV .u64 yt).toArray, .agg (natsV .u64 ys).toArray]) (by simp [Act.eval]) (fun w _ => Hc12.out w)) ?_
  try simp only [Act.put, zq1, zq2, zq3, zq4, zq5, zq6]
  refine wpAnyG_def2 (i := 6) (j := 7) (k := 8) (l := 9) (fun _ _ hS_ hb_ => ⟨hS_.1.gr hb_, hS_.2.1.gr hb_, hS_.2.2.1.gr hb_, hS_.2.2.2.gr hb_⟩) (by kernel_rfl) (by kernel_rfl) (by kernel_rfl) (by kernel_rfl) (by kernel_rfl) (by kernel_rfl) (by decide) rfl rfl rfl rfl rfl (allocG (by rfl) rfl _ alloc94) (allocG (by rfl) rfl _ alloc94) (fun _ => allocG (by rfl) rfl _ alloc94) (fun _ => allocG (by rfl) rfl _ alloc94) (fun _ _ => rfl) (lenEq (show (natsV .u64 (zeros 4)).length = 4 from rfl) (by rw [natsV_length, L_run.out])) (lenEq (show (natsV .u64 (zeros 4)).length = 4 from rfl) (by rw [natsV_length, L_rise.out])) (fun _ _ => StoresG.mk (cs := (natsV .u64 run)) (by rfl) 94 _ _ rfl rfl rfl (i94 L_run.out) (natsV_one _ _)) (fun _ _ => StoresG.mk (cs := (natsV .u64 rise)) (by rfl) 94 _ _ rfl rfl rfl (i94 L_rise.out) (natsV_one _ _)) (fun g_ w_ hS_ hz_ hb_ => ⟨(hS_.1.gr hb_).row _ (Nat.ne_of_lt (Nat.lt_of_lt_of_le hS_.1.lt hz_)), (hS_.2.1.gr hb_).row _ (Nat.ne_of_lt (Nat.lt_of_lt_of_le hS_.2.1.lt hz_)), (hS_.2.2.1.gr hb_).row _ (Nat.ne_of_lt (Nat.lt_of_lt_of_le hS_.2.2.1.lt hz_)), (hS_.2.2.2.gr hb_).row _ (Nat.ne_of_lt (Nat.lt_of_lt_of_le hS_.2.2.2.lt hz_))⟩) (⟨E40.out.drew, E39.out.drew, D43.out.drew, D42.out.drew⟩) ?_
  intro w44 G45 G46 hgw44 hz_ hz2_ hne_ hn_ hn2_
  try simp only [Act.put, zq1, zq2, zq3, zq4, zq5, zq6]
  have E47 := Lib.hid (E34.out.drew.gr hgw44)
  clear E34
  have E48 := Lib.hid (E35.out.drew.gr hgw44)
  clear E35
  have E49 := Lib.hid (E36.out.drew.gr hgw44)
  clear E36
  have E50 := Lib.hid (E37.out.drew.gr hgw44)
  clear E37
  have E51 := Lib.hid (E38.out.drew.gr hgw44)
  clear E38
  have E52 := Lib.hid (E39.out.drew.gr hgw44)
  clear E39
  have E53 := Lib.hid (E40.out.drew.gr hgw44)
  clear E40
  have E54 := Lib.hid (D42.out.drew.gr hgw44)
  clear D42
  have E55 := Lib.hid (D43.out.drew.gr hgw44)
  clear D43
  have hbel56 := hbel41.drew.trans (Below.mono hgw44 hbel41.drew.size)
  clear hbel41
  have D57 := Lib.hid hn_
  have D58 := Lib.hid hn2_
  clear hn_ hn2_ hz_ hz2_ hne_ hgw44
  as_aux_lemma =>
  go_wp2_with (first | (refine wpList_load_mid rfl 94 (.tmp 11) rfl G45 0 rfl (natsV .u64 run) _ (blk_all (D57.out)) Try.underlying94 rfl (i94 L_run.out) ?_))
  refine (Hc13.out _).mono ?_
  rintro e w59 ⟨rfl, hbw59⟩
  have C60 := Lib.hid (E47.out.gr hbw59)
  clear E47
  have C61 := Lib.hid (E48.out.gr hbw59)
  clear E48
  have C62 := Lib.hid (E49.out.gr hbw59)
  clear E49
  have C63 := Lib.hid (E50.out.gr hbw59)
  clear E50
  have C64 := Lib.hid (E51.out.gr hbw59)
  clear E51
  have C65 := Lib.hid (E52.out.gr hbw59)
  clear E52
  have C66 := Lib.hid (E53.out.gr hbw59)
  clear E53
  have C67 := Lib.hid (E54.out.gr hbw59)
  clear E54
  have C68 := Lib.hid (E55.out.gr hbw59)
  clear E55
  have C69 := Lib.hid (D57.out.gr hbw59)
  clear D57
  have C70 := Lib.hid (D58.out.gr hbw59)
  clear D58
  have hbel71 := hbel56.trans (Below.mono hbw59 hbel56.size)
  clear hbel56
  clear hbw59
  go_wp2_with (first | (refine stB rfl 94 (.tmp 13) (.tmp 69) rfl w59.heap.size rfl (natsV .u64 sq) rfl 94 (natsV .u64 (zeros 4)) (Blk.new w59 94 (natsV .u64 (zeros 4))) (i94 L_sq.out) (lenEq (show (natsV .u64 (zeros 4)).length = 4 from rfl) (by rw [natsV_length, L_sq.out])) (natsV_one _ _) ?_; generalize hW : World.setRow _ _ _ = w72; obtain ⟨hgw72, hnw72⟩ := newfacts hW; clear hW; have C74 := Lib.hid (C60.out.gr hgw72); clear C60; have C75 := Lib.hid (C61.out.gr hgw72); clear C61; have C76 := Lib.hid (C62.out.gr hgw72); clear C62; have C77 := Lib.hid (C63.out.gr hgw72); clear C63; have C78 := Lib.hid (C64.out.gr hgw72); clear C64; have C79 := Lib.hid (C65.out.gr hgw72); clear C65; have C80 := Lib.hid (C66.out.gr hgw72); clear C66; have C81 := Lib.hid (C67.out.gr hgw72); clear C67; have C82 := Lib.hid (C68.out.gr hgw72); clear C68; have C83 := Lib.hid (C69.out.gr hgw72); clear C69; have C84 := Lib.hid (C70.out.gr hgw72); clear C70; have hbel85 := hbel71.trans (Below.mono hgw72 hbel71.size); clear hbel71; have D86 := Lib.hid hnw72; have szw72 := hgw72.size; clear hnw72 hgw72 szw72; generalize w59.heap.size = G73 at *) | (refine wpList_load_mid rfl 94 (.tmp 13) rfl G73 0 rfl (natsV .u64 sq) _ (blk_all (D86.out)) Try.underlying94 rfl (i94 L_sq.out) ?_) | (refine wpList_load_mid rfl 94 (.tmp 11) rfl G45 0 rfl (natsV .u64 run) _ (blk_all (C83.out)) Try.underlying94 rfl (i94 L_run.out) ?_))
  refine (Hc14.out _).mono ?_
  rintro e w87 ⟨rfl, hbw87⟩
  have C88 := Lib.hid (C74.out.gr hbw87)
  clear C74
  have C89 := Lib.hid (C75.out.gr hbw87)
  clear C75
  have C90 := Lib.hid (C76.out.gr hbw87)
  clear C76
  have C91 := Lib.hid (C77.out.gr hbw87)
  clear C77
  have C92 := Lib.hid (C78.out.gr hbw87)
  clear C78
  have C93 := Lib.hid (C79.out.gr hbw87)
  clear C79
  have C94 := Lib.hid (C80.out.gr hbw87)
  clear C80
  have C95 := Lib.hid (C81.out.gr hbw87)
  clear C81
  have C96 := Lib.hid (C82.out.gr hbw87)
  clear C82
  have C97 := Lib.hid (C83.out.gr hbw87)
  clear C83
  have C98 := Lib.hid (C84.out.gr hbw87)
  clear C84
  have C99 := Lib.hid (D86.out.gr hbw87)
  clear D86
  have hbel100 := hbel85.trans (Below.mono hbw87 hbel85.size)
  clear hbel85
  clear hbw87
  go_wp2_with (first | (refine stB rfl 94 (.tmp 14) (.tmp 72) rfl w87.heap.size rfl (natsV .u64 cu) rfl 94 (natsV .u64 (zeros 4)) (Blk.new w87 94 (natsV .u64 (zeros 4))) (i94 L_cu.out) (lenEq (show (natsV .u64 (zeros 4)).length = 4 from rfl) (by rw [natsV_length, L_cu.out])) (natsV_one _ _) ?_; generalize hW : World.setRow _ _ _ = w101; obtain ⟨hgw101, hnw101⟩ := newfacts hW; clear hW; have C103 := Lib.hid (C88.out.gr hgw101); clear C88; have C104 := Lib.hid (C89.out.gr hgw101); clear C89; have C105 := Lib.hid (C90.out.gr hgw101); clear C90; have C106 := Lib.hid (C91.out.gr hgw101); clear C91; have C107 := Lib.hid (C92.out.gr hgw101); clear C92; have C108 := Lib.hid (C93.out.gr hgw101); clear C93; have C109 := Lib.hid (C94.out.gr hgw101); clear C94; have C110 := Lib.hid (C95.out.gr hgw101); clear C95; have C111 := Lib.hid (C96.out.gr hgw101); clear C96; have C112 := Lib.hid (C97.out.gr hgw101); clear C97; have C113 := Lib.hid (C98.out.gr hgw101); clear C98; have C114 := Lib.hid (C99.out.gr hgw101); clear C99; have hbel115 := hbel100.trans (Below.mono hgw101 hbel100.size); clear hbel100; have D116 := Lib.hid hnw101; have szw101 := hgw101.size; clear hnw101 hgw101 szw101; generalize w87.heap.size = G102 at *) | (refine wpList_load_mid rfl 94 (.tmp 7) rfl G21 0 rfl (natsV .u64 xs) _ (blk_all (C108.out)) Try.underlying94 rfl (i94 L_xs.out) ?_) | (refine wpList_load_mid rfl 94 (.tmp 13) rfl G73 0 rfl (natsV .u64 sq) _ (blk_all (C114.out)) Try.underlying94 rfl (i94 L_sq.out) ?_))
  refine (Hc15.out _).mono ?_
  rintro e w117 ⟨rfl, hbw117⟩
  have C118 := Lib.hid (C103.out.gr hbw117)
  clear C103
  have C119 := Lib.hid (C104.out.gr hbw117)
  clear C104
  have C120 := Lib.hid (C105.out.gr hbw117)
  clear C105
  have C121 := Lib.hid (C106.out.gr hbw117)
  clear C106
  have C122 := Lib.hid (C107.out.gr hbw117)
  clear C107
  have C123 := Lib.hid (C108.out.gr hbw117)
  clear C108
  have C124 := Lib.hid (C109.out.gr hbw117)
  clear C109
  have C125 := Lib.hid (C110.out.gr hbw117)
  clear C110
  have C126 := Lib.hid (C111.out.gr hbw117)
  clear C111
  have C127 := Lib.hid (C112.out.gr hbw117)
  clear C112
  have C128 := Lib.hid (C113.out.gr hbw117)
  clear C113
  have C129 := Lib.hid (C114.out.gr hbw117)
  clear C114
  have C130 := Lib.hid (D116.out.gr hbw117)
  clear D116
  have hbel131 := hbel115.trans (Below.mono hbw117 hbel115.size)
  clear hbel115
  clear hbw117
  go_wp2_with (first | (refine stB rfl 94 (.tmp 15) (.tmp 75) rfl w117.heap.size rfl (natsV .u64 sh) rfl 94 (natsV .u64 (zeros 4)) (Blk.new w117 94 (natsV .u64 (zeros 4))) (i94 L_sh.out) (lenEq (show (natsV .u64 (zeros 4)).length = 4 from rfl) (by rw [natsV_length, L_sh.out])) (natsV_one _ _) ?_; generalize hW : World.setRow _ _ _ = w132; obtain ⟨hgw132, hnw132⟩ := newfacts hW; clear hW; have C134 := Lib.hid (C118.out.gr hgw132); clear C118; have C135 := Lib.hid (C119.out.gr hgw132); clear C119; have C136 := Lib.hid (C120.out.gr hgw132); clear C120; have C137 := Lib.hid (C121.out.gr hgw132); clear C121; have C138 := Lib.hid (C122.out.gr hgw132); clear C122; have C139 := Lib.hid (C123.out.gr hgw132); clear C123; have C140 := Lib.hid (C124.out.gr hgw132); clear C124; have C141 := Lib.hid (C125.out.gr hgw132); clear C125; have C142 := Lib.hid (C126.out.gr hgw132); clear C126; have C143 := Lib.hid (C127.out.gr hgw132); clear C127; have C144 := Lib.hid (C128.out.gr hgw132); clear C128; have C145 := Lib.hid (C129.out.gr hgw132); clear C129; have C146 := Lib.hid (C130.out.gr hgw132); clear C130; have hbel147 := hbel131.trans (Below.mono hgw132 hbel131.size); clear hbel131; have D148 := Lib.hid hnw132; have szw132 := hgw132.size; clear hnw132 hgw132 szw132; generalize w117.heap.size = G133 at *))
  as_aux_lemma =>
  refine wp_region_G (fun w_ => Blk w_ G46 94 (natsV .u64 rise) ∧ Blk w_ G102 94 (natsV .u64 cu) ∧ Blk w_ G133 94 (natsV .u64 sh)) 8 (by kernel_rfl) ⟨C144.out.drew, C146.out.drew, D148.out.drew⟩ ?_
  refine wpAnyG_take (fun _ _ hS_ hb_ => ⟨hS_.1.gr hb_, hS_.2.1.gr hb_, hS_.2.2.gr hb_⟩) (i := 0) rfl (by kernel_rfl) (fun _ _ _ h => h) (loadG (by rfl) _ _ rfl _ _ rfl (natsV .u64 rise) _ (fun _ hS_ => blk_all (hS_.1)) Try.underlying94 rfl (i94 L_rise.out)) ?_
  try simp only [Act.put, zq1, zq2, zq3, zq4, zq5, zq6]
  refine wpAnyG_take (fun _ _ hS_ hb_ => ⟨hS_.1.gr hb_, hS_.2.1.gr hb_, hS_.2.2.gr hb_⟩) (i := 1) rfl (by kernel_rfl) (fun _ _ _ h => h) (callG (by rfl) rfl Try.func72 (by kernel_rfl) (by kernel_rfl) (#[.agg (natsV .u64 rise).toArray]) (by simp [Act.eval]) (fun w _ => Hc16.out w)) ?_
  try simp only [Act.put, zq1, zq2, zq3, zq4, zq5, zq6]
  refine wpAnyG_take (fun _ _ hS_ hb_ => ⟨hS_.1.gr hb_, hS_.2.1.gr hb_, hS_.2.2.gr hb_⟩) (i := 2) rfl (by kernel_rfl) (fun _ _ _ h => h) (loadG (by rfl) _ _ rfl _ _ rfl (natsV .u64 cu) _ (fun _ hS_ => blk_all (hS_.2.1)) Try.underlying94 rfl (i94 L_cu.out)) ?_
  try simp only [Act.put, zq1, zq2, zq3, zq4, zq5, zq6]
  refine wpAnyG_take (fun _ _ hS_ hb_ => ⟨hS_.1.gr hb_, hS_.2.1.gr hb_, hS_.2.2.gr hb_⟩) (i := 3) rfl (by kernel_rfl) (fun _ _ _ h => h) (callG (by rfl) rfl Try.func111 (by kernel_rfl) (by kernel_rfl) (#[.agg (natsV .u64 r2).toArray, .agg (natsV .u64 cu).toArray]) (by simp [Act.eval]) (fun w _ => Hc17.out w)) ?_
  try simp only [Act.put, zq1, zq2, zq3, zq4, zq5, zq6]
  refine wpAnyG_take (fun _ _ hS_ hb_ => ⟨hS_.1.gr hb_, hS_.2.1.gr hb_, hS_.2.2.gr hb_⟩) (i := 4) rfl (by kernel_rfl) (fun _ _ _ h => h) (loadG (by rfl) _ _ rfl _ _ rfl (natsV .u64 sh) _ (fun _ hS_ => blk_all (hS_.2.2)) Try.underlying94 rfl (i94 L_sh.out)) ?_
  try simp only [Act.put, zq1, zq2, zq3, zq4, zq5, zq6]
  refine wpAnyG_take (fun _ _ hS_ hb_ => ⟨hS_.1.gr hb_, hS_.2.1.gr hb_, hS_.2.2.gr hb_⟩) (i := 5) rfl (by kernel_rfl) (fun _ _ _ h => h) (callG (by rfl) rfl Try.func109 (by kernel_rfl) (by kernel_rfl) (#[.agg (natsV .u64 sh).toArray]) (by simp [Act.eval]) (fun w _ => Hc18.out w)) ?_
  try simp only [Act.put, zq1, zq2, zq3, zq4, zq5, zq6]
  refine wpAnyG_take (fun _ _ hS_ hb_ => ⟨hS_.1.gr hb_, hS_.2.1.gr hb_, hS_.2.2.gr hb_⟩) (i := 6) rfl (by kernel_rfl) (fun _ _ _ h => h) (callG (by rfl) rfl Try.func111 (by kernel_rfl) (by kernel_rfl) (#[.agg (natsV .u64 r3).toArray, .agg (natsV .u64 d1).toArray]) (by simp [Act.eval]) (fun w _ => Hc19.out w)) ?_
  try simp only [Act.put, zq1, zq2, zq3, zq4, zq5, zq6]
  refine wpAnyG_def (i := 7) (j := 8) (fun _ _ hS_ hb_ => ⟨hS_.1.gr hb_, hS_.2.1.gr hb_, hS_.2.2.gr hb_⟩) (by kernel_rfl) (by kernel_rfl) (by kernel_rfl) rfl rfl rfl (allocG (by rfl) rfl _ alloc94) (lenEq (show (natsV .u64 (zeros 4)).length = 4 from rfl) (by rw [natsV_length, L_ux.out])) (fun _ => StoresG.mk (cs := (natsV .u64 ux)) (by rfl) 94 _ _ rfl rfl rfl (i94 L_ux.out) (natsV_one _ _)) ?_
  intro w149 G150 hgw149 hz_ hn_
  try simp only [Act.put, zq1, zq2, zq3, zq4, zq5, zq6]
  have E151 := Lib.hid (C134.out.drew.gr hgw149)
  clear C134
  have E152 := Lib.hid (C135.out.drew.gr hgw149)
  clear C135
  have E153 := Lib.hid (C136.out.drew.gr hgw149)
  clear C136
  have E154 := Lib.hid (C137.out.drew.gr hgw149)
  clear C137
  have E155 := Lib.hid (C138.out.drew.gr hgw149)
  clear C138
  have E156 := Lib.hid (C139.out.drew.gr hgw149)
  clear C139
  have E157 := Lib.hid (C140.out.drew.gr hgw149)
  clear C140
  have E158 := Lib.hid (C141.out.drew.gr hgw149)
  clear C141
  have E159 := Lib.hid (C142.out.drew.gr hgw149)
  clear C142
  have E160 := Lib.hid (C143.out.drew.gr hgw149)
  clear C143
  have E161 := Lib.hid (C144.out.drew.gr hgw149)
  clear C144
  have E162 := Lib.hid (C145.out.drew.gr hgw149)
  clear C145
  have E163 := Lib.hid (C146.out.drew.gr hgw149)
  clear C146
  have E164 := Lib.hid (D148.out.drew.gr hgw149)
  clear D148
  have hbel165 := hbel147.drew.trans (Below.mono hgw149 hbel147.drew.size)
  clear hbel147
  have D166 := Lib.hid hn_
  clear hn_ hz_ hgw149
  as_aux_lemma =>
  go_wp2_with fail
  as_aux_lemma =>
  refine wp_region_G (fun w_ => Blk w_ G46 94 (natsV .u64 rise) ∧ Blk w_ G133 94 (natsV .u64 sh) ∧ Blk w_ G150 94 (natsV .u64 ux) ∧ Blk w_ G32 94 (natsV .u64 ys) ∧ Blk w_ G102 94 (natsV .u64 cu)) 10 (by kernel_rfl) ⟨E161.out.drew, E164.out.drew, D166.out.drew, E158.out.drew, E163.out.drew⟩ ?_
  refine wpAnyG_take (fun _ _ hS_ hb_ => ⟨hS_.1.gr hb_, hS_.2.1.gr hb_, hS_.2.2.1.gr hb_, hS_.2.2.2.1.gr hb_, hS_.2.2.2.2.gr hb_⟩) (i := 0) rfl (by kernel_rfl) (fun _ _ _ h => h) (loadG (by rfl) _ _ rfl _ _ rfl (natsV .u64 rise) _ (fun _ hS_ => blk_all (hS_.1)) Try.underlying94 rfl (i94 L_rise.out)) ?_
  try simp only [Act.put, zq1, zq2, zq3, zq4, zq5, zq6]
  refine wpAnyG_take (fun _ _ hS_ hb_ => ⟨hS_.1.gr hb_, hS_.2.1.gr hb_, hS_.2.2.1.gr hb_, hS_.2.2.2.1.gr hb_, hS_.2.2.2.2.gr hb_⟩) (i := 1) rfl (by kernel_rfl) (fun _ _ _ h => h) (loadG (by rfl) _ _ rfl _ _ rfl (natsV .u64 sh) _ (fun _ hS_ => blk_all (hS_.2.1)) Try.underlying94 rfl (i94 L_sh.out)) ?_
  try simp only [Act.put, zq1, zq2, zq3, zq4, zq5, zq6]
  refine wpAnyG_take (fun _ _ hS_ hb_ => ⟨hS_.1.gr hb_, hS_.2.1.gr hb_, hS_.2.2.1.gr hb_, hS_.2.2.2.1.gr hb_, hS_.2.2.2.2.gr hb_⟩) (i := 2) rfl (by kernel_rfl) (fun _ _ _ h => h) (loadG (by rfl) _ _ rfl _ _ rfl (natsV .u64 ux) _ (fun _ hS_ => blk_all (hS_.2.2.1)) Try.underlying94 rfl (i94 L_ux.out)) ?_
  try simp only [Act.put, zq1, zq2, zq3, zq4, zq5, zq6]
  refine wpAnyG_take (fun _ _ hS_ hb_ => ⟨hS_.1.gr hb_, hS_.2.1.gr hb_, hS_.2.2.1.gr hb_, hS_.2.2.2.1.gr hb_, hS_.2.2.2.2.gr hb_⟩) (i := 3) rfl (by kernel_rfl) (fun _ _ _ h => h) (callG (by rfl) rfl Try.func111 (by kernel_rfl) (by kernel_rfl) (#[.agg (natsV .u64 sh).toArray, .agg (natsV .u64 ux).toArray]) (by simp [Act.eval]) (fun w _ => Hc20.out w)) ?_
  try simp only [Act.put, zq1, zq2, zq3, zq4, zq5, zq6]
  refine wpAnyG_take (fun _ _ hS_ hb_ => ⟨hS_.1.gr hb_, hS_.2.1.gr hb_, hS_.2.2.1.gr hb_, hS_.2.2.2.1.gr hb_, hS_.2.2.2.2.gr hb_⟩) (i := 4) rfl (by kernel_rfl) (fun _ _ _ h => h) (callG (by rfl) rfl Try.func108 (by kernel_rfl) (by kernel_rfl) (#[.agg (natsV .u64 rise).toArray, .agg (natsV .u64 e1).toArray]) (by simp [Act.eval]) (fun w _ => Hc21.out w)) ?_
  try simp only [Act.put, zq1, zq2, zq3, zq4, zq5, zq6]
  refine wpAnyG_take (fun _ _ hS_ hb_ => ⟨hS_.1.gr hb_, hS_.2.1.gr hb_, hS_.2.2.1.gr hb_, hS_.2.2.2.1.gr hb_, hS_.2.2.2.2.gr hb_⟩) (i := 5) rfl (by kernel_rfl) (fun _ _ _ h => h) (loadG (by rfl) _ _ rfl _ _ rfl (natsV .u64 ys) _ (fun _ hS_ => blk_all (hS_.2.2.2.1)) Try.underlying94 rfl (i94 L_ys.out)) ?_
  try simp only [Act.put, zq1, zq2, zq3, zq4, zq5, zq6]
  refine wpAnyG_take (fun _ _ hS_ hb_ => ⟨hS_.1.gr hb_, hS_.2.1.gr hb_, hS_.2.2.1.gr hb_, hS_.2.2.2.1.gr hb_, hS_.2.2.2.2.gr hb_⟩) (i := 6) rfl (by kernel_rfl) (fun _ _ _ h => h) (loadG (by rfl) _ _ rfl _ _ rfl (natsV .u64 cu) _ (fun _ hS_ => blk_all (hS_.2.2.2.2)) Try.underlying94 rfl (i94 L_cu.out)) ?_
  try simp only [Act.put, zq1, zq2, zq3, zq4, zq5, zq6]
  refine wpAnyG_take (fun _ _ hS_ hb_ => ⟨hS_.1.gr hb_, hS_.2.1.gr hb_, hS_.2.2.1.gr hb_, hS_.2.2.2.1.gr hb_, hS_.2.2.2.2.gr hb_⟩) (i := 7) rfl (by kernel_rfl) (fun _ _ _ h => h) (callG (by rfl) rfl Try.func108 (by kernel_rfl) (by kernel_rfl) (#[.agg (natsV .u64 ys).toArray, .agg (natsV .u64 cu).toArray]) (by simp [Act.eval]) (fun w _ => Hc22.out w)) ?_
  try simp only [Act.put, zq1, zq2, zq3, zq4, zq5, zq6]
  refine wpAnyG_take (fun _ _ hS_ hb_ => ⟨hS_.1.gr hb_, hS_.2.1.gr hb_, hS_.2.2.1.gr hb_, hS_.2.2.2.1.gr hb_, hS_.2.2.2.2.gr hb_⟩) (i := 8) rfl (by kernel_rfl) (fun _ _ _ h => h) (callG (by rfl) rfl Try.func111 (by kernel_rfl) (by kernel_rfl) (#[.agg (natsV .u64 e2).toArray, .agg (natsV .u64 e3).toArray]) (by simp [Act.eval]) (fun w _ => Hc23.out w)) ?_
  try simp only [Act.put, zq1, zq2, zq3, zq4, zq5, zq6]
  refine wpAnyG_def (i := 9) (j := 10) (fun _ _ hS_ hb_ => ⟨hS_.1.gr hb_, hS_.2.1.gr hb_, hS_.2.2.1.gr hb_, hS_.2.2.2.1.gr hb_, hS_.2.2.2.2.gr hb_⟩) (by kernel_rfl) (by kernel_rfl) (by kernel_rfl) rfl rfl rfl (allocG (by rfl) rfl _ alloc94) (lenEq (show (natsV .u64 (zeros 4)).length = 4 from rfl) (by rw [natsV_length, L_uy.out])) (fun _ => StoresG.mk (cs := (natsV .u64 uy)) (by rfl) 94 _ _ rfl rfl rfl (i94 L_uy.out) (natsV_one _ _)) ?_
  intro w167 G168 hgw167 hz_ hn_
  try simp only [Act.put, zq1, zq2, zq3, zq4, zq5, zq6]
  have E169 := Lib.hid (E151.out.drew.gr hgw167)
  clear E151
  have E170 := Lib.hid (E152.out.drew.gr hgw167)
  clear E152
  have E171 := Lib.hid (E153.out.drew.gr hgw167)
  clear E153
  have E172 := Lib.hid (E154.out.drew.gr hgw167)
  clear E154
  have E173 := Lib.hid (E155.out.drew.gr hgw167)
  clear E155
  have E174 := Lib.hid (E156.out.drew.gr hgw167)
  clear E156
  have E175 := Lib.hid (E157.out.drew.gr hgw167)
  clear E157
  have E176 := Lib.hid (E158.out.drew.gr hgw167)
  clear E158
  have E177 := Lib.hid (E159.out.drew.gr hgw167)
  clear E159
  have E178 := Lib.hid (E160.out.drew.gr hgw167)
  clear E160
  have E179 := Lib.hid (E161.out.drew.gr hgw167)
  clear E161
  have E180 := Lib.hid (E162.out.drew.gr hgw167)
  clear E162
  have E181 := Lib.hid (E163.out.drew.gr hgw167)
  clear E163
  have E182 := Lib.hid (E164.out.drew.gr hgw167)
  clear E164
  have E183 := Lib.hid (D166.out.drew.gr hgw167)
  clear D166
  have hbel184 := hbel165.drew.trans (Below.mono hgw167 hbel165.drew.size)
  clear hbel165
  have D185 := Lib.hid hn_
  clear hn_ hz_ hgw167
  as_aux_lemma =>
  go_wp2_with fail
  as_aux_lemma =>
  refine wp_region_G (fun w_ => Blk w_ G150 94 (natsV .u64 ux) ∧ Blk w_ G168 94 (natsV .u64 uy) ∧ Blk w_ w.heap.size 103 (tv lx ly lz) ∧ Blk w_ (w.heap.size + 1) 103 (tv mx my mz) ∧ Blk w_ G45 94 (natsV .u64 run)) 10 (by kernel_rfl) ⟨E183.out.drew, D185.out.drew, E169.out.drew, E170.out.drew, E178.out.drew⟩ ?_
  refine wpAnyG_take (fun _ _ hS_ hb_ => ⟨hS_.1.gr hb_, hS_.2.1.gr hb_, hS_.2.2.1.gr hb_, hS_.2.2.2.1.gr hb_, hS_.2.2.2.2.gr hb_⟩) (i := 0) rfl (by kernel_rfl) (fun _ _ _ h => h) (loadG (by rfl) _ _ rfl _ _ rfl (natsV .u64 ux) _ (fun _ hS_ => blk_all (hS_.1)) Try.underlying94 rfl (i94 L_ux.out)) ?_
  try simp only [Act.put, zq1, zq2, zq3, zq4, zq5, zq6]
  refine wpAnyG_take (fun _ _ hS_ hb_ => ⟨hS_.1.gr hb_, hS_.2.1.gr hb_, hS_.2.2.1.gr hb_, hS_.2.2.2.1.gr hb_, hS_.2.2.2.2.gr hb_⟩) (i := 1) rfl (by kernel_rfl) (fun _ _ _ h => h) (loadG (by rfl) _ _ rfl _ _ rfl (natsV .u64 uy) _ (fun _ hS_ => blk_all (hS_.2.1)) Try.underlying94 rfl (i94 L_uy.out)) ?_
  try simp only [Act.put, zq1, zq2, zq3, zq4, zq5, zq6]
  refine wpAnyG_take (fun _ _ hS_ hb_ => ⟨hS_.1.gr hb_, hS_.2.1.gr hb_, hS_.2.2.1.gr hb_, hS_.2.2.2.1.gr hb_, hS_.2.2.2.2.gr hb_⟩) (i := 2) rfl (by kernel_rfl) (fun _ _ _ h => h) (pureG (by rfl) (by intro w; go_simp; first | done | with_reducible rfl)) ?_
  try simp only [Act.put, zq1, zq2, zq3, zq4, zq5, zq6]
  refine wpAnyG_take (fun _ _ hS_ hb_ => ⟨hS_.1.gr hb_, hS_.2.1.gr hb_, hS_.2.2.1.gr hb_, hS_.2.2.2.1.gr hb_, hS_.2.2.2.2.gr hb_⟩) (i := 3) rfl (by kernel_rfl) (fun _ _ _ h => h) (loadG (by rfl) _ _ rfl _ _ rfl (natsV .u64 lz) _ (fun _ hS_ => tv_z (hS_.2.2.1) L_lx.out L_ly.out) Try.underlying94 rfl (i94 L_lz.out)) ?_
  try simp only [Act.put, zq1, zq2, zq3, zq4, zq5, zq6]
  refine wpAnyG_take (fun _ _ hS_ hb_ => ⟨hS_.1.gr hb_, hS_.2.1.gr hb_, hS_.2.2.1.gr hb_, hS_.2.2.2.1.gr hb_, hS_.2.2.2.2.gr hb_⟩) (i := 4) rfl (by kernel_rfl) (fun _ _ _ h => h) (pureG (by rfl) (by intro w; go_simp; first | done | with_reducible rfl)) ?_
  try simp only [Act.put, zq1, zq2, zq3, zq4, zq5, zq6]
  refine wpAnyG_take (fun _ _ hS_ hb_ => ⟨hS_.1.gr hb_, hS_.2.1.gr hb_, hS_.2.2.1.gr hb_, hS_.2.2.2.1.gr hb_, hS_.2.2.2.2.gr hb_⟩) (i := 5) rfl (by kernel_rfl) (fun _ _ _ h => h) (loadG (by rfl) _ _ rfl _ _ rfl (natsV .u64 mz) _ (fun _ hS_ => tv_z (hS_.2.2.2.1) L_mx.out L_my.out) Try.underlying94 rfl (i94 L_mz.out)) ?_
  try simp only [Act.put, zq1, zq2, zq3, zq4, zq5, zq6]
  refine wpAnyG_take (fun _ _ hS_ hb_ => ⟨hS_.1.gr hb_, hS_.2.1.gr hb_, hS_.2.2.1.gr hb_, hS_.2.2.2.1.gr hb_, hS_.2.2.2.2.gr hb_⟩) (i := 6) rfl (by kernel_rfl) (fun _ _ _ h => h) (callG (by rfl) rfl Try.func108 (by kernel_rfl) (by kernel_rfl) (#[.agg (natsV .u64 lz).toArray, .agg (natsV .u64 mz).toArray]) (by simp [Act.eval]) (fun w _ => Hc24.out w)) ?_
  try simp only [Act.put, zq1, zq2, zq3, zq4, zq5, zq6]
  refine wpAnyG_take (fun _ _ hS_ hb_ => ⟨hS_.1.gr hb_, hS_.2.1.gr hb_, hS_.2.2.1.gr hb_, hS_.2.2.2.1.gr hb_, hS_.2.2.2.2.gr hb_⟩) (i := 7) rfl (by kernel_rfl) (fun _ _ _ h => h) (loadG (by rfl) _ _ rfl _ _ rfl (natsV .u64 run) _ (fun _ hS_ => blk_all (hS_.2.2.2.2)) Try.underlying94 rfl (i94 L_run.out)) ?_
  try simp only [Act.put, zq1, zq2, zq3, zq4, zq5, zq6]
  refine wpAnyG_take (fun _ _ hS_ hb_ => ⟨hS_.1.gr hb_, hS_.2.1.gr hb_, hS_.2.2.1.gr hb_, hS_.2.2.2.1.gr hb_, hS_.2.2.2.2.gr hb_⟩) (i := 8) rfl (by kernel_rfl) (fun _ _ _ h => h) (callG (by rfl) rfl Try.func108 (by kernel_rfl) (by kernel_rfl) (#[.agg (natsV .u64 z1).toArray, .agg (natsV .u64 run).toArray]) (by simp [Act.eval]) (fun w _ => Hc25.out w)) ?_
  try simp only [Act.put, zq1, zq2, zq3, zq4, zq5, zq6]
  refine wpAnyG_take (fun _ _ hS_ hb_ => ⟨hS_.1.gr hb_, hS_.2.1.gr hb_, hS_.2.2.1.gr hb_, hS_.2.2.2.1.gr hb_, hS_.2.2.2.2.gr hb_⟩) (i := 9) rfl (by kernel_rfl) (fun _ _ _ h => h) (buildG (by rfl) _ _ rfl _ (built103 L_ux.out L_uy.out L_uz.out) (by simp [Act.eval])) ?_
  try simp only [Act.put, zq1, zq2, zq3, zq4, zq5, zq6]
  refine wpAnyG_set (i := 10) (by kernel_rfl) (by kernel_rfl) rfl rfl E171.out.drew (lenEq (show (natsV .u64 (zeros 12)).length = 12 from rfl) (tv_len L_ux.out L_uy.out L_uz.out)) (StoresG.mk (cs := (tv ux uy uz)) (by rfl) 103 _ _ rfl rfl rfl (i103 L_ux.out L_uy.out L_uz.out) (tv_one _ _ _)) ?_
  intro w186 hgw186 hn_
  try simp only [Act.put, zq1, zq2, zq3, zq4, zq5, zq6]
  have hbel187 := belStore hbel184.drew hgw186 (by first | exact Nat.le_refl _ | omega | simp)
  have D188 := Lib.hid hn_
  go_wp2_with fail
  refine bodyPost_ret (v := .agg (tv ux uy uz).toArray) ?_ rfl ⟨rfl, hbel187⟩
  exact results_cell_row Try.results82 _ _ (w.heap.size + 1 + 1) 103 _ (0, 0) _ rfl D188.out Try.underlying103 rfl (by simpa using (i103 L_ux.out L_uy.out L_uz.out))
end Go.Proofs.Ytfffmoolkgheaaa
