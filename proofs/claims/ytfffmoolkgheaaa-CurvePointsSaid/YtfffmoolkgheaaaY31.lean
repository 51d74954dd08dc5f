/- Parts of proofs of statements, each text behind those that it stands on. No condition of its own. -/
import Derived.Great.Walk
import Derived.Test.YtfffmoolkgheaaaY23
namespace Go.Proofs.Ytfffmoolkgheaaa
open Go.RowKit
set_option linter.unusedVariables false
set_option linter.unusedSimpArgs false
set_option maxRecDepth 100000 in
set_option maxHeartbeats 3200000 in
theorem twice_w {lx ly lz sy sz t1 t2 th t3 sl a1 a2 sh s2 d1 x4 e1 e2 d2 d3 d4 y4 z1 z4 : List Nat} (hlx : lx.length = 4) (hly : ly.length = 4) (hlz : lz.length = 4) (hsy : sy.length = 4) (hsz : sz.length = 4) (ht1 : t1.length = 4) (ht2 : t2.length = 4) (hth : th.length = 4) (ht3 : t3.length = 4) (hsl : sl.length = 4) (ha1 : a1.length = 4) (ha2 : a2.length = 4) (hsh : sh.length = 4) (hs2 : s2.length = 4) (hd1 : d1.length = 4) (hx4 : x4.length = 4) (he1 : e1.length = 4) (he2 : e2.length = 4) (hd2 : d2.length = 4) (hd3 : d3.length = 4) (hd4 : d4.length = 4) (hy4 : y4.length = 4) (hz1 : z1.length = 4) (hz4 : z4.length = 4)
    (c1 : ∀ w, Calls Try.prog 72 #[.agg (natsV .u64 ly).toArray] w fun e w' => e = .returned (.agg (natsV .u64 sy).toArray) ∧ Below w.heap.size w w')
    (c2 : ∀ w, Calls Try.prog 72 #[.agg (natsV .u64 lz).toArray] w fun e w' => e = .returned (.agg (natsV .u64 sz).toArray) ∧ Below w.heap.size w w')
    (c3 : ∀ w, Calls Try.prog 110 #[.agg (natsV .u64 lx).toArray, .agg (natsV .u64 sz).toArray] w fun e w' => e = .returned (.agg (natsV .u64 t1).toArray) ∧ Below w.heap.size w w')
    (c4 : ∀ w, Calls Try.prog 111 #[.agg (natsV .u64 lx).toArray, .agg (natsV .u64 sz).toArray] w fun e w' => e = .returned (.agg (natsV .u64 t2).toArray) ∧ Below w.heap.size w w')
    (c5 : ∀ w, Calls Try.prog 108 #[.agg (natsV .u64 t1).toArray, .agg (natsV .u64 t2).toArray] w fun e w' => e = .returned (.agg (natsV .u64 th).toArray) ∧ Below w.heap.size w w')
    (c6 : ∀ w, Calls Try.prog 109 #[.agg (natsV .u64 th).toArray] w fun e w' => e = .returned (.agg (natsV .u64 t3).toArray) ∧ Below w.heap.size w w')
    (c7 : ∀ w, Calls Try.prog 110 #[.agg (natsV .u64 t3).toArray, .agg (natsV .u64 th).toArray] w fun e w' => e = .returned (.agg (natsV .u64 sl).toArray) ∧ Below w.heap.size w w')
    (c8 : ∀ w, Calls Try.prog 108 #[.agg (natsV .u64 lx).toArray, .agg (natsV .u64 sy).toArray] w fun e w' => e = .returned (.agg (natsV .u64 a1).toArray) ∧ Below w.heap.size w w')
    (c9 : ∀ w, Calls Try.prog 109 #[.agg (natsV .u64 a1).toArray] w fun e w' => e = .returned (.agg (natsV .u64 a2).toArray) ∧ Below w.heap.size w w')
    (c10 : ∀ w, Calls Try.prog 109 #[.agg (natsV .u64 a2).toArray] w fun e w' => e = .returned (.agg (natsV .u64 sh).toArray) ∧ Below w.heap.size w w')
    (c11 : ∀ w, Calls Try.prog 72 #[.agg (natsV .u64 sl).toArray] w fun e w' => e = .returned (.agg (natsV .u64 s2).toArray) ∧ Below w.heap.size w w')
    (c12 : ∀ w, Calls Try.prog 109 #[.agg (natsV .u64 sh).toArray] w fun e w' => e = .returned (.agg (natsV .u64 d1).toArray) ∧ Below w.heap.size w w')
    (c13 : ∀ w, Calls Try.prog 111 #[.agg (natsV .u64 s2).toArray, .agg (natsV .u64 d1).toArray] w fun e w' => e = .returned (.agg (natsV .u64 x4).toArray) ∧ Below w.heap.size w w')
    (c14 : ∀ w, Calls Try.prog 111 #[.agg (natsV .u64 sh).toArray, .agg (natsV .u64 x4).toArray] w fun e w' => e = .returned (.agg (natsV .u64 e1).toArray) ∧ Below w.heap.size w w')
    (c15 : ∀ w, Calls Try.prog 108 #[.agg (natsV .u64 sl).toArray, .agg (natsV .u64 e1).toArray] w fun e w' => e = .returned (.agg (natsV .u64 e2).toArray) ∧ Below w.heap.size w w')
    (c16 : ∀ w, Calls Try.prog 109 #[.agg (natsV .u64 sy).toArray] w fun e w' => e = .returned (.agg (natsV .u64 d2).toArray) ∧ Below w.heap.size w w')
    (c17 : ∀ w, Calls Try.prog 72 #[.agg (natsV .u64 d2).toArray] w fun e w' => e = .returned (.agg (natsV .u64 d3).toArray) ∧ Below w.heap.size w w')
    (c18 : ∀ w, Calls Try.prog 109 #[.agg (natsV .u64 d3).toArray] w fun e w' => e = .returned (.agg (natsV .u64 d4).toArray) ∧ Below w.heap.size w w')
    (c19 : ∀ w, Calls Try.prog 111 #[.agg (natsV .u64 e2).toArray, .agg (natsV .u64 d4).toArray] w fun e w' => e = .returned (.agg (natsV .u64 y4).toArray) ∧ Below w.heap.size w w')
    (c20 : ∀ w, Calls Try.prog 108 #[.agg (natsV .u64 ly).toArray, .agg (natsV .u64 lz).toArray] w fun e w' => e = .returned (.agg (natsV .u64 z1).toArray) ∧ Below w.heap.size w w')
    (c21 : ∀ w, Calls Try.prog 109 #[.agg (natsV .u64 z1).toArray] w fun e w' => e = .returned (.agg (natsV .u64 z4).toArray) ∧ Below w.heap.size w w') (w : World) :
    Calls Try.prog 117 #[.agg (tv lx ly lz).toArray] w fun e w' => e = .returned (.agg (tv x4 y4 z4).toArray) ∧ Below w.heap.size w w' := by
  have L_lx := Lib.hid hlx
  clear hlx
  have L_ly := Lib.hid hly
  clear hly
  have L_lz := Lib.hid hlz
  clear hlz
  have L_sy := Lib.hid hsy
  clear hsy
  have L_sz := Lib.hid hsz
  clear hsz
  have L_t1 := Lib.hid ht1
  clear ht1
  have L_t2 := Lib.hid ht2
  clear ht2
  have L_th := Lib.hid hth
  clear hth
  have L_t3 := Lib.hid ht3
  clear ht3
  have L_sl := Lib.hid hsl
  clear hsl
  have L_a1 := Lib.hid ha1
  clear ha1
  have L_a2 := Lib.hid ha2
  clear ha2
  have L_sh := Lib.hid hsh
  clear hsh
  have L_s2 := Lib.hid hs2
  clear hs2
  have L_d1 := Lib.hid hd1
  clear hd1
  have L_x4 := Lib.hid hx4
  clear hx4
  have L_e1 := Lib.hid he1
  clear he1
  have L_e2 := Lib.hid he2
  clear he2
  have L_d2 := Lib.hid hd2
  clear hd2
  have L_d3 := Lib.hid hd3
  clear hd3
  have L_d4 := Lib.hid hd4
  clear hd4
  have L_y4 := Lib.hid hy4
  clear hy4
  have L_z1 := Lib.hid hz1
  clear hz1
  have L_z4 := Lib.hid hz4
  clear hz4
  have Hc1 := Lib.hid c1
  clear c1
  have Hc2 := Lib.hid c2
  clear c2
  have Hc3 := Lib.hid c3
  clear c3
  have Hc4 := Lib.hid c4
  clear c4
  have Hc5 := Lib.hid c5
  clear c5
  have Hc6 := Lib.hid c6
  clear c6
  have Hc7 := Lib.hid c7
  clear c7
  have Hc8 := Lib.hid c8
  clear c8
  have Hc9 := Lib.hid c9
  clear c9
  have Hc10 := Lib.hid c10
  clear c10
  have Hc11 := Lib.hid c11
  clear c11
  have Hc12 := Lib.hid c12
  clear c12
  have Hc13 := Lib.hid c13
  clear c13
  have Hc14 := Lib.hid c14
  clear c14
  have Hc15 := Lib.hid c15
  clear c15
  have Hc16 := Lib.hid c16
  clear c16
  have Hc17 := Lib.hid c17
  clear c17
  have Hc18 := Lib.hid c18
  clear c18
  have Hc19 := Lib.hid c19
  clear c19
  have Hc20 := Lib.hid c20
  clear c20
  have Hc21 := Lib.hid c21
  clear c21
  have B0_ := Lib.hid ((Blk.new w  103 (tv lx ly lz)).alloc (.cells (natsV .u64 (zeros 12)).toArray 103))
  have B1_ := Lib.hid (Blk.new2 w (.cells (tv lx ly lz).toArray 103) 103 (natsV .u64 (zeros 12)))
  have bel_ := (((Below.refl w.heap.size w).alloc (Nat.le_refl _) (.cells (tv lx ly lz).toArray 103)).alloc (by simp) (.cells (natsV .u64 (zeros 12)).toArray 103))
  go_enter Try.func117, Try.ntmps117
  go_wp2_with fail
  as_aux_lemma =>
  refine wp_region_G (fun w_ => Blk w_ w.heap.size 103 (tv lx ly lz)) 9 (by kernel_rfl) B0_.out.drew ?_
  refine wpAnyG_take (fun _ _ hS_ hb_ => hS_.gr hb_) (i := 0) rfl (by kernel_rfl) (fun _ _ _ h => h) (pureG (by rfl) (by intro w; go_simp; first | done | with_reducible rfl)) ?_
  try simp only [Act.put, zq1, zq2, zq3, zq4, zq5, zq6]
  refine wpAnyG_take (fun _ _ hS_ hb_ => hS_.gr hb_) (i := 1) rfl (by kernel_rfl) (fun _ _ _ h => h) (loadG (by rfl) _ _ rfl _ _ rfl (natsV .u64 ly) _ (fun _ hS_ => tv_y (hS_) L_lx.out) Try.underlying94 rfl (i94 L_ly.out)) ?_
  try simp only [Act.put, zq1, zq2, zq3, zq4, zq5, zq6]
  refine wpAnyG_take (fun _ _ hS_ hb_ => hS_.gr hb_) (i := 2) rfl (by kernel_rfl) (fun _ _ _ h => h) (callG (by rfl) rfl Try.func72 (by kernel_rfl) (by kernel_rfl) (#[.agg (natsV .u64 ly).toArray]) (by simp [Act.eval]) (fun w _ => Hc1.out w)) ?_
  try simp only [Act.put, zq1, zq2, zq3, zq4, zq5, zq6]
  refine wpAnyG_take (fun _ _ hS_ hb_ => hS_.gr hb_) (i := 3) rfl (by kernel_rfl) (fun _ _ _ h => h) (pureG (by rfl) (by intro w; go_simp; first | done | with_reducible rfl)) ?_
  try simp only [Act.put, zq1, zq2, zq3, zq4, zq5, zq6]
  refine wpAnyG_take (fun _ _ hS_ hb_ => hS_.gr hb_) (i := 4) rfl (by kernel_rfl) (fun _ _ _ h => h) (loadG (by rfl) _ _ rfl _ _ rfl (natsV .u64 lz) _ (fun _ hS_ => tv_z (hS_) L_lx.out L_ly.out) Try.underlying94 rfl (i94 L_lz.out)) ?_
  try simp only [Act.put, zq1, zq2, zq3, zq4, zq5, zq6]
  refine wpAnyG_take (fun _ _ hS_ hb_ => hS_.gr hb_) (i := 5) rfl (by kernel_rfl) (fun _ _ _ h => h) (callG (by rfl) rfl Try.func72 (by kernel_rfl) (by kernel_rfl) (#[.agg (natsV .u64 lz).toArray]) (by simp [Act.eval]) (fun w _ => Hc2.out w)) ?_
  try simp only [Act.put, zq1, zq2, zq3, zq4, zq5, zq6]
  refine wpAnyG_def2 (i := 6) (j := 7) (k := 8) (l := 9) (fun _ _ hS_ hb_ => hS_.gr hb_) (by kernel_rfl) (by kernel_rfl) (by kernel_rfl) (by kernel_rfl) (by kernel_rfl) (by kernel_rfl) (by decide) rfl rfl rfl rfl rfl (allocG (by rfl) rfl _ alloc94) (allocG (by rfl) rfl _ alloc94) (fun _ => allocG (by rfl) rfl _ alloc94) (fun _ => allocG (by rfl) rfl _ alloc94) (fun _ _ => rfl) (lenEq (show (natsV .u64 (zeros 4)).length = 4 from rfl) (by rw [natsV_length, L_sy.out])) (lenEq (show (natsV .u64 (zeros 4)).length = 4 from rfl) (by rw [natsV_length, L_sz.out])) (fun _ _ => StoresG.mk (cs := (natsV .u64 sy)) (by rfl) 94 _ _ rfl rfl rfl (i94 L_sy.out) (natsV_one _ _)) (fun _ _ => StoresG.mk (cs := (natsV .u64 sz)) (by rfl) 94 _ _ rfl rfl rfl (i94 L_sz.out) (natsV_one _ _)) (fun g_ w_ hS_ hz_ hb_ => (hS_.gr hb_).row _ (Nat.ne_of_lt (Nat.lt_of_lt_of_le hS_.lt hz_))) (B0_.out.drew) ?_
  intro w1 G2 G3 hgw1 hz_ hz2_ hne_ hn_ hn2_
  try simp only [Act.put, zq1, zq2, zq3, zq4, zq5, zq6]
  have E4 := Lib.hid (B0_.out.drew.gr hgw1)
  clear B0_
  have E5 := Lib.hid (B1_.out.drew.gr hgw1)
  clear B1_
  have hbel6 := bel_.drew.trans (Below.mono hgw1 bel_.drew.size)
  clear bel_
  have D7 := Lib.hid hn_
  have D8 := Lib.hid hn2_
  clear hn_ hn2_ hz_ hz2_ hne_ hgw1
  as_aux_lemma =>
  go_wp2_with fail
  as_aux_lemma =>
  refine wp_region_G (fun w_ => Blk w_ w.heap.size 103 (tv lx ly lz) ∧ Blk w_ G3 94 (natsV .u64 sz)) 10 (by kernel_rfl) ⟨E4.out.drew, D8.out.drew⟩ ?_
  refine wpAnyG_take (fun _ _ hS_ hb_ => ⟨hS_.1.gr hb_, hS_.2.gr hb_⟩) (i := 0) rfl (by kernel_rfl) (fun _ _ _ h => h) (pureG (by rfl) (by intro w; go_simp; first | done | with_reducible rfl)) ?_
  try simp only [Act.put, zq1, zq2, zq3, zq4, zq5, zq6]
  refine wpAnyG_take (fun _ _ hS_ hb_ => ⟨hS_.1.gr hb_, hS_.2.gr hb_⟩) (i := 1) rfl (by kernel_rfl) (fun _ _ _ h => h) (loadG (by rfl) _ _ rfl _ _ rfl (natsV .u64 lx) _ (fun _ hS_ => tv_x (hS_.1)) Try.underlying94 rfl (i94 L_lx.out)) ?_
  try simp only [Act.put, zq1, zq2, zq3, zq4, zq5, zq6]
  refine wpAnyG_take (fun _ _ hS_ hb_ => ⟨hS_.1.gr hb_, hS_.2.gr hb_⟩) (i := 2) rfl (by kernel_rfl) (fun _ _ _ h => h) (loadG (by rfl) _ _ rfl _ _ rfl (natsV .u64 sz) _ (fun _ hS_ => blk_all (hS_.2)) Try.underlying94 rfl (i94 L_sz.out)) ?_
  try simp only [Act.put, zq1, zq2, zq3, zq4, zq5, zq6]
  refine wpAnyG_take (fun _ _ hS_ hb_ => ⟨hS_.1.gr hb_, hS_.2.gr hb_⟩) (i := 3) rfl (by kernel_rfl) (fun _ _ _ h => h) (callG (by rfl) rfl Try.func110 (by kernel_rfl) (by kernel_rfl) (#[.agg (natsV .u64 lx).toArray, .agg (natsV .u64 sz).toArray]) (by simp [Act.eval]) (fun w _ => Hc3.out w)) ?_
  try simp only [Act.put, zq1, zq2, zq3, zq4, zq5, zq6]
  refine wpAnyG_take (fun _ _ hS_ hb_ => ⟨hS_.1.gr hb_, hS_.2.gr hb_⟩) (i := 4) rfl (by kernel_rfl) (fun _ _ _ h => h) (pureG (by rfl) (by intro w; go_simp; first | done | with_reducible rfl)) ?_
  try simp only [Act.put, zq1, zq2, zq3, zq4, zq5, zq6]
  refine wpAnyG_take (fun _ _ hS_ hb_ => ⟨hS_.1.gr hb_, hS_.2.gr hb_⟩) (i := 5) rfl (by kernel_rfl) (fun _ _ _ h => h) (loadG (by rfl) _ _ rfl _ _ rfl (natsV .u64 lx) _ (fun _ hS_ => tv_x (hS_.1)) Try.underlying94 rfl (i94 L_lx.out)) ?_
  try simp only [Act.put, zq1, zq2, zq3, zq4, zq5, zq6]
  refine wpAnyG_take (fun _ _ hS_ hb_ => ⟨hS_.1.gr hb_, hS_.2.gr hb_⟩) (i := 6) rfl (by kernel_rfl) (fun _ _ _ h => h) (loadG (by rfl) _ _ rfl _ _ rfl (natsV .u64 sz) _ (fun _ hS_ => blk_all (hS_.2)) Try.underlying94 rfl (i94 L_sz.out)) ?_
  try simp only [Act.put, zq1, zq2, zq3, zq4, zq5, zq6]
  refine wpAnyG_take (fun _ _ hS_ hb_ => ⟨hS_.1.gr hb_, hS_.2.gr hb_⟩) (i := 7) rfl (by kernel_rfl) (fun _ _ _ h => h) (callG (by rfl) rfl Try.func111 (by kernel_rfl) (by kernel_rfl) (#[.agg (natsV .u64 lx).toArray, .agg (natsV .u64 sz).toArray]) (by simp [Act.eval]) (fun w _ => Hc4.out w)) ?_
  try simp only [Act.put, zq1, zq2, zq3, zq4, zq5, zq6]
  refine wpAnyG_take (fun _ _ hS_ hb_ => ⟨hS_.1.gr hb_, hS_.2.gr hb_⟩) (i := 8) rfl (by kernel_rfl) (fun _ _ _ h => h) (callG (by rfl) rfl Try.func108 (by kernel_rfl) (by kernel_rfl) (#[.agg (natsV .u64 t1).toArray, .agg (natsV .u64 t2).toArray]) (by simp [Act.eval]) (fun w _ => Hc5.out w)) ?_
  try simp only [Act.put, zq1, zq2, zq3, zq4, zq5, zq6]
  refine wpAnyG_def (i := 9) (j := 10) (fun _ _ hS_ hb_ => ⟨hS_.1.gr hb_, hS_.2.gr hb_⟩) (by kernel_rfl) (by kernel_rfl) (by kernel_rfl) rfl rfl rfl (allocG (by rfl) rfl _ alloc94) (lenEq (show (natsV .u64 (zeros 4)).length = 4 from rfl) (by rw [natsV_length, L_th.out])) (fun _ => StoresG.mk (cs := (natsV .u64 th)) (by rfl) 94 _ _ rfl rfl rfl (i94 L_th.out) (natsV_one _ _)) ?_
  intro w9 G10 hgw9 hz_ hn_
  try simp only [Act.put, zq1, zq2, zq3, zq4, zq5, zq6]
  have E11 := Lib.hid (E4.out.drew.gr hgw9)
  clear E4
  have E12 := Lib.hid (E5.out.drew.gr hgw9)
  clear E5
  have E13 := Lib.hid (D7.out.drew.gr hgw9)
  clear D7
  have E14 := Lib.hid (D8.out.drew.gr hgw9)
  clear D8
  have hbel15 := hbel6.drew.trans (Below.mono hgw9 hbel6.drew.size)
  clear hbel6
  have D16 := Lib.hid hn_
  clear hn_ hz_ hgw9
  as_aux_lemma =>
  go_wp2_with fail
  as_aux_lemma =>
  refine wp_region_G (fun w_ => Blk w_ G10 94 (natsV .u64 th)) 5 (by kernel_rfl) D16.out.drew ?_
  refine wpAnyG_take (fun _ _ hS_ hb_ => hS_.gr hb_) (i := 0) rfl (by kernel_rfl) (fun _ _ _ h => h) (loadG (by rfl) _ _ rfl _ _ rfl (natsV .u64 th) _ (fun _ hS_ => blk_all (hS_)) Try.underlying94 rfl (i94 L_th.out)) ?_
  try simp only [Act.put, zq1, zq2, zq3, zq4, zq5, zq6]
  refine wpAnyG_take (fun _ _ hS_ hb_ => hS_.gr hb_) (i := 1) rfl (by kernel_rfl) (fun _ _ _ h => h) (callG (by rfl) rfl Try.func109 (by kernel_rfl) (by kernel_rfl) (#[.agg (natsV .u64 th).toArray]) (by simp [Act.eval]) (fun w _ => Hc6.out w)) ?_
  try simp only [Act.put, zq1, zq2, zq3, zq4, zq5, zq6]
  refine wpAnyG_take (fun _ _ hS_ hb_ => hS_.gr hb_) (i := 2) rfl (by kernel_rfl) (fun _ _ _ h => h) (loadG (by rfl) _ _ rfl _ _ rfl (natsV .u64 th) _ (fun _ hS_ => blk_all (hS_)) Try.underlying94 rfl (i94 L_th.out)) ?_
  try simp only [Act.put, zq1, zq2, zq3, zq4, zq5, zq6]
  refine wpAnyG_take (fun _ _ hS_ hb_ => hS_.gr hb_) (i := 3) rfl (by kernel_rfl) (fun _ _ _ h => h) (callG (by rfl) rfl Try.func110 (by kernel_rfl) (by kernel_rfl) (#[.agg (natsV .u64 t3).toArray, .agg (natsV .u64 th).toArray]) (by simp [Act.eval]) (fun w _ => Hc7.out w)) ?_
  try simp only [Act.put, zq1, zq2, zq3, zq4, zq5, zq6]
  refine wpAnyG_def (i := 4) (j := 5) (fun _ _ hS_ hb_ => hS_.gr hb_) (by kernel_rfl) (by kernel_rfl) (by kernel_rfl) rfl rfl rfl (allocG (by rfl) rfl _ alloc94) (lenEq (show (natsV .u64 (zeros 4)).length = 4 from rfl) (by rw [natsV_length, L_sl.out])) (fun _ => StoresG.mk (cs := (natsV .u64 sl)) (by rfl) 94 _ _ rfl rfl rfl (i94 L_sl.out) (natsV_one _ _)) ?_
  intro w17 G18 hgw17 hz_ hn_
  try simp only [Act.put, zq1, zq2, zq3, zq4, zq5, zq6]
  have E19 := Lib.hid (E11.out.drew.gr hgw17)
  clear E11
  have E20 := Lib.hid (E12.out.drew.gr hgw17)
  clear E12
  have E21 := Lib.hid (E13.out.drew.gr hgw17)
  clear E13
  have E22 := Lib.hid (E14.out.drew.gr hgw17)
  clear E14
  have E23 := Lib.hid (D16.out.drew.gr hgw17)
  clear D16
  have hbel24 := hbel15.drew.trans (Below.mono hgw17 hbel15.drew.size)
  clear hbel15
  have D25 := Lib.hid hn_
  clear hn_ hz_ hgw17
  as_aux_lemma =>
  go_wp2_with (first | (refine wpList_load_mid rfl 94 (.tmp 29) rfl w.heap.size 0 rfl (natsV .u64 lx) _ (tv_x (E19.out)) Try.underlying94 rfl (i94 L_lx.out) ?_) | (refine wpList_load_mid rfl 94 (.tmp 3) rfl G2 0 rfl (natsV .u64 sy) _ (blk_all (E21.out)) Try.underlying94 rfl (i94 L_sy.out) ?_))
  refine (Hc8.out _).mono ?_
  rintro e w26 ⟨rfl, hbw26⟩
  have C27 := Lib.hid (E19.out.gr hbw26)
  clear E19
  have C28 := Lib.hid (E20.out.gr hbw26)
  clear E20
  have C29 := Lib.hid (E21.out.gr hbw26)
  clear E21
  have C30 := Lib.hid (E22.out.gr hbw26)
  clear E22
  have C31 := Lib.hid (E23.out.gr hbw26)
  clear E23
  have C32 := Lib.hid (D25.out.gr hbw26)
  clear D25
  have hbel33 := hbel24.trans (Below.mono hbw26 hbel24.size)
  clear hbel24
  clear hbw26
  go_wp2_with fail
  refine (Hc9.out _).mono ?_
  rintro e w34 ⟨rfl, hbw34⟩
  have C35 := Lib.hid (C27.out.gr hbw34)
  clear C27
  have C36 := Lib.hid (C28.out.gr hbw34)
  clear C28
  have C37 := Lib.hid (C29.out.gr hbw34)
  clear C29
  have C38 := Lib.hid (C30.out.gr hbw34)
  clear C30
  have C39 := Lib.hid (C31.out.gr hbw34)
  clear C31
  have C40 := Lib.hid (C32.out.gr hbw34)
  clear C32
  have hbel41 := hbel33.trans (Below.mono hbw34 hbel33.size)
  clear hbel33
  clear hbw34
  go_wp2_with fail
  refine (Hc10.out _).mono ?_
  rintro e w42 ⟨rfl, hbw42⟩
  have C43 := Lib.hid (C35.out.gr hbw42)
  clear C35
  have C44 := Lib.hid (C36.out.gr hbw42)
  clear C36
  have C45 := Lib.hid (C37.out.gr hbw42)
  clear C37
  have C46 := Lib.hid (C38.out.gr hbw42)
  clear C38
  have C47 := Lib.hid (C39.out.gr hbw42)
  clear C39
  have C48 := Lib.hid (C40.out.gr hbw42)
  clear C40
  have hbel49 := hbel41.trans (Below.mono hbw42 hbel41.size)
  clear hbel41
  clear hbw42
  go_wp2_with (first | (refine stB rfl 94 (.tmp 7) (.tmp 34) rfl w42.heap.size rfl (natsV .u64 sh) rfl 94 (natsV .u64 (zeros 4)) (Blk.new w42 94 (natsV .u64 (zeros 4))) (i94 L_sh.out) (lenEq (show (natsV .u64 (zeros 4)).length = 4 from rfl) (by rw [natsV_length, L_sh.out])) (natsV_one _ _) ?_; generalize hW : World.setRow _ _ _ = w50; obtain ⟨hgw50, hnw50⟩ := newfacts hW; clear hW; have C53 := Lib.hid (C43.out.gr hgw50); clear C43; have C54 := Lib.hid (C44.out.gr hgw50); clear C44; have C55 := Lib.hid (C45.out.gr hgw50); clear C45; have C56 := Lib.hid (C46.out.gr hgw50); clear C46; have C57 := Lib.hid (C47.out.gr hgw50); clear C47; have C58 := Lib.hid (C48.out.gr hgw50); clear C48; have hbel59 := hbel49.trans (Below.mono hgw50 hbel49.size); clear hbel49; have D52 := Lib.hid hnw50; have szw50 := hgw50.size; clear hnw50 hgw50 szw50; generalize w42.heap.size = G51 at *))
  as_aux_lemma =>
  refine wp_region_G (fun w_ => Blk w_ G18 94 (natsV .u64 sl) ∧ Blk w_ G51 94 (natsV .u64 sh)) 6 (by kernel_rfl) ⟨C58.out.drew, D52.out.drew⟩ ?_
  refine wpAnyG_take (fun _ _ hS_ hb_ => ⟨hS_.1.gr hb_, hS_.2.gr hb_⟩) (i := 0) rfl (by kernel_rfl) (fun _ _ _ h => h) (loadG (by rfl) _ _ rfl _ _ rfl (natsV .u64 sl) _ (fun _ hS_ => blk_all (hS_.1)) Try.underlying94 rfl (i94 L_sl.out)) ?_
  try simp only [Act.put, zq1, zq2, zq3, zq4, zq5, zq6]
  refine wpAnyG_take (fun _ _ hS_ hb_ => ⟨hS_.1.gr hb_, hS_.2.gr hb_⟩) (i := 1) rfl (by kernel_rfl) (fun _ _ _ h => h) (callG (by rfl) rfl Try.func72 (by kernel_rfl) (by kernel_rfl) (#[.agg (natsV .u64 sl).toArray]) (by simp [Act.eval]) (fun w _ => Hc11.out w)) ?_
  try simp only [Act.put, zq1, zq2, zq3, zq4, zq5, zq6]
  refine wpAnyG_take (fun _ _ hS_ hb_ => ⟨hS_.1.gr hb_, hS_.2.gr hb_⟩) (i := 2) rfl (by kernel_rfl) (fun _ _ _ h => h) (loadG (by rfl) _ _ rfl _ _ rfl (natsV .u64 sh) _ (fun _ hS_ => blk_all (hS_.2)) Try.underlying94 rfl (i94 L_sh.out)) ?_
  try simp only [Act.put, zq1, zq2, zq3, zq4, zq5, zq6]
  refine wpAnyG_take (fun _ _ hS_ hb_ => ⟨hS_.1.gr hb_, hS_.2.gr hb_⟩) (i := 3) rfl (by kernel_rfl) (fun _ _ _ h => h) (callG (by rfl) rfl Try.func109 (by kernel_rfl) (by kernel_rfl) (#[.agg (natsV .u64 sh).toArray]) (by simp [Act.eval]) (fun w _ => Hc12.out w)) ?_
  try simp only [Act.put, zq1, zq2, zq3, zq4, zq5, zq6]
  refine wpAnyG_take (fun _ _ hS_ hb_ => ⟨hS_.1.gr hb_, hS_.2.gr hb_⟩) (i := 4) rfl (by kernel_rfl) (fun _ _ _ h => h) (callG (by rfl) rfl Try.func111 (by kernel_rfl) (by kernel_rfl) (#[.agg (natsV .u64 s2).toArray, .agg (natsV .u64 d1).toArray]) (by simp [Act.eval]) (fun w _ => Hc13.out w)) ?_
  try simp only [Act.put, zq1, zq2, zq3, zq4, zq5, zq6]
  refine wpAnyG_def (i := 5) (j := 6) (fun _ _ hS_ hb_ => ⟨hS_.1.gr hb_, hS_.2.gr hb_⟩) (by kernel_rfl) (by kernel_rfl) (by kernel_rfl) rfl rfl rfl (allocG (by rfl) rfl _ alloc94) (lenEq (show (natsV .u64 (zeros 4)).length = 4 from rfl) (by rw [natsV_length, L_x4.out])) (fun _ => StoresG.mk (cs := (natsV .u64 x4)) (by rfl) 94 _ _ rfl rfl rfl (i94 L_x4.out) (natsV_one _ _)) ?_
  intro w60 G61 hgw60 hz_ hn_
  try simp only [Act.put, zq1, zq2, zq3, zq4, zq5, zq6]
  have E62 := Lib.hid (C53.out.drew.gr hgw60)
  clear C53
  have E63 := Lib.hid (C54.out.drew.gr hgw60)
  clear C54
  have E64 := Lib.hid (C55.out.drew.gr hgw60)
  clear C55
  have E65 := Lib.hid (C56.out.drew.gr hgw60)
  clear C56
  have E66 := Lib.hid (C57.out.drew.gr hgw60)
  clear C57
  have E67 := Lib.hid (C58.out.drew.gr hgw60)
  clear C58
  have E68 := Lib.hid (D52.out.drew.gr hgw60)
  clear D52
  have hbel69 := hbel59.drew.trans (Below.mono hgw60 hbel59.drew.size)
  clear hbel59
  have D70 := Lib.hid hn_
  clear hn_ hz_ hgw60
  as_aux_lemma =>
  go_wp2_with fail
  as_aux_lemma =>
  refine wp_region_G (fun w_ => Blk w_ G18 94 (natsV .u64 sl) ∧ Blk w_ G51 94 (natsV .u64 sh) ∧ Blk w_ G61 94 (natsV .u64 x4) ∧ Blk w_ G2 94 (natsV .u64 sy)) 11 (by kernel_rfl) ⟨E67.out.drew, E68.out.drew, D70.out.drew, E64.out.drew⟩ ?_
  refine wpAnyG_take (fun _ _ hS_ hb_ => ⟨hS_.1.gr hb_, hS_.2.1.gr hb_, hS_.2.2.1.gr hb_, hS_.2.2.2.gr hb_⟩) (i := 0) rfl (by kernel_rfl) (fun _ _ _ h => h) (loadG (by rfl) _ _ rfl _ _ rfl (natsV .u64 sl) _ (fun _ hS_ => blk_all (hS_.1)) Try.underlying94 rfl (i94 L_sl.out)) ?_
  try simp only [Act.put, zq1, zq2, zq3, zq4, zq5, zq6]
  refine wpAnyG_take (fun _ _ hS_ hb_ => ⟨hS_.1.gr hb_, hS_.2.1.gr hb_, hS_.2.2.1.gr hb_, hS_.2.2.2.gr hb_⟩) (i := 1) rfl (by kernel_rfl) (fun _ _ _ h => h) (loadG (by rfl) _ _ rfl _ _ rfl (natsV .u64 sh) _ (fun _ hS_ => blk_all (hS_.2.1)) Try.underlying94 rfl (i94 L_sh.out)) ?_
  try simp only [Act.put, zq1, zq2, zq3, zq4, zq5, zq6]
  refine wpAnyG_take (fun _ _ hS_ hb_ => ⟨hS_.1.gr hb_, hS_.2.1.gr hb_, hS_.2.2.1.gr hb_, hS_.2.2.2.gr hb_⟩) (i := 2) rfl (by kernel_rfl) (fun _ _ _ h => h) (loadG (by rfl) _ _ rfl _ _ rfl (natsV .u64 x4) _ (fun _ hS_ => blk_all (hS_.2.2.1)) Try.underlying94 rfl (i94 L_x4.out)) ?_
  try simp only [Act.put, zq1, zq2, zq3, zq4, zq5, zq6]
  refine wpAnyG_take (fun _ _ hS_ hb_ => ⟨hS_.1.gr hb_, hS_.2.1.gr hb_, hS_.2.2.1.gr hb_, hS_.2.2.2.gr hb_⟩) (i := 3) rfl (by kernel_rfl) (fun _ _ _ h => h) (callG (by rfl) rfl Try.func111 (by kernel_rfl) (by kernel_rfl) (#[.agg (natsV .u64 sh).toArray, .agg (natsV .u64 x4).toArray]) (by simp [Act.eval]) (fun w _ => Hc14.out w)) ?_
  try simp only [Act.put, zq1, zq2, zq3, zq4, zq5, zq6]
  refine wpAnyG_take (fun _ _ hS_ hb_ => ⟨hS_.1.gr hb_, hS_.2.1.gr hb_, hS_.2.2.1.gr hb_, hS_.2.2.2.gr hb_⟩) (i := 4) rfl (by kernel_rfl) (fun _ _ _ h => h) (callG (by rfl) rfl Try.func108 (by kernel_rfl) (by kernel_rfl) (#[.agg (natsV .u64 sl).toArray, .agg (natsV .u64 e1).toArray]) (by simp [Act.eval]) (fun w _ => Hc15.out w)) ?_
  try simp only [Act.put, zq1, zq2, zq3, zq4, zq5, zq6]
  refine wpAnyG_take (fun _ _ hS_ hb_ => ⟨hS_.1.gr hb_, hS_.2.1.gr hb_, hS_.2.2.1.gr hb_, hS_.2.2.2.gr hb_⟩) (i := 5) rfl (by kernel_rfl) (fun _ _ _ h => h) (loadG (by rfl) _ _ rfl _ _ rfl (natsV .u64 sy) _ (fun _ hS_ => blk_all (hS_.2.2.2)) Try.underlying94 rfl (i94 L_sy.out)) ?_
  try simp only [Act.put, zq1, zq2, zq3, zq4, zq5, zq6]
  refine wpAnyG_take (fun _ _ hS_ hb_ => ⟨hS_.1.gr hb_, hS_.2.1.gr hb_, hS_.2.2.1.gr hb_, hS_.2.2.2.gr hb_⟩) (i := 6) rfl (by kernel_rfl) (fun _ _ _ h => h) (callG (by rfl) rfl Try.func109 (by kernel_rfl) (by kernel_rfl) (#[.agg (natsV .u64 sy).toArray]) (by simp [Act.eval]) (fun w _ => Hc16.out w)) ?_
  try simp only [Act.put, zq1, zq2, zq3, zq4, zq5, zq6]
  refine wpAnyG_take (fun _ _ hS_ hb_ => ⟨hS_.1.gr hb_, hS_.2.1.gr hb_, hS_.2.2.1.gr hb_, hS_.2.2.2.gr hb_⟩) (i := 7) rfl (by kernel_rfl) (fun _ _ _ h => h) (callG (by rfl) rfl Try.func72 (by kernel_rfl) (by kernel_rfl) (#[.agg (natsV .u64 d2).toArray]) (by simp [Act.eval]) (fun w _ => Hc17.out w)) ?_
  try simp only [Act.put, zq1, zq2, zq3, zq4, zq5, zq6]
  refine wpAnyG_take (fun _ _ hS_ hb_ => ⟨hS_.1.gr hb_, hS_.2.1.gr hb_, hS_.2.2.1.gr hb_, hS_.2.2.2.gr hb_⟩) (i := 8) rfl (by kernel_rfl) (fun _ _ _ h => h) (callG (by rfl) rfl Try.func109 (by kernel_rfl) (by kernel_rfl) (#[.agg (natsV .u64 d3).toArray]) (by simp [Act.eval]) (fun w _ => Hc18.out w)) ?_
  try simp only [Act.put, zq1, zq2, zq3, zq4, zq5, zq6]
  refine wpAnyG_take (fun _ _ hS_ hb_ => ⟨hS_.1.gr hb_, hS_.2.1.gr hb_, hS_.2.2.1.gr hb_, hS_.2.2.2.gr hb_⟩) (i := 9) rfl (by kernel_rfl) (fun _ _ _ h => h) (callG (by rfl) rfl Try.func111 (by kernel_rfl) (by kernel_rfl) (#[.agg (natsV .u64 e2).toArray, .agg (natsV .u64 d4).toArray]) (by simp [Act.eval]) (fun w _ => Hc19.out w)) ?_
  try simp only [Act.put, zq1, zq2, zq3, zq4, zq5, zq6]
  refine wpAnyG_def (i := 10) (j := 11) (fun _ _ hS_ hb_ => ⟨hS_.1.gr hb_, hS_.2.1.gr hb_, hS_.2.2.1.gr hb_, hS_.2.2.2.gr hb_⟩) (by kernel_rfl) (by kernel_rfl) (by kernel_rfl) rfl rfl rfl (allocG (by rfl) rfl _ alloc94) (lenEq (show (natsV .u64 (zeros 4)).length = 4 from rfl) (by rw [natsV_length, L_y4.out])) (fun _ => StoresG.mk (cs := (natsV .u64 y4)) (by rfl) 94 _ _ rfl rfl rfl (i94 L_y4.out) (natsV_one _ _)) ?_
  intro w71 G72 hgw71 hz_ hn_
  try simp only [Act.put, zq1, zq2, zq3, zq4, zq5, zq6]
  have E73 := Lib.hid (E62.out.drew.gr hgw71)
  clear E62
  have E74 := Lib.hid (E63.out.drew.gr hgw71)
  clear E63
  have E75 := Lib.hid (E64.out.drew.gr hgw71)
  clear E64
  have E76 := Lib.hid (E65.out.drew.gr hgw71)
  clear E65
  have E77 := Lib.hid (E66.out.drew.gr hgw71)
  clear E66
  have E78 := Lib.hid (E67.out.drew.gr hgw71)
  clear E67
  have E79 := Lib.hid (E68.out.drew.gr hgw71)
  clear E68
  have E80 := Lib.hid (D70.out.drew.gr hgw71)
  clear D70
  have hbel81 := hbel69.drew.trans (Below.mono hgw71 hbel69.drew.size)
  clear hbel69
  have D82 := Lib.hid hn_
  clear hn_ hz_ hgw71
  as_aux_lemma =>
  go_wp2_with fail
  as_aux_lemma =>
  refine wp_region_G (fun w_ => Blk w_ G61 94 (natsV .u64 x4) ∧ Blk w_ G72 94 (natsV .u64 y4) ∧ Blk w_ w.heap.size 103 (tv lx ly lz)) 9 (by kernel_rfl) ⟨E80.out.drew, D82.out.drew, E73.out.drew⟩ ?_
  refine wpAnyG_take (fun _ _ hS_ hb_ => ⟨hS_.1.gr hb_, hS_.2.1.gr hb_, hS_.2.2.gr hb_⟩) (i := 0) rfl (by kernel_rfl) (fun _ _ _ h => h) (loadG (by rfl) _ _ rfl _ _ rfl (natsV .u64 x4) _ (fun _ hS_ => blk_all (hS_.1)) Try.underlying94 rfl (i94 L_x4.out)) ?_
  try simp only [Act.put, zq1, zq2, zq3, zq4, zq5, zq6]
  refine wpAnyG_take (fun _ _ hS_ hb_ => ⟨hS_.1.gr hb_, hS_.2.1.gr hb_, hS_.2.2.gr hb_⟩) (i := 1) rfl (by kernel_rfl) (fun _ _ _ h => h) (loadG (by rfl) _ _ rfl _ _ rfl (natsV .u64 y4) _ (fun _ hS_ => blk_all (hS_.2.1)) Try.underlying94 rfl (i94 L_y4.out)) ?_
  try simp only [Act.put, zq1, zq2, zq3, zq4, zq5, zq6]
  refine wpAnyG_take (fun _ _ hS_ hb_ => ⟨hS_.1.gr hb_, hS_.2.1.gr hb_, hS_.2.2.gr hb_⟩) (i := 2) rfl (by kernel_rfl) (fun _ _ _ h => h) (pureG (by rfl) (by intro w; go_simp; first | done | with_reducible rfl)) ?_
  try simp only [Act.put, zq1, zq2, zq3, zq4, zq5, zq6]
  refine wpAnyG_take (fun _ _ hS_ hb_ => ⟨hS_.1.gr hb_, hS_.2.1.gr hb_, hS_.2.2.gr hb_⟩) (i := 3) rfl (by kernel_rfl) (fun _ _ _ h => h) (loadG (by rfl) _ _ rfl _ _ rfl (natsV .u64 ly) _ (fun _ hS_ => tv_y (hS_.2.2) L_lx.out) Try.underlying94 rfl (i94 L_ly.out)) ?_
  try simp only [Act.put, zq1, zq2, zq3, zq4, zq5, zq6]
  refine wpAnyG_take (fun _ _ hS_ hb_ => ⟨hS_.1.gr hb_, hS_.2.1.gr hb_, hS_.2.2.gr hb_⟩) (i := 4) rfl (by kernel_rfl) (fun _ _ _ h => h) (pureG (by rfl) (by intro w; go_simp; first | done | with_reducible rfl)) ?_
  try simp only [Act.put, zq1, zq2, zq3, zq4, zq5, zq6]
  refine wpAnyG_take (fun _ _ hS_ hb_ => ⟨hS_.1.gr hb_, hS_.2.1.gr hb_, hS_.2.2.gr hb_⟩) (i := 5) rfl (by kernel_rfl) (fun _ _ _ h => h) (loadG (by rfl) _ _ rfl _ _ rfl (natsV .u64 lz) _ (fun _ hS_ => tv_z (hS_.2.2) L_lx.out L_ly.out) Try.underlying94 rfl (i94 L_lz.out)) ?_
  try simp only [Act.put, zq1, zq2, zq3, zq4, zq5, zq6]
  refine wpAnyG_take (fun _ _ hS_ hb_ => ⟨hS_.1.gr hb_, hS_.2.1.gr hb_, hS_.2.2.gr hb_⟩) (i := 6) rfl (by kernel_rfl) (fun _ _ _ h => h) (callG (by rfl) rfl Try.func108 (by kernel_rfl) (by kernel_rfl) (#[.agg (natsV .u64 ly).toArray, .agg (natsV .u64 lz).toArray]) (by simp [Act.eval]) (fun w _ => Hc20.out w)) ?_
  try simp only [Act.put, zq1, zq2, zq3, zq4, zq5, zq6]
  refine wpAnyG_take (fun _ _ hS_ hb_ => ⟨hS_.1.gr hb_, hS_.2.1.gr hb_, hS_.2.2.gr hb_⟩) (i := 7) rfl (by kernel_rfl) (fun _ _ _ h => h) (callG (by rfl) rfl Try.func109 (by kernel_rfl) (by kernel_rfl) (#[.agg (natsV .u64 z1).toArray]) (by simp [Act.eval]) (fun w _ => Hc21.out w)) ?_
  try simp only [Act.put, zq1, zq2, zq3, zq4, zq5, zq6]
  refine wpAnyG_take (fun _ _ hS_ hb_ => ⟨hS_.1.gr hb_, hS_.2.1.gr hb_, hS_.2.2.gr hb_⟩) (i := 8) rfl (by kernel_rfl) (fun _ _ _ h => h) (buildG (by rfl) _ _ rfl _ (built103 L_x4.out L_y4.out L_z4.out) (by simp [Act.eval])) ?_
  try simp only [Act.put, zq1, zq2, zq3, zq4, zq5, zq6]
  refine wpAnyG_set (i := 9) (by kernel_rfl) (by kernel_rfl) rfl rfl E74.out.drew (lenEq (show (natsV .u64 (zeros 12)).length = 12 from rfl) (tv_len L_x4.out L_y4.out L_z4.out)) (StoresG.mk (cs := (tv x4 y4 z4)) (by rfl) 103 _ _ rfl rfl rfl (i103 L_x4.out L_y4.out L_z4.out) (tv_one _ _ _)) ?_
  intro w83 hgw83 hn_
  try simp only [Act.put, zq1, zq2, zq3, zq4, zq5, zq6]
  have hbel84 := belStore hbel81.drew hgw83 (show w.heap.size ≤ (w.heap.size + 1) by omega)
  have D85 := Lib.hid hn_
  go_wp2_with fail
  refine bodyPost_ret (v := .agg (tv x4 y4 z4).toArray) ?_ rfl ⟨rfl, hbel84⟩
  exact results_cell_row Try.results117 _ _ (w.heap.size + 1) 103 _ (0, 0) _ rfl D85.out Try.underlying103 rfl (by simpa using (i103 L_x4.out L_y4.out L_z4.out))
end Go.Proofs.Ytfffmoolkgheaaa
