/- Parts of proofs of statements, each text behind those that it stands on. No condition of its own. -/
import Derived.Test.YtfffmoolkgheaaaZ41
import Derived.Test.YtfffmoolkgheaaaZ45
import Derived.Test.YtfffmoolkgheaaaZ46
namespace Go.Proofs.Ytfffmoolkgheaaa
open Go.RowKit
set_option linter.unusedVariables false
set_option linter.unusedSimpArgs false
set_option maxRecDepth 100000 in
set_option maxHeartbeats 1600000 in
theorem neg_ok {lx ly lm : List Nat} {ip : Bool} (hlx : lx.length = 4) (hly : ly.length = 4) (hlm : lm.length = 4)
    (c1 : ∀ w, Calls Try.prog 29 #[.agg (pv lx ly ip).toArray] w fun e w' => e = .returned (.bool true) ∧ Below w.heap.size w w')
    (c2 : ∀ w, Calls Try.prog 20 #[.int .i64 1, .agg (natsV .u64 (zeros 4)).toArray, .agg (natsV .u64 ly).toArray] w fun e w' => e = .returned (.tuple #[.agg (natsV .u64 lm).toArray, .int .i64 0]) ∧ Below w.heap.size w w') (w : World) :
    Calls Try.prog 28 #[.agg (pv lx ly ip).toArray] w fun e w' => e = .returned (.tuple #[.agg (pv lx lm ip).toArray, .int .i64 0]) ∧ Below w.heap.size w w' := by
  have L_lx := Lib.hid hlx
  clear hlx
  have L_ly := Lib.hid hly
  clear hly
  have L_lm := Lib.hid hlm
  clear hlm
  have Hc1 := Lib.hid c1
  clear c1
  have Hc2 := Lib.hid c2
  clear c2
  have B0_ := Lib.hid ((Blk.new w  43 (pv lx ly ip)).alloc (.cells (pv (zeros 4) (zeros 4) false).toArray 43))
  have B1_ := Lib.hid (Blk.new2 w (.cells (pv lx ly ip).toArray 43) 43 (pv (zeros 4) (zeros 4) false))
  have bel_ := (((Below.refl w.heap.size w).alloc (Nat.le_refl _) (.cells (pv lx ly ip).toArray 43)).alloc (by simp) (.cells (pv (zeros 4) (zeros 4) false).toArray 43))
  go_enter Try.func28, Try.ntmps28
  go_wp2_with (first | (refine wpList_load_mid rfl 43 (.tmp 1) rfl w.heap.size 0 rfl (pv lx ly ip) _ (blk_all (B0_.out)) Try.underlying43 rfl (i43 L_lx.out L_ly.out) ?_))
  refine (Hc1.out _).mono ?_
  rintro e w1 ⟨rfl, hbw1⟩
  have C2 := Lib.hid (B0_.out.gr hbw1)
  clear B0_
  have C3 := Lib.hid (B1_.out.gr hbw1)
  clear B1_
  have hbel4 := bel_.trans (Below.mono hbw1 bel_.size)
  clear bel_
  clear hbw1
  go_wp2_with (first | (refine wpList_load_mid rfl 24 (.tmp 10) rfl w.heap.size 4 rfl (natsV .u64 ly) _ (pv_y (C2.out) L_lx.out) Try.underlying24 rfl (i24 L_ly.out) ?_))
  refine (Hc2.out _).mono ?_
  rintro e w5 ⟨rfl, hbw5⟩
  have C6 := Lib.hid (C2.out.gr hbw5)
  clear C2
  have C7 := Lib.hid (C3.out.gr hbw5)
  clear C3
  have hbel8 := hbel4.trans (Below.mono hbw5 hbel4.size)
  clear hbel4
  clear hbw5
  go_wp2_with (first | (refine stM rfl 24 (.tmp 15) (.tmp 13) rfl w.heap.size 4 rfl (natsV .u64 lm) rfl 43 (pv lx ly ip) (pv lx lm ip) C6.out (pv_setY L_lx.out L_ly.out L_lm.out) (pv_fitY L_lx.out L_ly.out L_lm.out) (i24 L_lm.out) (natsV_one _ _) ?_; intro w9 hgw9 hnw9; have E10 := Lib.hid (C7.out.grown hgw9 (fun e => (show (w.heap.size + 1) ≠ w.heap.size by omega) (Option.some.inj e))); clear C7; have D11 := Lib.hid hnw9; clear hnw9 C6; have hbel12 := belStore hbel8 hgw9 (show w.heap.size ≤ w.heap.size by omega); clear hgw9; clear hbel8) | (refine wpList_load_mid rfl 43 (.tmp 1) rfl w.heap.size 0 rfl (pv lx lm ip) _ (blk_all (D11.out)) Try.underlying43 rfl (i43 L_lx.out L_lm.out) ?_) | (refine stB rfl 43 (.tmp 2) (.tmp 16) rfl (w.heap.size + 1) rfl (pv lx lm ip) rfl 43 (pv (zeros 4) (zeros 4) false) E10.out (i43 L_lx.out L_lm.out) (lenEq (show (pv (zeros 4) (zeros 4) false).length = 9 from rfl) (pv_len L_lx.out L_lm.out)) (pv_one _ _ _) ?_))
  refine bodyPost_ret (v := .tuple #[.agg (pv lx lm ip).toArray, .int .i64 0]) ?_ rfl ⟨rfl, below_setRow' hbel12 (by first | exact Nat.le_refl _ | omega) _⟩
  exact results_two Try.results28 _ _ (w.heap.size + 1) 43 _ (0, 0) _ _ rfl rfl (E10.out.setRow _) Try.underlying43 rfl (by simpa using (i43 L_lx.out L_lm.out))
end Go.Proofs.Ytfffmoolkgheaaa
namespace Go.Proofs.Ytfffmoolkgheaaa
open Go.RowKit
set_option linter.unusedVariables false
set_option linter.unusedSimpArgs false
theorem neg_zero_ : (0 + mP - 0) % mP = 0 := by rw [Nat.zero_add, Nat.sub_zero, Nat.mod_self]
theorem neg_g {n : Nat} [NeZero n] (y : Fin n) : 0 - y = -y := by grobner
theorem neg_val (y : FP) : (0 + mP - y.val) % mP = (-y : FP).val := by
  rw [← neg_g, sub_val, zero_val]
theorem k_neg {P : EC.Pt mP} (hP : EC.On bP P) : Ans 28 #[ptV P] (.tuple #[ptV (EC.neg P), .int .i64 0]) := fun w => by
  rw [ptV_eq P, ptV_eq (EC.neg P)]
  cases P with
  | inf =>
    exact neg_ok rfl rfl rfl (fun w => k_onP (P := .inf) trivial w) (fun w => by
      have h := Sub_ok 1 mP 1 vP 0 0 w fld_P (by decide) (by decide) (pok_2 1 mP 1 vP 0 0 .p (by decide) (by decide))
      rw [neg_zero_, num_zero] at h
      exact h) w
  | aff x y =>
    exact neg_ok (nw_len x) (nw_len y) (nw_len (-y)) (fun w => k_onP hP w) (fun w => by
      have h := Sub_ok 1 mP 1 vP 0 y.val w fld_P (by decide) y.isLt (pok_2 1 mP 1 vP 0 y.val .p (by decide) y.isLt)
      rw [neg_val, num_zero] at h
      exact h) w
theorem mul_modN (k : Nat) : EC.mul (k % mN) gP = EC.mul k gP := by
  have e : k = mN * (k / mN) + k % mN := (Nat.div_add_mod k mN).symm
  have h : EC.mul k gP = EC.mul (mN * (k / mN) + k % mN) gP := congrArg (fun j => EC.mul j gP) e
  rw [h, EC.mul_add okP on_gP, EC.mul_mul okP on_gP, nG, EC.mul_inf, EC.inf_sum]
theorem mulN_mul (a : Nat) : EC.mul mN (EC.mul a gP) = .inf := by
  rw [← EC.mul_mul okP on_gP, Nat.mul_comm, EC.mul_mul okP on_gP, nG, EC.mul_inf]
theorem group_any (a b c : Nat) (w : World) (ha : a < 2 ^ 256) (hb : b < 2 ^ 256) (hc : c < 2 ^ 256) :
    Calls Try.prog 9 #[.agg (tv (wds 4 a) (wds 4 b) (wds 4 c)).toArray] w fun e w' => e = .returned (.bool true) ∧ Below w.heap.size w w' := by
  have hN : mN < 2 ^ 256 := fld_N.lt
  have h2 : 2 ^ 256 < 2 * mN := by decide +kernel
  have hP := EC.mul.on okP on_gP a
  have hQ := EC.mul.on okP on_gP b
  have hR := EC.mul.on okP on_gP c
  have hS := EC.sum.on okP hP hQ
  have hT := EC.sum.on okP hQ hR
  have hU := EC.sum.on okP hS hR
  have hM := EC.neg.on hP
  have hs2 := EC.sum_comm okP hQ hP
  have hu2 := (EC.assoc okP hP hQ hR).symm
  have hz := EC.sum_neg (EC.mul a gP)
  have hsm := EC.sum_inf (EC.mul a gP)
  have hall := mulN_mul a
  have hra := fun w => Rest_any a mN false w hN ha (by rw [show (2 ^ 256 * false.toNat) = 0 from rfl]; omega)
  have hrb := fun w => Rest_any b mN false w hN hb (by rw [show (2 ^ 256 * false.toNat) = 0 from rfl]; omega)
  have hpos : 0 < mN := by decide
  have hla : a % mN < mN := Nat.mod_lt _ hpos
  have hlb : b % mN < mN := Nat.mod_lt _ hpos
  have hsum : EC.mul ((a % mN + b % mN) % mN) gP = EC.sum (EC.mul a gP) (EC.mul b gP) := by
    rw [mul_modN, EC.mul_add okP on_gP, mul_modN, mul_modN]
  have kS2 := k_addP hQ hP
  rw [hs2] at kS2
  have kU2 := k_addP hP hT
  rw [hu2] at kU2
  have kZ := k_addP hP hM
  rw [hz] at kZ
  have ksame := k_addP (Q := .inf) hP trivial
  rw [hsm] at ksame
  have kall := k_mulP hP mN hN
  rw [hall] at kall
  have ksum := k_mulP on_gP ((a % mN + b % mN) % mN) (Nat.lt_trans (Nat.mod_lt _ hpos) hN)
  rw [hsum] at ksum
  have kS := k_addP hP hQ
  have kT := k_addP hQ hR
  have kU := k_addP hS hR
  have kM := k_neg hP
  have kP := k_mulP on_gP a ha
  have kQ := k_mulP on_gP b hb
  have kR := k_mulP on_gP c hc
  have ktwo := k_twoP on_gP on_gP a b ha hb
  have oP := k_onP hP
  have oS := k_onP hS
  have oU := k_onP hU
  rw [show a + 2 ^ 256 * false.toNat = a from rfl] at hra
  rw [show b + 2 ^ 256 * false.toNat = b from rfl] at hrb
  rw [ptV_eq gP] at kP kQ kR ksum ktwo
  generalize EC.sum (EC.sum (EC.mul a gP) (EC.mul b gP)) (EC.mul c gP) = U at *
  generalize EC.sum (EC.mul a gP) (EC.mul b gP) = S at *
  generalize EC.sum (EC.mul b gP) (EC.mul c gP) = T at *
  generalize EC.neg (EC.mul a gP) = M at *
  generalize EC.mul a gP = P at *
  generalize EC.mul b gP = Q at *
  generalize EC.mul c gP = R at *
  rw [ptV_eq P] at *
  rw [ptV_eq Q] at *
  rw [ptV_eq R] at *
  rw [ptV_eq M] at *
  rw [ptV_eq S] at *
  rw [ptV_eq T] at *
  rw [ptV_eq U] at *
  have hb0 := base_pt
  rw [ptV_eq gP] at hb0
  exact group_w (wds_len 4 a) (wds_len 4 b) (wds_len 4 c) (pX_len gP) (pY_len gP) (pX_len P) (pY_len P) (pX_len Q) (pY_len Q) (pX_len R) (pY_len R) (pX_len M) (pY_len M) (pX_len S) (pY_len S) (pX_len T) (pY_len T) (pX_len U) (pY_len U) (wds_len 4 mN) (wds_len 4 _) (wds_len 4 _) (wds_len 4 _)
    k_awake hb0 kP kQ kR kS kS2 kT kU kU2 kM kZ far_any ksame DN_any kall hra hrb (fun w => DAdd_any (a % mN) (b % mN) mN w hN hla hlb) ksum ktwo oP oS oU w
end Go.Proofs.Ytfffmoolkgheaaa
