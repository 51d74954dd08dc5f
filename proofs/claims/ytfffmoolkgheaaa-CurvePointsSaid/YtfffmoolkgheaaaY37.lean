/- Parts of proofs of statements, each text behind those that it stands on. No condition of its own. -/
import Derived.Test.YtfffmoolkgheaaaY25
import Derived.Test.YtfffmoolkgheaaaY30
namespace Go.Proofs.Ytfffmoolkgheaaa
open Go.RowKit
set_option linter.unusedVariables false
set_option linter.unusedSimpArgs false
theorem d_mod (f g : FP) (w : World) : Calls Try.prog 65 #[.agg (natsV .u64 (nw f)).toArray, .agg (natsV .u64 (nw g)).toArray, .agg (natsV .u64 (wds 4 mP)).toArray] w fun e w' => e = .returned (.agg (natsV .u64 (nw (f * g))).toArray) ∧ Below w.heap.size w w' := by
  have h := Mul5_any f.val g.val mP w (lt256 f) (lt256 g) fld_P.lt fld_P.gt
  rw [← Fin.val_mul] at h; exact h
theorem d_modA (f g : FP) (w : World) : Calls Try.prog 46 #[.agg (natsV .u64 (nw f)).toArray, .agg (natsV .u64 (nw g)).toArray, .agg (natsV .u64 (wds 4 mP)).toArray] w fun e w' => e = .returned (.agg (natsV .u64 (nw (f + g))).toArray) ∧ Below w.heap.size w w' := by
  have h := DAdd_any f.val g.val mP w fld_P.lt f.isLt g.isLt
  rw [← Fin.val_add] at h; exact h
theorem d_modS (f g : FP) (w : World) : Calls Try.prog 74 #[.agg (natsV .u64 (nw f)).toArray, .agg (natsV .u64 (nw g)).toArray, .agg (natsV .u64 (wds 4 mP)).toArray] w fun e w' => e = .returned (.agg (natsV .u64 (nw (f - g))).toArray) ∧ Below w.heap.size w w' := by
  have h := DSub_any f.val g.val mP w fld_P.lt f.isLt g.isLt
  rw [← sub_val] at h; exact h
end Go.Proofs.Ytfffmoolkgheaaa
namespace Go.Proofs.Ytfffmoolkgheaaa
open Go.RowKit
set_option linter.unusedVariables false
set_option linter.unusedSimpArgs false
set_option maxRecDepth 100000 in
set_option maxHeartbeats 1600000 in
theorem dright {lx lp l1 lb lr : List Nat} {Y : Nat → List Nat} (hlx : lx.length = 4) (hlp : lp.length = 4) (hl1 : l1.length = 4) (hlb : lb.length = 4) (hlr : lr.length = 4) (hFY : ∀ t, (Y t).length = 4)
    (c1 : ∀ w, Calls Try.prog 56 #[] w fun e w' => e = .returned (.agg (natsV .u64 lp).toArray) ∧ Below w.heap.size w w')
    (c2 : ∀ w, Calls Try.prog 65 #[.agg (natsV .u64 lx).toArray, .agg (natsV .u64 lx).toArray, .agg (natsV .u64 lp).toArray] w fun e w' => e = .returned (.agg (natsV .u64 l1).toArray) ∧ Below w.heap.size w w')
    (c3 : ∀ w, Calls Try.prog 65 #[.agg (natsV .u64 l1).toArray, .agg (natsV .u64 lx).toArray, .agg (natsV .u64 lp).toArray] w fun e w' => e = .returned (.agg (natsV .u64 (Y 0)).toArray) ∧ Below w.heap.size w w')
    (cs : ∀ t, t < 3 → ∀ w, Calls Try.prog 74 #[.agg (natsV .u64 (Y t)).toArray, .agg (natsV .u64 lx).toArray, .agg (natsV .u64 lp).toArray] w fun e w' => e = .returned (.agg (natsV .u64 (Y (t + 1))).toArray) ∧ Below w.heap.size w w')
    (c5 : ∀ w, Calls Try.prog 105 #[] w fun e w' => e = .returned (.agg (natsV .u64 lb).toArray) ∧ Below w.heap.size w w')
    (c6 : ∀ w, Calls Try.prog 46 #[.agg (natsV .u64 (Y 3)).toArray, .agg (natsV .u64 lb).toArray, .agg (natsV .u64 lp).toArray] w fun e w' => e = .returned (.agg (natsV .u64 lr).toArray) ∧ Below w.heap.size w w') (w : World) :
    Calls Try.prog 66 #[.agg (natsV .u64 lx).toArray] w fun e w' => e = .returned (.agg (natsV .u64 lr).toArray) ∧ Below w.heap.size w w' := by
  have L_lx := Lib.hid hlx
  clear hlx
  have L_lp := Lib.hid hlp
  clear hlp
  have L_l1 := Lib.hid hl1
  clear hl1
  have L_lb := Lib.hid hlb
  clear hlb
  have L_lr := Lib.hid hlr
  clear hlr
  have LF_Y := Lib.hid hFY
  clear hFY
  have Hc1 := Lib.hid c1
  clear c1
  have Hc2 := Lib.hid c2
  clear c2
  have Hc3 := Lib.hid c3
  clear c3
  have Hcs := Lib.hid cs
  clear cs
  have Hc5 := Lib.hid c5
  clear c5
  have Hc6 := Lib.hid c6
  clear c6
  have B0_ := Lib.hid ((Blk.new w  24 (natsV .u64 lx)).alloc (.cells (natsV .u64 (zeros 4)).toArray 24))
  have B1_ := Lib.hid (Blk.new2 w (.cells (natsV .u64 lx).toArray 24) 24 (natsV .u64 (zeros 4)))
  have bel_ := (((Below.refl w.heap.size w).alloc (Nat.le_refl _) (.cells (natsV .u64 lx).toArray 24)).alloc (by simp) (.cells (natsV .u64 (zeros 4)).toArray 24))
  go_enter Try.func66, Try.ntmps66
  go_wp2_with fail
  refine (Hc1.out _).mono ?_
  rintro e w1 ⟨rfl, hbw1⟩
  have C2 := Lib.hid (B0_.out.gr hbw1)
  clear B0_
  have C3 := Lib.hid (B1_.out.gr hbw1)
  clear B1_
  have hbel4 := bel_.trans (Below.mono hbw1 bel_.size)
  clear bel_
  clear hbw1
  go_wp2_with (first | (refine stB rfl 24 (.tmp 3) (.tmp 6) rfl w1.heap.size rfl (natsV .u64 lp) rfl 24 (natsV .u64 (zeros 4)) (Blk.new w1 24 (natsV .u64 (zeros 4))) (i24 L_lp.out) (lenEq (show (natsV .u64 (zeros 4)).length = 4 from rfl) (by rw [natsV_length, L_lp.out])) (natsV_one _ _) ?_; generalize hW : World.setRow _ _ _ = w5; obtain ⟨hgw5, hnw5⟩ := newfacts hW; clear hW; have C8 := Lib.hid (C2.out.gr hgw5); clear C2; have C9 := Lib.hid (C3.out.gr hgw5); clear C3; have hbel10 := hbel4.trans (Below.mono hgw5 hbel4.size); clear hbel4; have D7 := Lib.hid hnw5; have szw5 := hgw5.size; clear hnw5 hgw5 szw5; generalize w1.heap.size = G6 at *))
  as_aux_lemma =>
  refine wp_region_G (fun w_ => Blk w_ w.heap.size 24 (natsV .u64 lx) ∧ Blk w_ G6 24 (natsV .u64 lp)) 8 (by kernel_rfl) ⟨C8.out.drew, D7.out.drew⟩ ?_
  refine wpAnyG_take (fun _ _ hS_ hb_ => ⟨hS_.1.gr hb_, hS_.2.gr hb_⟩) (i := 0) rfl (by kernel_rfl) (fun _ _ _ h => h) (loadG (by rfl) _ _ rfl _ _ rfl (natsV .u64 lx) _ (fun _ hS_ => blk_all (hS_.1)) Try.underlying24 rfl (i24 L_lx.out)) ?_
  try simp only [Act.put, zq1, zq2, zq3, zq4, zq5, zq6]
  refine wpAnyG_take (fun _ _ hS_ hb_ => ⟨hS_.1.gr hb_, hS_.2.gr hb_⟩) (i := 1) rfl (by kernel_rfl) (fun _ _ _ h => h) (loadG (by rfl) _ _ rfl _ _ rfl (natsV .u64 lx) _ (fun _ hS_ => blk_all (hS_.1)) Try.underlying24 rfl (i24 L_lx.out)) ?_
  try simp only [Act.put, zq1, zq2, zq3, zq4, zq5, zq6]
  refine wpAnyG_take (fun _ _ hS_ hb_ => ⟨hS_.1.gr hb_, hS_.2.gr hb_⟩) (i := 2) rfl (by kernel_rfl) (fun _ _ _ h => h) (loadG (by rfl) _ _ rfl _ _ rfl (natsV .u64 lp) _ (fun _ hS_ => blk_all (hS_.2)) Try.underlying24 rfl (i24 L_lp.out)) ?_
  try simp only [Act.put, zq1, zq2, zq3, zq4, zq5, zq6]
  refine wpAnyG_take (fun _ _ hS_ hb_ => ⟨hS_.1.gr hb_, hS_.2.gr hb_⟩) (i := 3) rfl (by kernel_rfl) (fun _ _ _ h => h) (callG (by rfl) rfl Try.func65 (by kernel_rfl) (by kernel_rfl) (#[.agg (natsV .u64 lx).toArray, .agg (natsV .u64 lx).toArray, .agg (natsV .u64 lp).toArray]) (by simp [Act.eval]) (fun w _ => Hc2.out w)) ?_
  try simp only [Act.put, zq1, zq2, zq3, zq4, zq5, zq6]
  refine wpAnyG_take (fun _ _ hS_ hb_ => ⟨hS_.1.gr hb_, hS_.2.gr hb_⟩) (i := 4) rfl (by kernel_rfl) (fun _ _ _ h => h) (loadG (by rfl) _ _ rfl _ _ rfl (natsV .u64 lx) _ (fun _ hS_ => blk_all (hS_.1)) Try.underlying24 rfl (i24 L_lx.out)) ?_
  try simp only [Act.put, zq1, zq2, zq3, zq4, zq5, zq6]
  refine wpAnyG_take (fun _ _ hS_ hb_ => ⟨hS_.1.gr hb_, hS_.2.gr hb_⟩) (i := 5) rfl (by kernel_rfl) (fun _ _ _ h => h) (loadG (by rfl) _ _ rfl _ _ rfl (natsV .u64 lp) _ (fun _ hS_ => blk_all (hS_.2)) Try.underlying24 rfl (i24 L_lp.out)) ?_
  try simp only [Act.put, zq1, zq2, zq3, zq4, zq5, zq6]
  refine wpAnyG_take (fun _ _ hS_ hb_ => ⟨hS_.1.gr hb_, hS_.2.gr hb_⟩) (i := 6) rfl (by kernel_rfl) (fun _ _ _ h => h) (callG (by rfl) rfl Try.func65 (by kernel_rfl) (by kernel_rfl) (#[.agg (natsV .u64 l1).toArray, .agg (natsV .u64 lx).toArray, .agg (natsV .u64 lp).toArray]) (by simp [Act.eval]) (fun w _ => Hc3.out w)) ?_
  try simp only [Act.put, zq1, zq2, zq3, zq4, zq5, zq6]
  refine wpAnyG_def (i := 7) (j := 8) (fun _ _ hS_ hb_ => ⟨hS_.1.gr hb_, hS_.2.gr hb_⟩) (by kernel_rfl) (by kernel_rfl) (by kernel_rfl) rfl rfl rfl (allocG (by rfl) rfl _ alloc24) (lenEq (show (natsV .u64 (zeros 4)).length = 4 from rfl) (by rw [natsV_length, (LF_Y.out 0)])) (fun _ => StoresG.mk (cs := (natsV .u64 (Y 0))) (by rfl) 24 _ _ rfl rfl rfl (i24 (LF_Y.out 0)) (natsV_one _ _)) ?_
  intro w11 G12 hgw11 hz_ hn_
  try simp only [Act.put, zq1, zq2, zq3, zq4, zq5, zq6]
  have NE13 := Lib.hid (Nat.ne_of_lt (Nat.lt_of_lt_of_le C8.out.drew.lt hz_))
  have NE14 := Lib.hid (Nat.ne_of_lt (Nat.lt_of_lt_of_le C9.out.drew.lt hz_))
  have NE15 := Lib.hid (Nat.ne_of_lt (Nat.lt_of_lt_of_le D7.out.drew.lt hz_))
  have GE16 := Lib.hid (Nat.le_trans hbel10.drew.size hz_)
  have E17 := Lib.hid (C8.out.drew.gr hgw11)
  clear C8
  have E18 := Lib.hid (C9.out.drew.gr hgw11)
  clear C9
  have E19 := Lib.hid (D7.out.drew.gr hgw11)
  clear D7
  have hbel20 := hbel10.drew.trans (Below.mono hgw11 hbel10.drew.size)
  clear hbel10
  have D21 := Lib.hid hn_
  clear hn_ hz_ hgw11
  as_aux_lemma =>
  go_wp2_with fail
  go_loopw [5] (fun i wr => ∃ t : Nat, t ≤ 3 ∧ i = .int .i64 t ∧ Blk wr w.heap.size 24 (natsV .u64 lx) ∧ Blk wr (w.heap.size + 1) 24 (natsV .u64 (zeros 4)) ∧ Blk wr G6 24 (natsV .u64 lp) ∧ Blk wr G12 24 (natsV .u64 (Y t)) ∧ Below w.heap.size w wr) (fun i _ => 3 - (intOf i).toNat)
  case atStart => exact ⟨0, by omega, rfl, E17.out, E18.out, E19.out, D21.out, hbel20⟩
  case round =>
    clear E17 E18 E19 D21 hbel20
    obtain ⟨t, ht, rfl, kx_, kr_, k3_, k4_, hbel⟩ := hrel
    have Kx := Lib.hid kx_
    clear kx_
    have Kr := Lib.hid kr_
    clear kr_
    have K3 := Lib.hid k3_
    clear k3_
    have K4 := Lib.hid k4_
    clear k4_
    by_cases h3 : t < 3
    · as_aux_lemma =>
      have hti : (t : Int) < 3 := by omega
      have HS := Lib.hid (Hcs.out t h3)
      go_wp2_with (first | (refine wpList_load_mid rfl 24 (.tmp 4) rfl G12 0 rfl (natsV .u64 (Y t)) _ (blk_all (K4.out)) Try.underlying24 rfl (i24 (LF_Y.out t)) ?_) | (refine wpList_load_mid rfl 24 (.tmp 1) rfl w.heap.size 0 rfl (natsV .u64 lx) _ (blk_all (Kx.out)) Try.underlying24 rfl (i24 L_lx.out) ?_) | (refine wpList_load_mid rfl 24 (.tmp 3) rfl G6 0 rfl (natsV .u64 lp) _ (blk_all (K3.out)) Try.underlying24 rfl (i24 L_lp.out) ?_))
      refine (HS.out _).mono ?_
      rintro e w22 ⟨rfl, hbw22⟩
      have C23 := Lib.hid (Kx.out.gr hbw22)
      clear Kx
      have C24 := Lib.hid (Kr.out.gr hbw22)
      clear Kr
      have C25 := Lib.hid (K3.out.gr hbw22)
      clear K3
      have C26 := Lib.hid (K4.out.gr hbw22)
      clear K4
      have hbel27 := hbel.trans (Below.mono hbw22 hbel.size)
      clear hbel
      clear hbw22
      go_wp2_with (first | (refine stB rfl 24 (.tmp 4) (.tmp 21) rfl G12 rfl (natsV .u64 (Y (t + 1))) rfl 24 (natsV .u64 (Y t)) C26.out (i24 (LF_Y.out (t + 1))) (lenEq (by rw [natsV_length, (LF_Y.out t)]) (by rw [natsV_length, (LF_Y.out (t + 1))])) (natsV_one _ _) ?_; generalize hW : World.setRow _ _ _ = w28; obtain ⟨hgw28, hnw28⟩ := setfacts hW C26.out; clear hW; have E29 := Lib.hid (C23.out.grown hgw28 (fun e => NE13.out (Option.some.inj e))); clear C23; have E30 := Lib.hid (C24.out.grown hgw28 (fun e => NE14.out (Option.some.inj e))); clear C24; have E31 := Lib.hid (C25.out.grown hgw28 (fun e => NE15.out (Option.some.inj e))); clear C25; have D32 := Lib.hid hnw28; clear hnw28 C26; have hbel33 := belStore hbel27 hgw28 (GE16.out); clear hgw28; clear hbel27))
      go_roundw
      case rel => exact ⟨t + 1, by omega, by go_num, E29.out, E30.out, E31.out, D32.out, hbel33⟩
      case measure => simp [intOf] <;> omega
    · as_aux_lemma =>
      obtain rfl : t = 3 := by omega
      rw [show ((3 : Nat) : Int) = 3 from rfl]
      go_wp2_with fail
      as_aux_lemma =>
      refine wp_region_G (fun w_ => Blk w_ G12 24 (natsV .u64 (Y 3)) ∧ Blk w_ G6 24 (natsV .u64 lp)) 4 (by kernel_rfl) ⟨K4.out.drew, K3.out.drew⟩ ?_
      refine wpAnyG_take (fun _ _ hS_ hb_ => ⟨hS_.1.gr hb_, hS_.2.gr hb_⟩) (i := 0) rfl (by kernel_rfl) (fun _ _ _ h => h) (loadG (by rfl) _ _ rfl _ _ rfl (natsV .u64 (Y 3)) _ (fun _ hS_ => blk_all (hS_.1)) Try.underlying24 rfl (i24 (LF_Y.out 3))) ?_
      try simp only [Act.put, zq1, zq2, zq3, zq4, zq5, zq6]
      refine wpAnyG_take (fun _ _ hS_ hb_ => ⟨hS_.1.gr hb_, hS_.2.gr hb_⟩) (i := 1) rfl (by kernel_rfl) (fun _ _ _ h => h) (callG (by rfl) rfl Try.func105 (by kernel_rfl) (by kernel_rfl) (#[]) (by simp [Act.eval]) (fun w _ => Hc5.out w)) ?_
      try simp only [Act.put, zq1, zq2, zq3, zq4, zq5, zq6]
      refine wpAnyG_take (fun _ _ hS_ hb_ => ⟨hS_.1.gr hb_, hS_.2.gr hb_⟩) (i := 2) rfl (by kernel_rfl) (fun _ _ _ h => h) (loadG (by rfl) _ _ rfl _ _ rfl (natsV .u64 lp) _ (fun _ hS_ => blk_all (hS_.2)) Try.underlying24 rfl (i24 L_lp.out)) ?_
      try simp only [Act.put, zq1, zq2, zq3, zq4, zq5, zq6]
      refine wpAnyG_take (fun _ _ hS_ hb_ => ⟨hS_.1.gr hb_, hS_.2.gr hb_⟩) (i := 3) rfl (by kernel_rfl) (fun _ _ _ h => h) (callG (by rfl) rfl Try.func46 (by kernel_rfl) (by kernel_rfl) (#[.agg (natsV .u64 (Y 3)).toArray, .agg (natsV .u64 lb).toArray, .agg (natsV .u64 lp).toArray]) (by simp [Act.eval]) (fun w _ => Hc6.out w)) ?_
      try simp only [Act.put, zq1, zq2, zq3, zq4, zq5, zq6]
      refine wpAnyG_set (i := 4) (by kernel_rfl) (by kernel_rfl) rfl rfl Kr.out.drew (lenEq (show (natsV .u64 (zeros 4)).length = 4 from rfl) (by rw [natsV_length, L_lr.out])) (StoresG.mk (cs := (natsV .u64 lr)) (by rfl) 24 _ _ rfl rfl rfl (i24 L_lr.out) (natsV_one _ _)) ?_
      intro w34 hgw34 hn_
      try simp only [Act.put, zq1, zq2, zq3, zq4, zq5, zq6]
      have hbel35 := belStore hbel.drew hgw34 (show w.heap.size ≤ (w.heap.size + 1) by omega)
      have D36 := Lib.hid hn_
      go_wp2_with fail
      refine bodyPost_ret (v := .agg (natsV .u64 lr).toArray) ?_ rfl ⟨rfl, hbel35⟩
      exact results_cell_row Try.results66 _ _ (w.heap.size + 1) 24 _ (0, 0) _ rfl D36.out Try.underlying24 rfl (by simpa using (i24 L_lr.out))
set_option maxRecDepth 100000 in
set_option maxHeartbeats 1600000 in
theorem don_inf {lx ly : List Nat} (hlx : lx.length = 4) (hly : ly.length = 4) (w : World) :
    Calls Try.prog 25 #[.agg (pv lx ly true).toArray] w fun e w' => e = .returned (.bool (decide (lx = zeros 4 ∧ ly = zeros 4))) ∧ Below w.heap.size w w' := by
  have L_lx := Lib.hid hlx
  clear hlx
  have L_ly := Lib.hid hly
  clear hly
  obtain ⟨bb, hbb⟩ : ∃ bb, bb = decide (lx = zeros 4 ∧ ly = zeros 4) := ⟨_, rfl⟩
  have QE := Lib.hid (fun w => show (binOp .eql 43 (.agg (pv lx ly true).toArray) (.agg #[.int .u64 0, .int .u64 0, .int .u64 0, .int .u64 0, .int .u64 0, .int .u64 0, .int .u64 0, .int .u64 0, .bool true])).run Try.prog w = _ from (eql43 lx ly (zeros 4) (zeros 4) true true L_lx.out L_ly.out rfl rfl w).trans (by rw [show decide (lx = zeros 4 ∧ ly = zeros 4 ∧ true = true) = bb by rw [hbb]; simp]))
  rw [← hbb]
  clear hbb
  have B0_ := Lib.hid (Blk.new w  43 (pv lx ly true))
  have bel_ := ((Below.refl w.heap.size w).alloc (Nat.le_refl _) (.cells (pv lx ly true).toArray 43))
  go_enter Try.func25, Try.ntmps25
  have ci := pv_i B0_.out L_lx.out L_ly.out
  have qe := QE.out
  go_wp2_with (first | (refine wpList_load_mid rfl 43 (.tmp 1) rfl w.heap.size 0 rfl (pv lx ly true) _ (blk_all (B0_.out)) Try.underlying43 rfl (i43 L_lx.out L_ly.out) ?_))
  go_ret
  exact ⟨rfl, bel_⟩
set_option maxRecDepth 100000 in
set_option maxHeartbeats 1600000 in
theorem don_a {lx ly lp : List Nat} {by_ : Bool} (hlx : lx.length = 4) (hly : ly.length = 4) (hlp : lp.length = 4)
    (c1 : ∀ w, Calls Try.prog 56 #[] w fun e w' => e = .returned (.agg (natsV .u64 lp).toArray) ∧ Below w.heap.size w w')
    (c2 : ∀ w, Calls Try.prog 64 #[.agg (natsV .u64 lx).toArray, .agg (natsV .u64 lp).toArray] w fun e w' => e = .returned (.bool false) ∧ Below w.heap.size w w')
    (c3 : ∀ w, Calls Try.prog 64 #[.agg (natsV .u64 ly).toArray, .agg (natsV .u64 lp).toArray] w fun e w' => e = .returned (.bool by_) ∧ Below w.heap.size w w') (w : World) :
    Calls Try.prog 25 #[.agg (pv lx ly false).toArray] w fun e w' => e = .returned (.bool false) ∧ Below w.heap.size w w' := by
  have L_lx := Lib.hid hlx
  clear hlx
  have L_ly := Lib.hid hly
  clear hly
  have L_lp := Lib.hid hlp
  clear hlp
  have Hc1 := Lib.hid c1
  clear c1
  have Hc2 := Lib.hid c2
  clear c2
  have Hc3 := Lib.hid c3
  clear c3
  have B0_ := Lib.hid (Blk.new w  43 (pv lx ly false))
  have bel_ := ((Below.refl w.heap.size w).alloc (Nat.le_refl _) (.cells (pv lx ly false).toArray 43))
  go_enter Try.func25, Try.ntmps25
  have ci := pv_i B0_.out L_lx.out L_ly.out
  go_wp2_with fail
  refine (Hc1.out _).mono ?_
  rintro e w1 ⟨rfl, hbw1⟩
  have C2 := Lib.hid (B0_.out.gr hbw1)
  clear B0_
  have hbel3 := bel_.trans (Below.mono hbw1 bel_.size)
  clear bel_
  clear hbw1
  go_wp2_with (first | (refine stB rfl 24 (.tmp 3) (.tmp 11) rfl w1.heap.size rfl (natsV .u64 lp) rfl 24 (natsV .u64 (zeros 4)) (Blk.new w1 24 (natsV .u64 (zeros 4))) (i24 L_lp.out) (lenEq (show (natsV .u64 (zeros 4)).length = 4 from rfl) (by rw [natsV_length, L_lp.out])) (natsV_one _ _) ?_; generalize hW : World.setRow _ _ _ = w4; obtain ⟨hgw4, hnw4⟩ := newfacts hW; clear hW; have C7 := Lib.hid (C2.out.gr hgw4); clear C2; have hbel8 := hbel3.trans (Below.mono hgw4 hbel3.size); clear hbel3; have D6 := Lib.hid hnw4; have szw4 := hgw4.size; clear hnw4 hgw4 szw4; generalize w1.heap.size = G5 at *) | (refine wpList_load_mid rfl 24 (.tmp 12) rfl w.heap.size 0 rfl (natsV .u64 lx) _ (pv_x (C7.out)) Try.underlying24 rfl (i24 L_lx.out) ?_) | (refine wpList_load_mid rfl 24 (.tmp 3) rfl G5 0 rfl (natsV .u64 lp) _ (blk_all (D6.out)) Try.underlying24 rfl (i24 L_lp.out) ?_))
  refine (Hc2.out _).mono ?_
  rintro e w9 ⟨rfl, hbw9⟩
  have C10 := Lib.hid (C7.out.gr hbw9)
  clear C7
  have C11 := Lib.hid (D6.out.gr hbw9)
  clear D6
  have hbel12 := hbel8.trans (Below.mono hbw9 hbel8.size)
  clear hbel8
  clear hbw9
  go_wp2_with (first | (refine wpList_load_mid rfl 24 (.tmp 16) rfl w.heap.size 4 rfl (natsV .u64 ly) _ (pv_y (C10.out) L_lx.out) Try.underlying24 rfl (i24 L_ly.out) ?_) | (refine wpList_load_mid rfl 24 (.tmp 3) rfl G5 0 rfl (natsV .u64 lp) _ (blk_all (C11.out)) Try.underlying24 rfl (i24 L_lp.out) ?_))
  refine (Hc3.out _).mono ?_
  rintro e w13 ⟨rfl, hbw13⟩
  have C14 := Lib.hid (C10.out.gr hbw13)
  clear C10
  have C15 := Lib.hid (C11.out.gr hbw13)
  clear C11
  have hbel16 := hbel12.trans (Below.mono hbw13 hbel12.size)
  clear hbel12
  clear hbw13
  go_wp2_with fail
  as_aux_lemma =>
  refine wp_region_G (fun w_ => True) 17 (by kernel_rfl) trivial ?_
  refine wpAnyG_take (fun _ _ hS_ hb_ => trivial) (i := 0) rfl (by kernel_rfl) (fun _ _ _ h => h) (pureG (by rfl) (by intro w; go_simp; first | done | with_reducible rfl)) ?_
  try simp only [Act.put, zq1, zq2, zq3, zq4, zq5, zq6]
  refine wpAnyG_take (fun _ _ hS_ hb_ => trivial) (i := 1) rfl (by kernel_rfl) (fun _ _ _ h => h) (pureG (by rfl) (by intro w; go_simp; first | done | with_reducible rfl)) ?_
  try simp only [Act.put, zq1, zq2, zq3, zq4, zq5, zq6]
  refine wpAnyG_take (fun _ _ hS_ hb_ => trivial) (i := 2) rfl (by kernel_rfl) (fun _ _ _ h => h) (skipG (by rfl)) ?_
  try simp only [Act.put, zq1, zq2, zq3, zq4, zq5, zq6]
  refine wpAnyG_take (fun _ _ hS_ hb_ => trivial) (i := 3) rfl (by kernel_rfl) (fun _ _ _ h => h) (pureG (by rfl) (by intro w; go_simp; first | done | with_reducible rfl)) ?_
  try simp only [Act.put, zq1, zq2, zq3, zq4, zq5, zq6]
  refine wpAnyG_take (fun _ _ hS_ hb_ => trivial) (i := 4) rfl (by kernel_rfl) (fun _ _ _ h => h) (pureG (by rfl) (by intro w; go_simp; first | done | with_reducible rfl)) ?_
  try simp only [Act.put, zq1, zq2, zq3, zq4, zq5, zq6]
  refine wpAnyG_take (fun _ _ hS_ hb_ => trivial) (i := 5) rfl (by kernel_rfl) (fun _ _ _ h => h) (skipG (by rfl)) ?_
  try simp only [Act.put, zq1, zq2, zq3, zq4, zq5, zq6]
  refine wpAnyG_take (fun _ _ hS_ hb_ => trivial) (i := 6) rfl (by kernel_rfl) (fun _ _ _ h => h) (skipG (by rfl)) ?_
  try simp only [Act.put, zq1, zq2, zq3, zq4, zq5, zq6]
  refine wpAnyG_take (fun _ _ hS_ hb_ => trivial) (i := 7) rfl (by kernel_rfl) (fun _ _ _ h => h) (skipG (by rfl)) ?_
  try simp only [Act.put, zq1, zq2, zq3, zq4, zq5, zq6]
  refine wpAnyG_take (fun _ _ hS_ hb_ => trivial) (i := 8) rfl (by kernel_rfl) (fun _ _ _ h => h) (skipG (by rfl)) ?_
  try simp only [Act.put, zq1, zq2, zq3, zq4, zq5, zq6]
  refine wpAnyG_take (fun _ _ hS_ hb_ => trivial) (i := 9) rfl (by kernel_rfl) (fun _ _ _ h => h) (skipG (by rfl)) ?_
  try simp only [Act.put, zq1, zq2, zq3, zq4, zq5, zq6]
  refine wpAnyG_take (fun _ _ hS_ hb_ => trivial) (i := 10) rfl (by kernel_rfl) (fun _ _ _ h => h) (skipG (by rfl)) ?_
  try simp only [Act.put, zq1, zq2, zq3, zq4, zq5, zq6]
  refine wpAnyG_take (fun _ _ hS_ hb_ => trivial) (i := 11) rfl (by kernel_rfl) (fun _ _ _ h => h) (skipG (by rfl)) ?_
  try simp only [Act.put, zq1, zq2, zq3, zq4, zq5, zq6]
  refine wpAnyG_take (fun _ _ hS_ hb_ => trivial) (i := 12) rfl (by kernel_rfl) (fun _ _ _ h => h) (skipG (by rfl)) ?_
  try simp only [Act.put, zq1, zq2, zq3, zq4, zq5, zq6]
  refine wpAnyG_take (fun _ _ hS_ hb_ => trivial) (i := 13) rfl (by kernel_rfl) (fun _ _ _ h => h) (skipG (by rfl)) ?_
  try simp only [Act.put, zq1, zq2, zq3, zq4, zq5, zq6]
  refine wpAnyG_take (fun _ _ hS_ hb_ => trivial) (i := 14) rfl (by kernel_rfl) (fun _ _ _ h => h) (skipG (by rfl)) ?_
  try simp only [Act.put, zq1, zq2, zq3, zq4, zq5, zq6]
  refine wpAnyG_take (fun _ _ hS_ hb_ => trivial) (i := 15) rfl (by kernel_rfl) (fun _ _ _ h => h) (pureG (by rfl) (by intro w; go_simp; first | done | with_reducible rfl)) ?_
  try simp only [Act.put, zq1, zq2, zq3, zq4, zq5, zq6]
  refine wpAnyG_take (fun _ _ hS_ hb_ => trivial) (i := 16) rfl (by kernel_rfl) (fun _ _ _ h => h) (pureG (by rfl) (by intro w; go_simp; first | done | with_reducible rfl)) ?_
  try simp only [Act.put, zq1, zq2, zq3, zq4, zq5, zq6]
  refine wpAnyG_done (by kernel_rfl) ?_ _
  intro w17 hgw17
  try simp only [Act.put, zq1, zq2, zq3, zq4, zq5, zq6]
  have E18 := Lib.hid (C14.out.drew.gr hgw17)
  clear C14
  have E19 := Lib.hid (C15.out.drew.gr hgw17)
  clear C15
  have hbel20 := hbel16.drew.trans (Below.mono hgw17 hbel16.drew.size)
  clear hbel16
  clear hgw17
  as_aux_lemma =>
  go_wp2_with fail
  go_ret
  exact ⟨rfl, hbel20⟩
set_option maxRecDepth 100000 in
set_option maxHeartbeats 1600000 in
theorem don_b {lx ly lp : List Nat} (hlx : lx.length = 4) (hly : ly.length = 4) (hlp : lp.length = 4)
    (c1 : ∀ w, Calls Try.prog 56 #[] w fun e w' => e = .returned (.agg (natsV .u64 lp).toArray) ∧ Below w.heap.size w w')
    (c2 : ∀ w, Calls Try.prog 64 #[.agg (natsV .u64 lx).toArray, .agg (natsV .u64 lp).toArray] w fun e w' => e = .returned (.bool true) ∧ Below w.heap.size w w')
    (c3 : ∀ w, Calls Try.prog 64 #[.agg (natsV .u64 ly).toArray, .agg (natsV .u64 lp).toArray] w fun e w' => e = .returned (.bool false) ∧ Below w.heap.size w w') (w : World) :
    Calls Try.prog 25 #[.agg (pv lx ly false).toArray] w fun e w' => e = .returned (.bool false) ∧ Below w.heap.size w w' := by
  have L_lx := Lib.hid hlx
  clear hlx
  have L_ly := Lib.hid hly
  clear hly
  have L_lp := Lib.hid hlp
  clear hlp
  have Hc1 := Lib.hid c1
  clear c1
  have Hc2 := Lib.hid c2
  clear c2
  have Hc3 := Lib.hid c3
  clear c3
  have B0_ := Lib.hid (Blk.new w  43 (pv lx ly false))
  have bel_ := ((Below.refl w.heap.size w).alloc (Nat.le_refl _) (.cells (pv lx ly false).toArray 43))
  go_enter Try.func25, Try.ntmps25
  have ci := pv_i B0_.out L_lx.out L_ly.out
  go_wp2_with fail
  refine (Hc1.out _).mono ?_
  rintro e w1 ⟨rfl, hbw1⟩
  have C2 := Lib.hid (B0_.out.gr hbw1)
  clear B0_
  have hbel3 := bel_.trans (Below.mono hbw1 bel_.size)
  clear bel_
  clear hbw1
  go_wp2_with (first | (refine stB rfl 24 (.tmp 3) (.tmp 11) rfl w1.heap.size rfl (natsV .u64 lp) rfl 24 (natsV .u64 (zeros 4)) (Blk.new w1 24 (natsV .u64 (zeros 4))) (i24 L_lp.out) (lenEq (show (natsV .u64 (zeros 4)).length = 4 from rfl) (by rw [natsV_length, L_lp.out])) (natsV_one _ _) ?_; generalize hW : World.setRow _ _ _ = w4; obtain ⟨hgw4, hnw4⟩ := newfacts hW; clear hW; have C7 := Lib.hid (C2.out.gr hgw4); clear C2; have hbel8 := hbel3.trans (Below.mono hgw4 hbel3.size); clear hbel3; have D6 := Lib.hid hnw4; have szw4 := hgw4.size; clear hnw4 hgw4 szw4; generalize w1.heap.size = G5 at *) | (refine wpList_load_mid rfl 24 (.tmp 12) rfl w.heap.size 0 rfl (natsV .u64 lx) _ (pv_x (C7.out)) Try.underlying24 rfl (i24 L_lx.out) ?_) | (refine wpList_load_mid rfl 24 (.tmp 3) rfl G5 0 rfl (natsV .u64 lp) _ (blk_all (D6.out)) Try.underlying24 rfl (i24 L_lp.out) ?_))
  refine (Hc2.out _).mono ?_
  rintro e w9 ⟨rfl, hbw9⟩
  have C10 := Lib.hid (C7.out.gr hbw9)
  clear C7
  have C11 := Lib.hid (D6.out.gr hbw9)
  clear D6
  have hbel12 := hbel8.trans (Below.mono hbw9 hbel8.size)
  clear hbel8
  clear hbw9
  go_wp2_with (first | (refine wpList_load_mid rfl 24 (.tmp 16) rfl w.heap.size 4 rfl (natsV .u64 ly) _ (pv_y (C10.out) L_lx.out) Try.underlying24 rfl (i24 L_ly.out) ?_) | (refine wpList_load_mid rfl 24 (.tmp 3) rfl G5 0 rfl (natsV .u64 lp) _ (blk_all (C11.out)) Try.underlying24 rfl (i24 L_lp.out) ?_))
  refine (Hc3.out _).mono ?_
  rintro e w13 ⟨rfl, hbw13⟩
  have C14 := Lib.hid (C10.out.gr hbw13)
  clear C10
  have C15 := Lib.hid (C11.out.gr hbw13)
  clear C11
  have hbel16 := hbel12.trans (Below.mono hbw13 hbel12.size)
  clear hbel12
  clear hbw13
  go_wp2_with fail
  as_aux_lemma =>
  refine wp_region_G (fun w_ => True) 17 (by kernel_rfl) trivial ?_
  refine wpAnyG_take (fun _ _ hS_ hb_ => trivial) (i := 0) rfl (by kernel_rfl) (fun _ _ _ h => h) (pureG (by rfl) (by intro w; go_simp; first | done | with_reducible rfl)) ?_
  try simp only [Act.put, zq1, zq2, zq3, zq4, zq5, zq6]
  refine wpAnyG_take (fun _ _ hS_ hb_ => trivial) (i := 1) rfl (by kernel_rfl) (fun _ _ _ h => h) (pureG (by rfl) (by intro w; go_simp; first | done | with_reducible rfl)) ?_
  try simp only [Act.put, zq1, zq2, zq3, zq4, zq5, zq6]
  refine wpAnyG_take (fun _ _ hS_ hb_ => trivial) (i := 2) rfl (by kernel_rfl) (fun _ _ _ h => h) (pureG (by rfl) (by intro w; go_simp; first | done | with_reducible rfl)) ?_
  try simp only [Act.put, zq1, zq2, zq3, zq4, zq5, zq6]
  refine wpAnyG_take (fun _ _ hS_ hb_ => trivial) (i := 3) rfl (by kernel_rfl) (fun _ _ _ h => h) (pureG (by rfl) (by intro w; go_simp; first | done | with_reducible rfl)) ?_
  try simp only [Act.put, zq1, zq2, zq3, zq4, zq5, zq6]
  refine wpAnyG_take (fun _ _ hS_ hb_ => trivial) (i := 4) rfl (by kernel_rfl) (fun _ _ _ h => h) (pureG (by rfl) (by intro w; go_simp; first | done | with_reducible rfl)) ?_
  try simp only [Act.put, zq1, zq2, zq3, zq4, zq5, zq6]
  refine wpAnyG_take (fun _ _ hS_ hb_ => trivial) (i := 5) rfl (by kernel_rfl) (fun _ _ _ h => h) (skipG (by rfl)) ?_
  try simp only [Act.put, zq1, zq2, zq3, zq4, zq5, zq6]
  refine wpAnyG_take (fun _ _ hS_ hb_ => trivial) (i := 6) rfl (by kernel_rfl) (fun _ _ _ h => h) (skipG (by rfl)) ?_
  try simp only [Act.put, zq1, zq2, zq3, zq4, zq5, zq6]
  refine wpAnyG_take (fun _ _ hS_ hb_ => trivial) (i := 7) rfl (by kernel_rfl) (fun _ _ _ h => h) (skipG (by rfl)) ?_
  try simp only [Act.put, zq1, zq2, zq3, zq4, zq5, zq6]
  refine wpAnyG_take (fun _ _ hS_ hb_ => trivial) (i := 8) rfl (by kernel_rfl) (fun _ _ _ h => h) (skipG (by rfl)) ?_
  try simp only [Act.put, zq1, zq2, zq3, zq4, zq5, zq6]
  refine wpAnyG_take (fun _ _ hS_ hb_ => trivial) (i := 9) rfl (by kernel_rfl) (fun _ _ _ h => h) (skipG (by rfl)) ?_
  try simp only [Act.put, zq1, zq2, zq3, zq4, zq5, zq6]
  refine wpAnyG_take (fun _ _ hS_ hb_ => trivial) (i := 10) rfl (by kernel_rfl) (fun _ _ _ h => h) (skipG (by rfl)) ?_
  try simp only [Act.put, zq1, zq2, zq3, zq4, zq5, zq6]
  refine wpAnyG_take (fun _ _ hS_ hb_ => trivial) (i := 11) rfl (by kernel_rfl) (fun _ _ _ h => h) (skipG (by rfl)) ?_
  try simp only [Act.put, zq1, zq2, zq3, zq4, zq5, zq6]
  refine wpAnyG_take (fun _ _ hS_ hb_ => trivial) (i := 12) rfl (by kernel_rfl) (fun _ _ _ h => h) (skipG (by rfl)) ?_
  try simp only [Act.put, zq1, zq2, zq3, zq4, zq5, zq6]
  refine wpAnyG_take (fun _ _ hS_ hb_ => trivial) (i := 13) rfl (by kernel_rfl) (fun _ _ _ h => h) (skipG (by rfl)) ?_
  try simp only [Act.put, zq1, zq2, zq3, zq4, zq5, zq6]
  refine wpAnyG_take (fun _ _ hS_ hb_ => trivial) (i := 14) rfl (by kernel_rfl) (fun _ _ _ h => h) (skipG (by rfl)) ?_
  try simp only [Act.put, zq1, zq2, zq3, zq4, zq5, zq6]
  refine wpAnyG_take (fun _ _ hS_ hb_ => trivial) (i := 15) rfl (by kernel_rfl) (fun _ _ _ h => h) (pureG (by rfl) (by intro w; go_simp; first | done | with_reducible rfl)) ?_
  try simp only [Act.put, zq1, zq2, zq3, zq4, zq5, zq6]
  refine wpAnyG_take (fun _ _ hS_ hb_ => trivial) (i := 16) rfl (by kernel_rfl) (fun _ _ _ h => h) (pureG (by rfl) (by intro w; go_simp; first | done | with_reducible rfl)) ?_
  try simp only [Act.put, zq1, zq2, zq3, zq4, zq5, zq6]
  refine wpAnyG_done (by kernel_rfl) ?_ _
  intro w17 hgw17
  try simp only [Act.put, zq1, zq2, zq3, zq4, zq5, zq6]
  have E18 := Lib.hid (C14.out.drew.gr hgw17)
  clear C14
  have E19 := Lib.hid (C15.out.drew.gr hgw17)
  clear C15
  have hbel20 := hbel16.drew.trans (Below.mono hgw17 hbel16.drew.size)
  clear hbel16
  clear hgw17
  as_aux_lemma =>
  go_wp2_with fail
  go_ret
  exact ⟨rfl, hbel20⟩
set_option maxRecDepth 100000 in
set_option maxHeartbeats 1600000 in
theorem don_c {lx ly lp sy rs : List Nat} (hlx : lx.length = 4) (hly : ly.length = 4) (hlp : lp.length = 4) (hsy : sy.length = 4) (hrs : rs.length = 4)
    (c1 : ∀ w, Calls Try.prog 56 #[] w fun e w' => e = .returned (.agg (natsV .u64 lp).toArray) ∧ Below w.heap.size w w')
    (c2 : ∀ w, Calls Try.prog 64 #[.agg (natsV .u64 lx).toArray, .agg (natsV .u64 lp).toArray] w fun e w' => e = .returned (.bool true) ∧ Below w.heap.size w w')
    (c3 : ∀ w, Calls Try.prog 64 #[.agg (natsV .u64 ly).toArray, .agg (natsV .u64 lp).toArray] w fun e w' => e = .returned (.bool true) ∧ Below w.heap.size w w')
    (c4 : ∀ w, Calls Try.prog 65 #[.agg (natsV .u64 ly).toArray, .agg (natsV .u64 ly).toArray, .agg (natsV .u64 lp).toArray] w fun e w' => e = .returned (.agg (natsV .u64 sy).toArray) ∧ Below w.heap.size w w')
    (c5 : ∀ w, Calls Try.prog 66 #[.agg (natsV .u64 lx).toArray] w fun e w' => e = .returned (.agg (natsV .u64 rs).toArray) ∧ Below w.heap.size w w') (w : World) :
    Calls Try.prog 25 #[.agg (pv lx ly false).toArray] w fun e w' => e = .returned (.bool (decide (sy = rs))) ∧ Below w.heap.size w w' := by
  have L_lx := Lib.hid hlx
  clear hlx
  have L_ly := Lib.hid hly
  clear hly
  have L_lp := Lib.hid hlp
  clear hlp
  have L_sy := Lib.hid hsy
  clear hsy
  have L_rs := Lib.hid hrs
  clear hrs
  have Hc1 := Lib.hid c1
  clear c1
  have Hc2 := Lib.hid c2
  clear c2
  have Hc3 := Lib.hid c3
  clear c3
  have Hc4 := Lib.hid c4
  clear c4
  have Hc5 := Lib.hid c5
  clear c5
  have QE := Lib.hid (fun w => eql24 sy rs L_sy.out L_rs.out w)
  have B0_ := Lib.hid (Blk.new w  43 (pv lx ly false))
  have bel_ := ((Below.refl w.heap.size w).alloc (Nat.le_refl _) (.cells (pv lx ly false).toArray 43))
  go_enter Try.func25, Try.ntmps25
  have ci := pv_i B0_.out L_lx.out L_ly.out
  go_wp2_with fail
  refine (Hc1.out _).mono ?_
  rintro e w1 ⟨rfl, hbw1⟩
  have C2 := Lib.hid (B0_.out.gr hbw1)
  clear B0_
  have hbel3 := bel_.trans (Below.mono hbw1 bel_.size)
  clear bel_
  clear hbw1
  go_wp2_with (first | (refine stB rfl 24 (.tmp 3) (.tmp 11) rfl w1.heap.size rfl (natsV .u64 lp) rfl 24 (natsV .u64 (zeros 4)) (Blk.new w1 24 (natsV .u64 (zeros 4))) (i24 L_lp.out) (lenEq (show (natsV .u64 (zeros 4)).length = 4 from rfl) (by rw [natsV_length, L_lp.out])) (natsV_one _ _) ?_; generalize hW : World.setRow _ _ _ = w4; obtain ⟨hgw4, hnw4⟩ := newfacts hW; clear hW; have C7 := Lib.hid (C2.out.gr hgw4); clear C2; have hbel8 := hbel3.trans (Below.mono hgw4 hbel3.size); clear hbel3; have D6 := Lib.hid hnw4; have szw4 := hgw4.size; clear hnw4 hgw4 szw4; generalize w1.heap.size = G5 at *) | (refine wpList_load_mid rfl 24 (.tmp 12) rfl w.heap.size 0 rfl (natsV .u64 lx) _ (pv_x (C7.out)) Try.underlying24 rfl (i24 L_lx.out) ?_) | (refine wpList_load_mid rfl 24 (.tmp 3) rfl G5 0 rfl (natsV .u64 lp) _ (blk_all (D6.out)) Try.underlying24 rfl (i24 L_lp.out) ?_))
  refine (Hc2.out _).mono ?_
  rintro e w9 ⟨rfl, hbw9⟩
  have C10 := Lib.hid (C7.out.gr hbw9)
  clear C7
  have C11 := Lib.hid (D6.out.gr hbw9)
  clear D6
  have hbel12 := hbel8.trans (Below.mono hbw9 hbel8.size)
  clear hbel8
  clear hbw9
  go_wp2_with (first | (refine wpList_load_mid rfl 24 (.tmp 16) rfl w.heap.size 4 rfl (natsV .u64 ly) _ (pv_y (C10.out) L_lx.out) Try.underlying24 rfl (i24 L_ly.out) ?_) | (refine wpList_load_mid rfl 24 (.tmp 3) rfl G5 0 rfl (natsV .u64 lp) _ (blk_all (C11.out)) Try.underlying24 rfl (i24 L_lp.out) ?_))
  refine (Hc3.out _).mono ?_
  rintro e w13 ⟨rfl, hbw13⟩
  have C14 := Lib.hid (C10.out.gr hbw13)
  clear C10
  have C15 := Lib.hid (C11.out.gr hbw13)
  clear C11
  have hbel16 := hbel12.trans (Below.mono hbw13 hbel12.size)
  clear hbel12
  clear hbw13
  go_wp2_with fail
  as_aux_lemma =>
  refine wp_region_G (fun w_ => Blk w_ w.heap.size 43 (pv lx ly false) ∧ Blk w_ G5 24 (natsV .u64 lp)) 17 (by kernel_rfl) ⟨C14.out.drew, C15.out.drew⟩ ?_
  refine wpAnyG_take (fun _ _ hS_ hb_ => ⟨hS_.1.gr hb_, hS_.2.gr hb_⟩) (i := 0) rfl (by kernel_rfl) (fun _ _ _ h => h) (pureG (by rfl) (by intro w; go_simp; first | done | with_reducible rfl)) ?_
  try simp only [Act.put, zq1, zq2, zq3, zq4, zq5, zq6]
  refine wpAnyG_take (fun _ _ hS_ hb_ => ⟨hS_.1.gr hb_, hS_.2.gr hb_⟩) (i := 1) rfl (by kernel_rfl) (fun _ _ _ h => h) (pureG (by rfl) (by intro w; go_simp; first | done | with_reducible rfl)) ?_
  try simp only [Act.put, zq1, zq2, zq3, zq4, zq5, zq6]
  refine wpAnyG_take (fun _ _ hS_ hb_ => ⟨hS_.1.gr hb_, hS_.2.gr hb_⟩) (i := 2) rfl (by kernel_rfl) (fun _ _ _ h => h) (pureG (by rfl) (by intro w; go_simp; first | done | with_reducible rfl)) ?_
  try simp only [Act.put, zq1, zq2, zq3, zq4, zq5, zq6]
  refine wpAnyG_take (fun _ _ hS_ hb_ => ⟨hS_.1.gr hb_, hS_.2.gr hb_⟩) (i := 3) rfl (by kernel_rfl) (fun _ _ _ h => h) (pureG (by rfl) (by intro w; go_simp; first | done | with_reducible rfl)) ?_
  try simp only [Act.put, zq1, zq2, zq3, zq4, zq5, zq6]
  refine wpAnyG_take (fun _ _ hS_ hb_ => ⟨hS_.1.gr hb_, hS_.2.gr hb_⟩) (i := 4) rfl (by kernel_rfl) (fun _ _ _ h => h) (pureG (by rfl) (by intro w; go_simp; first | done | with_reducible rfl)) ?_
  try simp only [Act.put, zq1, zq2, zq3, zq4, zq5, zq6]
  refine wpAnyG_take (fun _ _ hS_ hb_ => ⟨hS_.1.gr hb_, hS_.2.gr hb_⟩) (i := 5) rfl (by kernel_rfl) (fun _ _ _ h => h) (pureG (by rfl) (by intro w; go_simp; first | done | with_reducible rfl)) ?_
  try simp only [Act.put, zq1, zq2, zq3, zq4, zq5, zq6]
  refine wpAnyG_take (fun _ _ hS_ hb_ => ⟨hS_.1.gr hb_, hS_.2.gr hb_⟩) (i := 6) rfl (by kernel_rfl) (fun _ _ _ h => h) (loadG (by rfl) _ _ rfl _ _ rfl (natsV .u64 ly) _ (fun _ hS_ => pv_y (hS_.1) L_lx.out) Try.underlying24 rfl (i24 L_ly.out)) ?_
  try simp only [Act.put, zq1, zq2, zq3, zq4, zq5, zq6]
  refine wpAnyG_take (fun _ _ hS_ hb_ => ⟨hS_.1.gr hb_, hS_.2.gr hb_⟩) (i := 7) rfl (by kernel_rfl) (fun _ _ _ h => h) (pureG (by rfl) (by intro w; go_simp; first | done | with_reducible rfl)) ?_
  try simp only [Act.put, zq1, zq2, zq3, zq4, zq5, zq6]
  refine wpAnyG_take (fun _ _ hS_ hb_ => ⟨hS_.1.gr hb_, hS_.2.gr hb_⟩) (i := 8) rfl (by kernel_rfl) (fun _ _ _ h => h) (loadG (by rfl) _ _ rfl _ _ rfl (natsV .u64 ly) _ (fun _ hS_ => pv_y (hS_.1) L_lx.out) Try.underlying24 rfl (i24 L_ly.out)) ?_
  try simp only [Act.put, zq1, zq2, zq3, zq4, zq5, zq6]
  refine wpAnyG_take (fun _ _ hS_ hb_ => ⟨hS_.1.gr hb_, hS_.2.gr hb_⟩) (i := 9) rfl (by kernel_rfl) (fun _ _ _ h => h) (loadG (by rfl) _ _ rfl _ _ rfl (natsV .u64 lp) _ (fun _ hS_ => blk_all (hS_.2)) Try.underlying24 rfl (i24 L_lp.out)) ?_
  try simp only [Act.put, zq1, zq2, zq3, zq4, zq5, zq6]
  refine wpAnyG_take (fun _ _ hS_ hb_ => ⟨hS_.1.gr hb_, hS_.2.gr hb_⟩) (i := 10) rfl (by kernel_rfl) (fun _ _ _ h => h) (callG (by rfl) rfl Try.func65 (by kernel_rfl) (by kernel_rfl) (#[.agg (natsV .u64 ly).toArray, .agg (natsV .u64 ly).toArray, .agg (natsV .u64 lp).toArray]) (by simp [Act.eval]) (fun w _ => Hc4.out w)) ?_
  try simp only [Act.put, zq1, zq2, zq3, zq4, zq5, zq6]
  refine wpAnyG_take (fun _ _ hS_ hb_ => ⟨hS_.1.gr hb_, hS_.2.gr hb_⟩) (i := 11) rfl (by kernel_rfl) (fun _ _ _ h => h) (pureG (by rfl) (by intro w; go_simp; first | done | with_reducible rfl)) ?_
  try simp only [Act.put, zq1, zq2, zq3, zq4, zq5, zq6]
  refine wpAnyG_take (fun _ _ hS_ hb_ => ⟨hS_.1.gr hb_, hS_.2.gr hb_⟩) (i := 12) rfl (by kernel_rfl) (fun _ _ _ h => h) (loadG (by rfl) _ _ rfl _ _ rfl (natsV .u64 lx) _ (fun _ hS_ => pv_x (hS_.1)) Try.underlying24 rfl (i24 L_lx.out)) ?_
  try simp only [Act.put, zq1, zq2, zq3, zq4, zq5, zq6]
  refine wpAnyG_take (fun _ _ hS_ hb_ => ⟨hS_.1.gr hb_, hS_.2.gr hb_⟩) (i := 13) rfl (by kernel_rfl) (fun _ _ _ h => h) (callG (by rfl) rfl Try.func66 (by kernel_rfl) (by kernel_rfl) (#[.agg (natsV .u64 lx).toArray]) (by simp [Act.eval]) (fun w _ => Hc5.out w)) ?_
  try simp only [Act.put, zq1, zq2, zq3, zq4, zq5, zq6]
  refine wpAnyG_take (fun _ _ hS_ hb_ => ⟨hS_.1.gr hb_, hS_.2.gr hb_⟩) (i := 14) rfl (by kernel_rfl) (fun _ _ _ h => h) (pureG (by rfl) (by intro w; have q := QE.out; go_simp; first | done | with_reducible rfl)) ?_
  try simp only [Act.put, zq1, zq2, zq3, zq4, zq5, zq6]
  refine wpAnyG_take (fun _ _ hS_ hb_ => ⟨hS_.1.gr hb_, hS_.2.gr hb_⟩) (i := 15) rfl (by kernel_rfl) (fun _ _ _ h => h) (pureG (by rfl) (by intro w; go_simp; first | done | with_reducible rfl)) ?_
  try simp only [Act.put, zq1, zq2, zq3, zq4, zq5, zq6]
  refine wpAnyG_take (fun _ _ hS_ hb_ => ⟨hS_.1.gr hb_, hS_.2.gr hb_⟩) (i := 16) rfl (by kernel_rfl) (fun _ _ _ h => h) (pureG (by rfl) (by intro w; go_simp; first | done | with_reducible rfl)) ?_
  try simp only [Act.put, zq1, zq2, zq3, zq4, zq5, zq6]
  refine wpAnyG_done (by kernel_rfl) ?_ _
  intro w17 hgw17
  try simp only [Act.put, zq1, zq2, zq3, zq4, zq5, zq6]
  have E18 := Lib.hid (C14.out.drew.gr hgw17)
  clear C14
  have E19 := Lib.hid (C15.out.drew.gr hgw17)
  clear C15
  have hbel20 := hbel16.drew.trans (Below.mono hgw17 hbel16.drew.size)
  clear hbel16
  clear hgw17
  as_aux_lemma =>
  go_wp2_with fail
  go_ret
  exact ⟨rfl, hbel20⟩
end Go.Proofs.Ytfffmoolkgheaaa
