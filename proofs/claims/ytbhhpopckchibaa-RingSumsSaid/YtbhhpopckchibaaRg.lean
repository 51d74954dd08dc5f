/- The document's products place by place, and its values. Condition: the coefficients are 32-bit numbers. -/
import Derived.Test.YtbhhpopckchibaaRf
import Derived.Test.YtbhhpopckchibaaGl
import Derived.Test.YtbhhpopckchibaaTu
import Derived.Test.YtbhhpopckchibaaPp
namespace Go.Proofs.Ytbhhpopckchibaa
open Go.RowKit
set_option linter.unusedVariables false
set_option linter.unusedSimpArgs false
set_option maxRecDepth 100000 in
set_option maxHeartbeats 4000000 in
theorem dTimes_any (f g : Nat → FQ) (w : World) : Calls Try.prog 20 #[.agg (iv (PL f)).toArray, .agg (iv (PL g)).toArray] w fun e w' => e = .returned (.agg (iv (PL (fun i => f i * g i))).toArray) ∧ Below w.heap.size w w' := by
  obtain ⟨q, hq⟩ : ∃ q, (fun i => f i * g i) = q := ⟨_, rfl⟩
  have HQ := Lib.hid (fun i => show ((q i).val : Int) = ((f i).val * (g i).val : Int) % 8380417 by rw [← hq]; exact mul_val' (f i) (g i))
  rw [hq]
  clear hq
  have HF := Lib.hid (fun (t : Nat) (ht : t < 256) => PL_get f t ht)
  have HG := Lib.hid (fun (t : Nat) (ht : t < 256) => PL_get g t ht)
  have LA := Lib.hid (PL_length f)
  have LB := Lib.hid (PL_length g)
  generalize PL f = a at *
  generalize PL g = b at *
  have B1 := Lib.hid ((((Blk.new w 23 (iv a)).alloc (.cells (iv b).toArray 23)).alloc (.cells (iv zerI).toArray 23)).alloc (.cells (iv zerI).toArray 23))
  have B2 := Lib.hid (((Blk.new2 w (.cells (iv a).toArray 23) 23 (iv b)).alloc (.cells (iv zerI).toArray 23)).alloc (.cells (iv zerI).toArray 23))
  have B3 := Lib.hid ((Blk.new3 w (.cells (iv a).toArray 23) (.cells (iv b).toArray 23) 23 (iv zerI)).alloc (.cells (iv zerI).toArray 23))
  have B4 := Lib.hid (Blk.new4 w (.cells (iv a).toArray 23) (.cells (iv b).toArray 23) (.cells (iv zerI).toArray 23) 23 (iv zerI))
  have BEL := Lib.hid (((((Below.refl w.heap.size w).alloc (Nat.le_refl _) (.cells (iv a).toArray 23)).alloc (by simp) (.cells (iv b).toArray 23)).alloc (by simp; omega) (.cells (iv zerI).toArray 23)).alloc (by simp; omega) (.cells (iv zerI).toArray 23))
  have z23 := zero23
  go_enter Try.func20, Try.ntmps20
  go_wp2_with fail
  clear z23
  go_loopw [6] (fun c wr => ∃ t : Nat, t ≤ 256 ∧ c = .int .i64 t ∧ Blk wr w.heap.size 23 (iv a) ∧ Blk wr (w.heap.size + 1) 23 (iv b) ∧ Blk wr (w.heap.size + 1 + 1) 23 (iv zerI) ∧ Blk wr (w.heap.size + 1 + 1 + 1) 23 (iv (flI q t)) ∧ Below w.heap.size w wr) (fun c _ => 256 - (intOf c).toNat)
  case atStart => exact ⟨0, by omega, rfl, B1.out, B2.out, B3.out, by rw [flI_zero]; exact B4.out, BEL.out⟩
  case round =>
    clear B1 B2 B3 B4 BEL
    obtain ⟨t, ht, rfl, k1, k2, k3, k4, hbel⟩ := hrel
    have K1 := Lib.hid k1
    have K2 := Lib.hid k2
    have K3 := Lib.hid k3
    have K4 := Lib.hid k4
    clear k1 k2 k3 k4
    by_cases h5 : t < 256
    · as_aux_lemma =>
        have hxa := Lib.hid (HF.out t h5)
        have hxb := Lib.hid (HG.out t h5)
        have hba := fq_bd (f t)
        have hbb := fq_bd (g t)
        have hpr := mul_bd hba hbb
        have HM := Lib.hid (fun w => Mod_any ((f t).val * (g t).val) w (by omega) (by omega))
        rw [← HQ.out t] at HM
        have HV := Lib.hid (flI_succ q t)
        have LQ := Lib.hid (flI_len q t)
        have i1 : (t : Int) < 256 := by omega
        have e1 : ∀ x y : Int, x = x := fun _ _ => rfl
        clear e1
        generalize ((f t).val : Int) = xa at *
        generalize ((g t).val : Int) = xb at *
        have e2 : IntKind.i64.wrap (xa * xb) = xa * xb := IntWalk.i64_in _ (by omega)
        have e3 : IntKind.i64.wrap xa = xa := IntWalk.i64_in _ (by omega)
        have e4 : IntKind.i64.wrap xb = xb := IntWalk.i64_in _ (by omega)
        generalize q t = y at *
        generalize flI q t = old at *
        go_wp2_with fail
        refine wp_region_L (fun w_ => Blk w_ w.heap.size 23 (iv a) ∧ Blk w_ (w.heap.size + 1) 23 (iv b)) [12] [0, 1, 2, 4, 5, 6, 8, 9, 10, 11, 12] (by kernel_rfl) ⟨K1.out.drew, K2.out.drew⟩ ?_
        refine wpAnyL_pure (fun _ _ hS_ hb_ => ⟨hS_.1.gr hb_, hS_.2.gr hb_⟩) (i := 0) rfl (by kernel_rfl) (fun _ _ _ h => h) (pureG (by rfl) (by intro w_; go_simp; first | done | with_reducible rfl)) ?_
        try simp only [Act.put, List.getElem_toArray, List.getElem_cons_succ, List.getElem_cons_zero, List.setIfInBounds_toArray, List.set_cons_zero, List.set_cons_succ]
        refine wpAnyL_pure (fun _ _ hS_ hb_ => ⟨hS_.1.gr hb_, hS_.2.gr hb_⟩) (i := 1) rfl (by kernel_rfl) (fun _ _ _ h => h) (pureG (by rfl) (by intro w_; go_simp; first | done | with_reducible rfl)) ?_
        try simp only [Act.put, List.getElem_toArray, List.getElem_cons_succ, List.getElem_cons_zero, List.setIfInBounds_toArray, List.set_cons_zero, List.set_cons_succ]
        refine wpAnyL_pure (fun _ _ hS_ hb_ => ⟨hS_.1.gr hb_, hS_.2.gr hb_⟩) (i := 2) rfl (by kernel_rfl) (fun _ _ _ h => h) (pureG (by rfl) (by intro w_; go_simp; first | done | with_reducible rfl)) ?_
        try simp only [Act.put, List.getElem_toArray, List.getElem_cons_succ, List.getElem_cons_zero, List.setIfInBounds_toArray, List.set_cons_zero, List.set_cons_succ]
        refine wpAnyL_take (fun _ _ hS_ hb_ => ⟨hS_.1.gr hb_, hS_.2.gr hb_⟩) (i := 3) rfl (by kernel_rfl) (fun _ _ _ h => h) (worldG (by rfl) (by intro w_ hS_; have q1 := hS_.1.iv t (by rw [LA.out]; exact h5); rw [hxa.out] at q1; go_simp; first | done | with_reducible rfl)) ?_
        try simp only [Act.put, List.getElem_toArray, List.getElem_cons_succ, List.getElem_cons_zero, List.setIfInBounds_toArray, List.set_cons_zero, List.set_cons_succ]
        refine wpAnyL_pure (fun _ _ hS_ hb_ => ⟨hS_.1.gr hb_, hS_.2.gr hb_⟩) (i := 4) rfl (by kernel_rfl) (fun _ _ _ h => h) (pureG (by rfl) (by intro w_; go_simp; first | done | with_reducible rfl)) ?_
        try simp only [Act.put, List.getElem_toArray, List.getElem_cons_succ, List.getElem_cons_zero, List.setIfInBounds_toArray, List.set_cons_zero, List.set_cons_succ]
        refine wpAnyL_pure (fun _ _ hS_ hb_ => ⟨hS_.1.gr hb_, hS_.2.gr hb_⟩) (i := 5) rfl (by kernel_rfl) (fun _ _ _ h => h) (pureG (by rfl) (by intro w_; go_simp; first | done | with_reducible rfl)) ?_
        try simp only [Act.put, List.getElem_toArray, List.getElem_cons_succ, List.getElem_cons_zero, List.setIfInBounds_toArray, List.set_cons_zero, List.set_cons_succ]
        refine wpAnyL_pure (fun _ _ hS_ hb_ => ⟨hS_.1.gr hb_, hS_.2.gr hb_⟩) (i := 6) rfl (by kernel_rfl) (fun _ _ _ h => h) (pureG (by rfl) (by intro w_; go_simp; first | done | with_reducible rfl)) ?_
        try simp only [Act.put, List.getElem_toArray, List.getElem_cons_succ, List.getElem_cons_zero, List.setIfInBounds_toArray, List.set_cons_zero, List.set_cons_succ]
        refine wpAnyL_take (fun _ _ hS_ hb_ => ⟨hS_.1.gr hb_, hS_.2.gr hb_⟩) (i := 7) rfl (by kernel_rfl) (fun _ _ _ h => h) (worldG (by rfl) (by intro w_ hS_; have q1 := hS_.2.iv t (by rw [LB.out]; exact h5); rw [hxb.out] at q1; go_simp; first | done | with_reducible rfl)) ?_
        try simp only [Act.put, List.getElem_toArray, List.getElem_cons_succ, List.getElem_cons_zero, List.setIfInBounds_toArray, List.set_cons_zero, List.set_cons_succ]
        refine wpAnyL_pure (fun _ _ hS_ hb_ => ⟨hS_.1.gr hb_, hS_.2.gr hb_⟩) (i := 8) rfl (by kernel_rfl) (fun _ _ _ h => h) (pureG (by rfl) (by intro w_; go_simp; first | done | with_reducible rfl)) ?_
        try simp only [Act.put, List.getElem_toArray, List.getElem_cons_succ, List.getElem_cons_zero, List.setIfInBounds_toArray, List.set_cons_zero, List.set_cons_succ]
        refine wpAnyL_pure (fun _ _ hS_ hb_ => ⟨hS_.1.gr hb_, hS_.2.gr hb_⟩) (i := 9) rfl (by kernel_rfl) (fun _ _ _ h => h) (pureG (by rfl) (by intro w_; go_simp; first | done | with_reducible rfl)) ?_
        try simp only [Act.put, List.getElem_toArray, List.getElem_cons_succ, List.getElem_cons_zero, List.setIfInBounds_toArray, List.set_cons_zero, List.set_cons_succ]
        refine wpAnyL_pure (fun _ _ hS_ hb_ => ⟨hS_.1.gr hb_, hS_.2.gr hb_⟩) (i := 10) rfl (by kernel_rfl) (fun _ _ _ h => h) (callG (by rfl) rfl Try.func31 (by kernel_rfl) (by kernel_rfl) (#[.int .i64 (xa * xb)]) (by simp [Act.eval]) (fun W_ _ => quietC (HM.out W_))) ?_
        try simp only [Act.put, List.getElem_toArray, List.getElem_cons_succ, List.getElem_cons_zero, List.setIfInBounds_toArray, List.set_cons_zero, List.set_cons_succ]
        refine wpAnyL_pure (fun _ _ hS_ hb_ => ⟨hS_.1.gr hb_, hS_.2.gr hb_⟩) (i := 11) rfl (by kernel_rfl) (fun _ _ _ h => h) (pureG (by rfl) (by intro w_; go_simp; first | done | with_reducible rfl)) ?_
        try simp only [Act.put, List.getElem_toArray, List.getElem_cons_succ, List.getElem_cons_zero, List.setIfInBounds_toArray, List.set_cons_zero, List.set_cons_succ]
        refine wpAnyL_cell (i := 12) (g := w.heap.size + 1 + 1 + 1) (x := t) (t := 23) (u := qv y) (by kernel_rfl) (by kernel_rfl) rfl rfl (by kernel_rfl) (by decide) (by first | exact K4.out.drew | exact K4.out) (by rw [iv_length, LQ.out]; exact h5) (stC (by rfl) rfl rfl rfl rfl) ?_
        intro W hg hb
        try simp only [Act.put, List.getElem_toArray, List.getElem_cons_succ, List.getElem_cons_zero, List.setIfInBounds_toArray, List.set_cons_zero, List.set_cons_succ]
        rw [show (iv old).set t (qv y) = iv (flI q (t + 1)) by rw [iv_set, HV.out]] at hb
        have k1 := K1.out.drew.grown hg (fun e => by have := Option.some.inj e; omega)
        have k2 := K2.out.drew.grown hg (fun e => by have := Option.some.inj e; omega)
        have k3 := K3.out.drew.grown hg (fun e => by have := Option.some.inj e; omega)
        have hbel2 := belStore hbel.drew hg (show w.heap.size ≤ w.heap.size + 1 + 1 + 1 by omega)
        clear K1 K2 K3 K4 hg e2 e3 e4 hbel
        go_wp2_with fail
        go_roundw
        case rel => exact ⟨t + 1, by omega, by go_num, k1, k2, k3, hb, hbel2⟩
        case measure => simp [intOf]; omega
    · obtain rfl : t = 256 := by omega
      rw [flI_all] at K4
      have HL := Lib.hid (PL_length q)
      obtain ⟨m, hm⟩ : ∃ m, PL q = m := ⟨_, rfl⟩
      rw [hm] at K4 HL
      have HMQ := Lib.hid hm
      clear hm
      go_wp2_with (first | (refine wpList_load_row rfl 23 (.tmp 5) rfl (w.heap.size + 1 + 1 + 1) rfl 23 (iv m).toArray (0, 0) _ K4.out Try.underlying23 rfl (j23 HL.out) ?_) | (refine wpList_store_row rfl 23 (.tmp 4) (.tmp 23) rfl (w.heap.size + 1 + 1) (iv m).toArray rfl rfl 23 (iv zerI).toArray K3.out (j23 HL.out) (by rw [iv_size, iv_size, HL.out, zerI_length]) (iv_all _) ?_))
      have j2 := K3.out.setRow (iv m)
      have hb2 := below_setRow' hbel (show w.heap.size ≤ w.heap.size + 1 + 1 by omega) (iv m).toArray
      refine bodyPost_ret (v := .agg (iv m).toArray) ?_ rfl ⟨by rw [HMQ.out], hb2⟩
      exact results_cell_row Try.results20 _ _ (w.heap.size + 1 + 1) 23 _ (0, 0) _ rfl j2 Try.underlying23 rfl (j23 HL.out)
theorem horner (V X P : FQ) : ((V.val : Int) * X.val + P.val) % 8380417 = ((P + X * V).val : Int) := by
  rw [add_val', mul_val', Int.mul_comm (X.val : Int)]
  generalize (V.val : Int) * (X.val : Int) = z
  omega
theorem val_bd2 {a b c : Int} (ha : 0 ≤ a ∧ a < 8380417) (hb : 0 ≤ b ∧ b < 8380417) (hc : 0 ≤ c ∧ c < 8380417) : 0 ≤ a * b + c ∧ a * b + c < 70231397474306 := by have := mul_bd ha hb; omega
set_option maxRecDepth 100000 in
set_option maxHeartbeats 4000000 in
theorem dNTT_any (p : Nat → FQ) (w : World) : Calls Try.prog 23 #[.agg (iv (PL p)).toArray] w fun e w' => e = .returned (.agg (iv (PL (ntt p))).toArray) ∧ Below w.heap.size w w' := by
  have HQ := Lib.hid (fun (t : Nat) (ht : t < 256) => ntt_ev p t ht)
  obtain ⟨q, hq⟩ : ∃ q, ntt p = q := ⟨_, rfl⟩
  rw [hq] at HQ ⊢
  clear hq
  have HF := Lib.hid (fun (t : Nat) (ht : t < 256) => PL_get p t ht)
  have LA := Lib.hid (PL_length p)
  generalize PL p = a at *
  have B1 := Lib.hid (((Blk.new w 23 (iv a)).alloc (.cells (iv zerI).toArray 23)).alloc (.cells (iv zerI).toArray 23))
  have B2 := Lib.hid ((Blk.new2 w (.cells (iv a).toArray 23) 23 (iv zerI)).alloc (.cells (iv zerI).toArray 23))
  have B3 := Lib.hid (Blk.new3 w (.cells (iv a).toArray 23) (.cells (iv zerI).toArray 23) 23 (iv zerI))
  have BEL := Lib.hid ((((Below.refl w.heap.size w).alloc (Nat.le_refl _) (.cells (iv a).toArray 23)).alloc (by simp) (.cells (iv zerI).toArray 23)).alloc (by simp; omega) (.cells (iv zerI).toArray 23))
  have z23 := zero23
  go_enter Try.func23, Try.ntmps23
  go_wp2_with fail
  clear z23
  go_loopw [4] (fun c wr => ∃ t : Nat, t ≤ 256 ∧ c = .int .i64 t ∧ Blk wr w.heap.size 23 (iv a) ∧ Blk wr (w.heap.size + 1) 23 (iv zerI) ∧ Blk wr (w.heap.size + 1 + 1) 23 (iv (flI q t)) ∧ Below w.heap.size w wr) (fun c _ => 256 - (intOf c).toNat)
  case atStart => exact ⟨0, by omega, rfl, B1.out, B2.out, by rw [flI_zero]; exact B3.out, BEL.out⟩
  case round =>
    clear B1 B2 B3 BEL
    obtain ⟨t, ht, rfl, k1, k2, k3, hbel⟩ := hrel
    have K1 := Lib.hid k1
    have K2 := Lib.hid k2
    have K3 := Lib.hid k3
    clear k1 k2 k3
    by_cases h5 : t < 256
    · have HT := Lib.hid (dTurned_any t h5)
      have hbr := brv_lt t
      have HPW := Lib.hid (fun w => show Calls Try.prog 41 #[.int .i64 ((2 * brv t + 1 : Nat) : Int)] w fun e w' => e = .returned (qw (xt t)) ∧ w = w' from Power_any (2 * brv t + 1) (by omega) w)
      have HE := Lib.hid (HQ.out t h5)
      have HV := Lib.hid (flI_succ q t)
      have LQ := Lib.hid (flI_len q t)
      have hc := K3.out.iv t (by rw [LQ.out]; exact h5)
      have hf := K3.out.free t
      have i1 : (t : Int) < 256 := by omega
      unfold ev at HE
      generalize xt t = x at *
      obtain ⟨b2, hb2⟩ : ∃ b2, 2 * brv t + 1 = b2 := ⟨_, rfl⟩
      have e1 : 2 * ((brv t : Nat) : Int) + 1 = (b2 : Int) := by omega
      rw [hb2] at HPW
      have hb3 : b2 < 512 := by omega
      clear hb2
      generalize brv t = br at *
      go_wp2_with (first | (go_at_call 42; refine (HT.out _).mono ?_; rintro e w' ⟨rfl, rfl⟩) | (go_at_call 41; first | (refine (HPW.out _).mono ?_; rintro e w' ⟨rfl, rfl⟩) | (rw [e1]; refine (HPW.out _).mono ?_; rintro e w' ⟨rfl, rfl⟩)))
      go_loop [6, 7] (fun v i => ∃ n : Nat, n ≤ 256 ∧ v = qw (sums p n x (256 - n)) ∧ i = .int .i64 ((n : Int) - 1)) (fun _ i => (intOf i + 1).toNat)
      case atStart => exact ⟨256, by omega, rfl, rfl⟩
      case round =>
        obtain ⟨n, hn, rfl, rfl⟩ := hrel
        by_cases h0 : 0 < n
        · have hxa := K1.out.iv (n - 1) (by rw [LA.out]; omega)
          rw [HF.out (n - 1) (by omega)] at hxa
          have HN := Lib.hid (show sums p (n - 1) x (256 - (n - 1)) = p (n - 1) + x * sums p n x (256 - n) by
            rw [show 256 - (n - 1) = (256 - n) + 1 by omega, sums_head, show n - 1 + 1 = n by omega])
          generalize sums p n x (256 - n) = V at *
          have hbv := fq_bd V
          have hbx := fq_bd x
          have hbp := fq_bd (p (n - 1))
          have hbd := val_bd2 hbv hbx hbp
          have hmb := mul_bd hbv hbx
          have HH := Lib.hid (horner V x (p (n - 1)))
          have i2 : 1 ≤ (n : Int) := by omega
          have i3 : (n : Int) ≤ 256 := by omega
          have e2 : ((n : Int) - 1).toNat = n - 1 := by omega
          unfold qw at *
          obtain ⟨v0, hv0⟩ : ∃ v0 : Int, (V.val : Int) = v0 := ⟨_, rfl⟩
          obtain ⟨x0, hx0⟩ : ∃ x0 : Int, (x.val : Int) = x0 := ⟨_, rfl⟩
          obtain ⟨p0, hp0⟩ : ∃ p0 : Int, ((p (n - 1)).val : Int) = p0 := ⟨_, rfl⟩
          rw [hv0] at hbv hbd hmb HH ⊢
          rw [hx0] at hbx hbd hmb HH HPW ⊢
          rw [hp0] at hbp hbd HH hxa
          clear hv0 hx0 hp0
          rw [← HN.out] at HH
          go_wp2_with fail
          go_round
          case rel => exact ⟨n - 1, by omega, by rw [← HH.out], by congr 1; omega⟩
          case measure => simp [intOf]; omega
        · obtain rfl : n = 0 := by omega
          rw [show sums p 0 x (256 - 0) = q t from HE.out.symm]
          have hbq := fq_bd (q t)
          have k1 := K1.out.other ⟨w.heap.size + 1 + 1, t, none⟩ (.int .i32 ((q t).val : Int)) (show w.heap.size ≠ w.heap.size + 1 + 1 by omega)
          have k2 := K2.out.other ⟨w.heap.size + 1 + 1, t, none⟩ (.int .i32 ((q t).val : Int)) (show w.heap.size + 1 ≠ w.heap.size + 1 + 1 by omega)
          have k3 := K3.out.ivSet t ((q t).val : Int)
          rw [HV.out] at k3
          have hb2 := hbel.setCell (p := ⟨w.heap.size + 1 + 1, t, none⟩) (show w.heap.size ≤ w.heap.size + 1 + 1 by omega) (.int .i32 ((q t).val : Int))
          have G1 := Lib.hid k1
          have G2 := Lib.hid k2
          have G3 := Lib.hid k3
          clear k1 k2 k3 HE
          unfold qw
          generalize ((q t).val : Int) = y at *
          go_wp2_with fail
          go_roundw
          case rel => exact ⟨t + 1, by omega, by go_num, G1.out, G2.out, G3.out, hb2⟩
          case measure => simp [intOf]; omega
    · obtain rfl : t = 256 := by omega
      rw [flI_all] at K3
      have HL := Lib.hid (PL_length q)
      obtain ⟨m, hm⟩ : ∃ m, PL q = m := ⟨_, rfl⟩
      rw [hm] at K3 HL
      have HMQ := Lib.hid hm
      clear hm
      go_wp2_with (first | (refine wpList_load_row rfl 23 (.tmp 3) rfl (w.heap.size + 1 + 1) rfl 23 (iv m).toArray (0, 0) _ K3.out Try.underlying23 rfl (j23 HL.out) ?_) | (refine wpList_store_row rfl 23 (.tmp 2) (.tmp 34) rfl (w.heap.size + 1) (iv m).toArray rfl rfl 23 (iv zerI).toArray K2.out (j23 HL.out) (by rw [iv_size, iv_size, HL.out, zerI_length]) (iv_all _) ?_))
      have j2 := K2.out.setRow (iv m)
      have hb2 := below_setRow' hbel (show w.heap.size ≤ w.heap.size + 1 by omega) (iv m).toArray
      refine bodyPost_ret (v := .agg (iv m).toArray) ?_ rfl ⟨by rw [HMQ.out], hb2⟩
      exact results_cell_row Try.results23 _ _ (w.heap.size + 1) 23 _ (0, 0) _ rfl j2 Try.underlying23 rfl (j23 HL.out)
end Go.Proofs.Ytbhhpopckchibaa
