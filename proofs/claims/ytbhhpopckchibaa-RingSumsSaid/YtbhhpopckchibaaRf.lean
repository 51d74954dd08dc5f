/- The document's powers, values, sums and products place by place. Condition: the coefficients are 32-bit numbers. -/
import Derived.Test.YtbhhpopckchibaaPb
namespace Go.Proofs.Ytbhhpopckchibaa
open Go.RowKit
set_option linter.unusedVariables false
set_option linter.unusedSimpArgs false
theorem pw_sq (x : FQ) (n : Nat) : pw x (2 * n) = pw (x * x) n := by
  rw [pw_mul]
  have : pw x 2 = x * x := by show 1 * x * x = x * x; grobner
  rw [this]
theorem pw_step_odd (X B : FQ) (n : Nat) (h : n % 2 = 1) : X * pw B n = X * B * pw (B * B) (n / 2) := by
  have e : n = 2 * (n / 2) + 1 := by omega
  have h2 : pw B n = pw B (2 * (n / 2)) * B := congrArg (pw B) e
  rw [h2, pw_sq]
  generalize pw (B * B) (n / 2) = y
  clear e h2 h; grobner
theorem pw_step_even (X B : FQ) (n : Nat) (h : ¬ n % 2 = 1) : X * pw B n = X * pw (B * B) (n / 2) := by
  have e : n = 2 * (n / 2) := by omega
  have h2 : pw B n = pw B (2 * (n / 2)) := by rw [← e]
  rw [h2, pw_sq]
theorem mulv (f g : FQ) : ((f.val : Int) * (g.val : Int)) % 8380417 = ((f * g).val : Int) := (mul_val' f g).symm
/-- a number of 64 bits -/
abbrev qw (f : FQ) : Value := .int .i64 (f.val : Int)
theorem qw_zt : qw zt = .int .i64 1753 := by
  show Value.int .i64 ((1753 % mQ : Nat) : Int) = _
  rfl
theorem qw_one : qw 1 = .int .i64 1 := rfl
theorem Power_any (m : Nat) (hm : m < 1024) (w : World) : Calls Try.prog 41 #[.int .i64 (m : Nat)] w fun e w' => e = .returned (qw (pw zt m)) ∧ w = w' := by
  have Z1 := Lib.hid qw_zt
  have Z2 := Lib.hid qw_one
  go_enter Try.func41, Try.ntmps41
  go_wp2_with fail
  go_loop [3, 4, 5] (fun a b c => ∃ (X B : FQ) (n : Nat), n ≤ m ∧ a = qw X ∧ b = qw B ∧ c = .int .i64 n ∧ X * pw B n = pw zt m) (fun _ _ c => (intOf c).toNat)
  case atStart => exact ⟨1, zt, m, Nat.le_refl _, Z2.out.symm, Z1.out.symm, rfl, by generalize pw zt m = y; grobner⟩
  case round =>
    obtain ⟨X, B, n, hn, rfl, rfl, rfl, hx⟩ := hrel
    have HX := Lib.hid hx
    clear hx
    by_cases h0 : 0 < n
    · have hX := fq_bd X
      have hB := fq_bd B
      have hm1 := mul_bd hX hB
      have hm2 := mul_bd hB hB
      have HM1 := Lib.hid (mulv X B)
      have HM2 := Lib.hid (mulv B B)
      by_cases h1 : n % 2 = 1
      · have HS := Lib.hid (pw_step_odd X B n h1)
        rw [HS.out] at HX
        have e : (n : Int) % 2 = 1 := by omega
        obtain ⟨Y, hY⟩ : ∃ Y, X * B = Y := ⟨_, rfl⟩
        obtain ⟨D, hD⟩ : ∃ D, B * B = D := ⟨_, rfl⟩
        rw [hY] at HX HM1
        rw [hD] at HX HM2
        clear hY hD HS
        unfold qw at *
        obtain ⟨x, hxx⟩ : ∃ x : Int, (X.val : Int) = x := ⟨_, rfl⟩
        obtain ⟨b, hbb⟩ : ∃ b : Int, (B.val : Int) = b := ⟨_, rfl⟩
        rw [hxx] at hX hm1 HM1 ⊢
        rw [hbb] at hB hm1 hm2 HM1 HM2 ⊢
        clear hxx hbb
        go_wp2_with fail
        go_round
        case rel => exact ⟨Y, D, n / 2, by omega, by rw [← HM1.out], by rw [← HM2.out], by go_num, HX.out⟩
        case measure => simp [intOf]; omega
      · have HS := Lib.hid (pw_step_even X B n h1)
        rw [HS.out] at HX
        have e : ((n : Int) % 2 == 1) = false := beq_eq_false_iff_ne.2 (by omega)
        obtain ⟨D, hD⟩ : ∃ D, B * B = D := ⟨_, rfl⟩
        rw [hD] at HX HM2
        clear hD HS HM1
        unfold qw at *
        obtain ⟨b, hbb⟩ : ∃ b : Int, (B.val : Int) = b := ⟨_, rfl⟩
        rw [hbb] at hB hm1 hm2 HM2 ⊢
        clear hbb
        go_wp2_with fail
        go_round
        case rel => exact ⟨X, D, n / 2, by omega, rfl, by rw [← HM2.out], by go_num, HX.out⟩
        case measure => simp [intOf]; omega
    · obtain rfl : n = 0 := by omega
      have HE := Lib.hid (show X = pw zt m from by rw [← HX.out]; show X = X * 1; generalize pw zt m = y; grobner)
      rw [show ((0 : Nat) : Int) = 0 from rfl]
      go_wp2_with fail
      go_ret
      exact ⟨by rw [← HE.out]; rfl, rfl⟩
set_option maxRecDepth 100000 in
set_option maxHeartbeats 4000000 in
theorem dAdd_p (f g : Nat → FQ) (w : World) : Calls Try.prog 18 #[.agg (iv (PL f)).toArray, .agg (iv (PL g)).toArray, .bool false] w fun e w' => e = .returned (.agg (iv (PL (fun i => f i + g i))).toArray) ∧ Below w.heap.size w w' := by
  obtain ⟨q, hq⟩ : ∃ q, (fun i => f i + g i) = q := ⟨_, rfl⟩
  have HQ := Lib.hid (fun i => show ((q i).val : Int) = ((f i).val + (g i).val : Int) % 8380417 by rw [← hq]; exact (add_val' (f i) (g i)).trans (by congr 1))
  rw [hq]
  clear hq
  have HF := Lib.hid (fun (t : Nat) (ht : t < 256) => PL_get f t ht)
  have HG := Lib.hid (fun (t : Nat) (ht : t < 256) => PL_get g t ht)
  have LA := Lib.hid (PL_length f)
  have LB := Lib.hid (PL_length g)
  generalize PL f = a at *
  generalize PL g = b at *
  have B1 := Lib.hid ((((Blk.new w 23 (iv a)).alloc (.cells (iv b).toArray 23)).alloc (.cells (iv zerI).toArray 23)).alloc (.cells (iv zerI).toArray 23))
  have B2 := Lib.hid (((Blk.new2 w (.cells (iv a).toArray 23) 23 (iv b)).alloc (.cells (iv zerI).toArray 23)).alloc (.cells (iv zerI).toArray 23))
  have B3 := Lib.hid ((Blk.new3 w (.cells (iv a).toArray 23) (.cells (iv b).toArray 23) 23 (iv zerI)).alloc (.cells (iv zerI).toArray 23))
  have B4 := Lib.hid (Blk.new4 w (.cells (iv a).toArray 23) (.cells (iv b).toArray 23) (.cells (iv zerI).toArray 23) 23 (iv zerI))
  have BEL := Lib.hid (((((Below.refl w.heap.size w).alloc (Nat.le_refl _) (.cells (iv a).toArray 23)).alloc (by simp) (.cells (iv b).toArray 23)).alloc (by simp; omega) (.cells (iv zerI).toArray 23)).alloc (by simp; omega) (.cells (iv zerI).toArray 23))
  have z23 := zero23
  go_enter Try.func18, Try.ntmps18
  go_wp2_with fail
  clear z23
  go_loopw [8] (fun c wr => ∃ t : Nat, t ≤ 256 ∧ c = .int .i64 t ∧ Blk wr w.heap.size 23 (iv a) ∧ Blk wr (w.heap.size + 1) 23 (iv b) ∧ Blk wr (w.heap.size + 1 + 1) 23 (iv zerI) ∧ Blk wr (w.heap.size + 1 + 1 + 1) 23 (iv (flI q t)) ∧ Below w.heap.size w wr) (fun c _ => 256 - (intOf c).toNat)
  case atStart => exact ⟨0, by omega, rfl, B1.out, B2.out, B3.out, by rw [flI_zero]; exact B4.out, BEL.out⟩
  case round =>
    clear B1 B2 B3 B4 BEL
    obtain ⟨t, ht, rfl, k1, k2, k3, k4, hbel⟩ := hrel
    have K1 := Lib.hid k1
    have K2 := Lib.hid k2
    have K3 := Lib.hid k3
    have K4 := Lib.hid k4
    clear k1 k2 k3 k4
    by_cases h5 : t < 256
    · have hxa := K1.out.iv t (by rw [LA.out]; exact h5)
      have hxb := K2.out.iv t (by rw [LB.out]; exact h5)
      rw [HF.out t h5] at hxa
      rw [HG.out t h5] at hxb
      have hba := fq_bd (f t)
      have hbb := fq_bd (g t)
      have HM := Lib.hid (fun w => Mod_any ((f t).val + (g t).val) w (by omega) (by omega))
      rw [← HQ.out t] at HM
      have hc := K4.out.iv t (by rw [flI_len]; exact h5)
      have hf := K4.out.free t
      have HV := Lib.hid (flI_succ q t)
      have i1 : (t : Int) < 256 := by omega
      generalize ((f t).val : Int) = xa at *
      generalize ((g t).val : Int) = xb at *
      generalize q t = y at *
      go_wp2_with (first | (go_at_call 31; refine (HM.out _).mono ?_; rintro e w' ⟨rfl, rfl⟩))
      have k4 := K4.out.ivSet t (y.val : Int)
      rw [HV.out] at k4
      have k1 := K1.out.other ⟨w.heap.size + 1 + 1 + 1, t, none⟩ (.int .i32 (y.val : Int)) (show w.heap.size ≠ w.heap.size + 1 + 1 + 1 by omega)
      have k2 := K2.out.other ⟨w.heap.size + 1 + 1 + 1, t, none⟩ (.int .i32 (y.val : Int)) (show w.heap.size + 1 ≠ w.heap.size + 1 + 1 + 1 by omega)
      have k3 := K3.out.other ⟨w.heap.size + 1 + 1 + 1, t, none⟩ (.int .i32 (y.val : Int)) (by simp)
      have hb2 := hbel.setCell (p := ⟨w.heap.size + 1 + 1 + 1, t, none⟩) (by simp; omega) (.int .i32 (y.val : Int))
      go_roundw
      case rel => exact ⟨t + 1, by omega, by go_num, k1, k2, k3, k4, hb2⟩
      case measure => simp [intOf]; omega
    · obtain rfl : t = 256 := by omega
      rw [flI_all] at K4
      have HL := Lib.hid (PL_length q)
      obtain ⟨m, hm⟩ : ∃ m, PL q = m := ⟨_, rfl⟩
      rw [hm] at K4 HL
      have HMQ := Lib.hid hm
      clear hm
      go_wp2_with (first | (refine wpList_load_row rfl 23 (.tmp 7) rfl (w.heap.size + 1 + 1 + 1) rfl 23 (iv m).toArray (0, 0) _ K4.out Try.underlying23 rfl (j23 HL.out) ?_) | (refine wpList_store_row rfl 23 (.tmp 6) (.tmp 30) rfl (w.heap.size + 1 + 1) (iv m).toArray rfl rfl 23 (iv zerI).toArray K3.out (j23 HL.out) (by rw [iv_size, iv_size, HL.out, zerI_length]) (iv_all _) ?_))
      have j2 := K3.out.setRow (iv m)
      have hb2 := below_setRow' hbel (show w.heap.size ≤ w.heap.size + 1 + 1 by omega) (iv m).toArray
      refine bodyPost_ret (v := .agg (iv m).toArray) ?_ rfl ⟨by rw [HMQ.out], hb2⟩
      exact results_cell_row Try.results18 _ _ (w.heap.size + 1 + 1) 23 _ (0, 0) _ rfl j2 Try.underlying23 rfl (j23 HL.out)
set_option maxRecDepth 100000 in
set_option maxHeartbeats 4000000 in
theorem dAdd_m (f g : Nat → FQ) (w : World) : Calls Try.prog 18 #[.agg (iv (PL f)).toArray, .agg (iv (PL g)).toArray, .bool true] w fun e w' => e = .returned (.agg (iv (PL (fun i => f i - g i))).toArray) ∧ Below w.heap.size w w' := by
  obtain ⟨q, hq⟩ : ∃ q, (fun i => f i - g i) = q := ⟨_, rfl⟩
  have HQ := Lib.hid (fun i => show ((q i).val : Int) = ((f i).val + -(g i).val : Int) % 8380417 by rw [← hq]; exact (sub_val' (f i) (g i)).trans (by congr 1))
  rw [hq]
  clear hq
  have HF := Lib.hid (fun (t : Nat) (ht : t < 256) => PL_get f t ht)
  have HG := Lib.hid (fun (t : Nat) (ht : t < 256) => PL_get g t ht)
  have LA := Lib.hid (PL_length f)
  have LB := Lib.hid (PL_length g)
  generalize PL f = a at *
  generalize PL g = b at *
  have B1 := Lib.hid ((((Blk.new w 23 (iv a)).alloc (.cells (iv b).toArray 23)).alloc (.cells (iv zerI).toArray 23)).alloc (.cells (iv zerI).toArray 23))
  have B2 := Lib.hid (((Blk.new2 w (.cells (iv a).toArray 23) 23 (iv b)).alloc (.cells (iv zerI).toArray 23)).alloc (.cells (iv zerI).toArray 23))
  have B3 := Lib.hid ((Blk.new3 w (.cells (iv a).toArray 23) (.cells (iv b).toArray 23) 23 (iv zerI)).alloc (.cells (iv zerI).toArray 23))
  have B4 := Lib.hid (Blk.new4 w (.cells (iv a).toArray 23) (.cells (iv b).toArray 23) (.cells (iv zerI).toArray 23) 23 (iv zerI))
  have BEL := Lib.hid (((((Below.refl w.heap.size w).alloc (Nat.le_refl _) (.cells (iv a).toArray 23)).alloc (by simp) (.cells (iv b).toArray 23)).alloc (by simp; omega) (.cells (iv zerI).toArray 23)).alloc (by simp; omega) (.cells (iv zerI).toArray 23))
  have z23 := zero23
  go_enter Try.func18, Try.ntmps18
  go_wp2_with fail
  clear z23
  go_loopw [8] (fun c wr => ∃ t : Nat, t ≤ 256 ∧ c = .int .i64 t ∧ Blk wr w.heap.size 23 (iv a) ∧ Blk wr (w.heap.size + 1) 23 (iv b) ∧ Blk wr (w.heap.size + 1 + 1) 23 (iv zerI) ∧ Blk wr (w.heap.size + 1 + 1 + 1) 23 (iv (flI q t)) ∧ Below w.heap.size w wr) (fun c _ => 256 - (intOf c).toNat)
  case atStart => exact ⟨0, by omega, rfl, B1.out, B2.out, B3.out, by rw [flI_zero]; exact B4.out, BEL.out⟩
  case round =>
    clear B1 B2 B3 B4 BEL
    obtain ⟨t, ht, rfl, k1, k2, k3, k4, hbel⟩ := hrel
    have K1 := Lib.hid k1
    have K2 := Lib.hid k2
    have K3 := Lib.hid k3
    have K4 := Lib.hid k4
    clear k1 k2 k3 k4
    by_cases h5 : t < 256
    · have hxa := K1.out.iv t (by rw [LA.out]; exact h5)
      have hxb := K2.out.iv t (by rw [LB.out]; exact h5)
      rw [HF.out t h5] at hxa
      rw [HG.out t h5] at hxb
      have hba := fq_bd (f t)
      have hbb := fq_bd (g t)
      have HM := Lib.hid (fun w => Mod_any ((f t).val + -(g t).val) w (by omega) (by omega))
      rw [← HQ.out t] at HM
      have hc := K4.out.iv t (by rw [flI_len]; exact h5)
      have hf := K4.out.free t
      have HV := Lib.hid (flI_succ q t)
      have i1 : (t : Int) < 256 := by omega
      generalize ((f t).val : Int) = xa at *
      generalize ((g t).val : Int) = xb at *
      generalize q t = y at *
      go_wp2_with (first | (go_at_call 31; refine (HM.out _).mono ?_; rintro e w' ⟨rfl, rfl⟩))
      have k4 := K4.out.ivSet t (y.val : Int)
      rw [HV.out] at k4
      have k1 := K1.out.other ⟨w.heap.size + 1 + 1 + 1, t, none⟩ (.int .i32 (y.val : Int)) (show w.heap.size ≠ w.heap.size + 1 + 1 + 1 by omega)
      have k2 := K2.out.other ⟨w.heap.size + 1 + 1 + 1, t, none⟩ (.int .i32 (y.val : Int)) (show w.heap.size + 1 ≠ w.heap.size + 1 + 1 + 1 by omega)
      have k3 := K3.out.other ⟨w.heap.size + 1 + 1 + 1, t, none⟩ (.int .i32 (y.val : Int)) (by simp)
      have hb2 := hbel.setCell (p := ⟨w.heap.size + 1 + 1 + 1, t, none⟩) (by simp; omega) (.int .i32 (y.val : Int))
      go_roundw
      case rel => exact ⟨t + 1, by omega, by go_num, k1, k2, k3, k4, hb2⟩
      case measure => simp [intOf]; omega
    · obtain rfl : t = 256 := by omega
      rw [flI_all] at K4
      have HL := Lib.hid (PL_length q)
      obtain ⟨m, hm⟩ : ∃ m, PL q = m := ⟨_, rfl⟩
      rw [hm] at K4 HL
      have HMQ := Lib.hid hm
      clear hm
      go_wp2_with (first | (refine wpList_load_row rfl 23 (.tmp 7) rfl (w.heap.size + 1 + 1 + 1) rfl 23 (iv m).toArray (0, 0) _ K4.out Try.underlying23 rfl (j23 HL.out) ?_) | (refine wpList_store_row rfl 23 (.tmp 6) (.tmp 30) rfl (w.heap.size + 1 + 1) (iv m).toArray rfl rfl 23 (iv zerI).toArray K3.out (j23 HL.out) (by rw [iv_size, iv_size, HL.out, zerI_length]) (iv_all _) ?_))
      have j2 := K3.out.setRow (iv m)
      have hb2 := below_setRow' hbel (show w.heap.size ≤ w.heap.size + 1 + 1 by omega) (iv m).toArray
      refine bodyPost_ret (v := .agg (iv m).toArray) ?_ rfl ⟨by rw [HMQ.out], hb2⟩
      exact results_cell_row Try.results18 _ _ (w.heap.size + 1 + 1) 23 _ (0, 0) _ rfl j2 Try.underlying23 rfl (j23 HL.out)
end Go.Proofs.Ytbhhpopckchibaa
