/- The norm, as the project and as the document have it. Condition: the coefficients are 32-bit numbers. -/
import Derived.Test.YtbhhpopckchibaaPb
namespace Go.Proofs.Ytbhhpopckchibaa
open Go.RowKit
set_option linter.unusedVariables false
set_option linter.unusedSimpArgs false
/-- a coefficient's distance from 0 -/
def cd (f : FQ) : Int := min (f.val : Int) (8380417 - f.val)
/-- the greatest of the first n -/
def nrm (f : Nat → FQ) : Nat → Int
  | 0 => 0
  | n + 1 => max (nrm f n) (cd (f n))
theorem cd_bd (f : FQ) : 0 ≤ cd f ∧ cd f ≤ 8380417 := by have := fq_bd f; unfold cd; omega
theorem nrm_bd (f : Nat → FQ) : ∀ n, 0 ≤ nrm f n ∧ nrm f n ≤ 8380417
  | 0 => by unfold nrm; omega
  | n + 1 => by have := nrm_bd f n; have := cd_bd (f n); unfold nrm; omega
theorem Centred_any (f : FQ) (w : World) : Calls Try.prog 40 #[qv f] w fun e w' => e = .returned (.int .i32 (if 4190208 < (f.val : Int) then (f.val : Int) - 8380417 else f.val)) ∧ w = w' := by
  have hb := fq_bd f
  unfold qv
  generalize (f.val : Int) = x at *
  by_cases h : 4190208 < x
  · rw [if_pos h]
    go_enter Try.func40, Try.ntmps40
    go_wp2_with fail
    go_ret
    exact ⟨rfl, rfl⟩
  · rw [if_neg h]
    go_enter Try.func40, Try.ntmps40
    go_wp2_with fail
    go_ret
    exact ⟨rfl, rfl⟩
set_option maxRecDepth 100000 in
set_option maxHeartbeats 4000000 in
theorem Norm_f (a : List Int) (ha : IsP a) (hno : allP [a] = false) (w : World) : Calls Try.prog 13 #[.agg (iv a).toArray] w fun e w' => e = .returned (.tuple #[.int .i32 0, .int .i64 81]) ∧ Below w.heap.size w w' := by
  have HP := Lib.hid (fun (w : World) (g_ : Nat) (h : Blk w g_ 23 (iv a)) => plain1 ha hno h)
  have LA := Lib.hid ha.1
  clear ha hno
  have B1 := Lib.hid (Blk.new w 23 (iv a))
  have B2 := Lib.hid (Blk.new2 w (.cells (iv a).toArray 23) 23 (iv a))
  have BEL := Lib.hid (((Below.refl w.heap.size w).alloc (Nat.le_refl _) (.cells (iv a).toArray 23)).alloc (by simp) (.cells (iv a).toArray 23))
  go_enter Try.func13, Try.ntmps13
  go_wp2_with (first | (refine wpList_load_row rfl 23 (.tmp 1) rfl w.heap.size rfl 23 (iv a).toArray (0, 0) _ B1.out Try.underlying23 rfl (j23 LA.out) ?_) | (refine bs1 rfl _ rfl rfl LA.out ?_))
  refine (HP.out _ _ B2.out).mono ?_
  rintro e w1 ⟨rfl, hb1⟩
  have hbel := Lib.hid (BEL.out.trans (hb1.mono BEL.out.size))
  clear B1 B2 BEL HP hb1
  go_wp2_with fail
  go_ret2
  exact ⟨rfl, hbel.out⟩
set_option maxRecDepth 100000 in
set_option maxHeartbeats 4000000 in
theorem Norm_t (f : Nat → FQ) (w : World) : Calls Try.prog 13 #[.agg (iv (PL f)).toArray] w fun e w' => e = .returned (.tuple #[.int .i32 (nrm f 256), .int .i64 0]) ∧ Below w.heap.size w w' := by
  have HP := Lib.hid (fun (w : World) (g_ : Nat) (h : Blk w g_ 23 (iv (PL f))) => plain1 (IsP_PL f) (allP_PL1 f) h)
  have LA := Lib.hid (PL_length f)
  have HG := Lib.hid (fun (t : Nat) (ht : t < 256) => PL_get f t ht)
  generalize PL f = a at *
  have B1 := Lib.hid (Blk.new w 23 (iv a))
  have B2 := Lib.hid (Blk.new2 w (.cells (iv a).toArray 23) 23 (iv a))
  have BEL := Lib.hid (((Below.refl w.heap.size w).alloc (Nat.le_refl _) (.cells (iv a).toArray 23)).alloc (by simp) (.cells (iv a).toArray 23))
  go_enter Try.func13, Try.ntmps13
  go_wp2_with (first | (refine wpList_load_row rfl 23 (.tmp 1) rfl w.heap.size rfl 23 (iv a).toArray (0, 0) _ B1.out Try.underlying23 rfl (j23 LA.out) ?_) | (refine bs1 rfl _ rfl rfl LA.out ?_))
  refine (HP.out _ _ B2.out).mono ?_
  rintro e w1 ⟨rfl, hb1⟩
  have C1 := Lib.hid ((B1.out.alloc (.cells (iv a).toArray 23)).below' hb1)
  have hbel := Lib.hid (BEL.out.trans (hb1.mono BEL.out.size))
  clear B1 B2 BEL HP hb1
  go_wp2_with (first | (refine wpList_load_row rfl 23 (.tmp 1) rfl w.heap.size rfl 23 (iv a).toArray (0, 0) _ C1.out Try.underlying23 rfl (j23 LA.out) ?_))
  go_loop [4, 12] (fun m c => ∃ t : Nat, t ≤ 256 ∧ m = .int .i32 (nrm f t) ∧ c = .int .i64 t) (fun _ c => 256 - (intOf c).toNat)
  case atStart => exact ⟨0, by omega, rfl, rfl⟩
  case round =>
    obtain ⟨t, ht, rfl, rfl⟩ := hrel
    by_cases h5 : t < 256
    · have hx := fun w => index23 w a t h5 LA.out
      rw [HG.out t h5] at hx
      have HV := Lib.hid (show nrm f (t + 1) = max (nrm f t) (min ((f t).val : Int) (8380417 - (f t).val)) from rfl)
      have hb := fq_bd (f t)
      have hn := nrm_bd f t
      generalize ((f t).val : Int) = x at *
      generalize nrm f t = m at *
      have i1 : (t : Int) < 256 := by omega
      by_cases c1 : x ≤ 8380417 - x
      · by_cases c2 : x ≤ m
        · go_wp2_with fail
          go_round
          case rel => exact ⟨t + 1, by omega, by rw [HV.out]; first | done | (congr 1; omega), by go_num⟩
          case measure => simp [intOf]; omega
        · go_wp2_with fail
          go_round
          case rel => exact ⟨t + 1, by omega, by rw [HV.out]; first | done | (congr 1; omega), by go_num⟩
          case measure => simp [intOf]; omega
      · by_cases c2 : 8380417 - x ≤ m
        · go_wp2_with fail
          go_round
          case rel => exact ⟨t + 1, by omega, by rw [HV.out]; first | done | (congr 1; omega), by go_num⟩
          case measure => simp [intOf]; omega
        · go_wp2_with fail
          go_round
          case rel => exact ⟨t + 1, by omega, by rw [HV.out]; first | done | (congr 1; omega), by go_num⟩
          case measure => simp [intOf]; omega
    · obtain rfl : t = 256 := by omega
      go_wp2_with fail
      go_ret2
      exact ⟨rfl, hbel.out⟩
set_option maxRecDepth 100000 in
set_option maxHeartbeats 4000000 in
theorem dNorm_any (f : Nat → FQ) (w : World) : Calls Try.prog 17 #[.agg (iv (PL f)).toArray] w fun e w' => e = .returned (.int .i32 (nrm f 256)) ∧ Below w.heap.size w w' := by
  have LA := Lib.hid (PL_length f)
  have HG := Lib.hid (fun (t : Nat) (ht : t < 256) => PL_get f t ht)
  generalize PL f = a at *
  have B1 := Lib.hid (Blk.new w 23 (iv a))
  have BEL := Lib.hid ((Below.refl w.heap.size w).alloc (Nat.le_refl _) (.cells (iv a).toArray 23))
  go_enter Try.func17, Try.ntmps17
  go_wp2_with fail
  go_loop [3, 4] (fun m c => ∃ t : Nat, t ≤ 256 ∧ m = .int .i32 (nrm f t) ∧ c = .int .i64 t) (fun _ c => 256 - (intOf c).toNat)
  case atStart => exact ⟨0, by omega, rfl, rfl⟩
  case round =>
    obtain ⟨t, ht, rfl, rfl⟩ := hrel
    by_cases h5 : t < 256
    · have hx := B1.out.iv t (by rw [LA.out]; exact h5)
      rw [HG.out t h5] at hx
      have HC := Lib.hid (Centred_any (f t))
      have HV := Lib.hid (show nrm f (t + 1) = max (nrm f t) (min ((f t).val : Int) (8380417 - (f t).val)) from rfl)
      have hb := fq_bd (f t)
      have hn := nrm_bd f t
      unfold qv at HC
      generalize ((f t).val : Int) = x at *
      generalize nrm f t = m at *
      have i1 : (t : Int) < 256 := by omega
      by_cases c1 : 4190208 < x
      · rw [if_pos c1] at HC
        by_cases c2 : -(x - 8380417) ≤ m
        · go_wp2_with (first | (go_at_call 40; refine (HC.out _).mono ?_; rintro e w' ⟨rfl, rfl⟩))
          go_round
          case rel => exact ⟨t + 1, by omega, by rw [HV.out]; first | done | (congr 1; omega), by go_num⟩
          case measure => simp [intOf]; omega
        · go_wp2_with (first | (go_at_call 40; refine (HC.out _).mono ?_; rintro e w' ⟨rfl, rfl⟩))
          go_round
          case rel => exact ⟨t + 1, by omega, by rw [HV.out]; first | done | (congr 1; omega), by go_num⟩
          case measure => simp [intOf]; omega
      · rw [if_neg c1] at HC
        by_cases c2 : x ≤ m
        · go_wp2_with (first | (go_at_call 40; refine (HC.out _).mono ?_; rintro e w' ⟨rfl, rfl⟩))
          go_round
          case rel => exact ⟨t + 1, by omega, by rw [HV.out]; first | done | (congr 1; omega), by go_num⟩
          case measure => simp [intOf]; omega
        · go_wp2_with (first | (go_at_call 40; refine (HC.out _).mono ?_; rintro e w' ⟨rfl, rfl⟩))
          go_round
          case rel => exact ⟨t + 1, by omega, by rw [HV.out]; first | done | (congr 1; omega), by go_num⟩
          case measure => simp [intOf]; omega
    · obtain rfl : t = 256 := by omega
      go_wp2_with fail
      go_ret
      exact ⟨rfl, BEL.out⟩
end Go.Proofs.Ytbhhpopckchibaa
