/- The powers of a number, each at the place with its exponent's bits turned. No condition. -/
import Derived.Test.YtbhhpopckchibaaTu
import Derived.Test.YtbhhpopckchibaaZe
namespace Go.Proofs.Ytbhhpopckchibaa
open Go.RowKit
set_option linter.unusedVariables false
/-- a plain polynomial -/
def PL (f : Nat → FQ) : List Int := tellI (fun i => ((f i).val : Int)) 256
theorem PL_length (f : Nat → FQ) : (PL f).length = 256 := tellI_length _ _
theorem PL_get (f : Nat → FQ) (i : Nat) (h : i < 256) : (PL f).getD i 0 = ((f i).val : Int) := tellI_get _ _ _ h
theorem PL_sm {f g : Nat → FQ} (h : Sm f g) : PL f = PL g := tellI_congr fun i hi => by rw [h i hi]
theorem PL_inj {f g : Nat → FQ} (h : PL f = PL g) : Sm f g := fun i hi => fz_ext (tellI_inj h i hi)
theorem PL_eq {f g : Nat → FQ} : PL f = PL g ↔ Sm f g := ⟨PL_inj, PL_sm⟩
theorem brv_brv : ∀ j, j < 256 → brv (brv j) = j := by decide +kernel
def powI (x : FQ) (t : Nat) : List Int := tellI (fun j => if brv j < t then ((pw x (brv j)).val : Int) else 0) 256
theorem powI_len (x : FQ) (t : Nat) : (powI x t).length = 256 := tellI_length _ _
theorem powI_zero (x : FQ) : powI x 0 = zerI := by
  unfold powI
  conv => rhs; rw [← tellI_self zerI, zerI_length]
  exact tellI_congr fun i _ => by rw [if_neg (by omega), zerI_get]
theorem powI_succ (x : FQ) (t : Nat) (h : t < 256) : (powI x t).set (brv t) ((pw x t).val : Int) = powI x (t + 1) := by
  unfold powI
  rw [tellI_set]
  refine tellI_congr fun j hj => ?_
  have hb := brv_brv t h
  have hb2 := brv_brv j hj
  by_cases e : j = brv t
  · subst e; rw [if_pos rfl, hb, if_pos (by omega)]
  · rw [if_neg e]
    have : brv j ≠ t := fun k => e (by rw [← k, hb2])
    by_cases h2 : brv j < t
    · rw [if_pos h2, if_pos (by omega)]
    · rw [if_neg h2, if_neg (by omega)]
theorem powI_all (x : FQ) : powI x 256 = PL (fun j => pw x (brv j)) := by
  unfold powI PL
  exact tellI_congr fun j _ => if_pos (brv_lt j)
set_option maxRecDepth 100000 in
set_option maxHeartbeats 1000000 in
theorem powers_any (x : FQ) (w : World) : Calls Try.prog 45 #[qv x] w fun e w' => e = .returned (.agg (iv (PL (fun j => pw x (brv j)))).toArray) ∧ Below w.heap.size w w' := by
  have B1 := Lib.hid ((Blk.new w 22 (iv zerI)).alloc (.cells (iv zerI).toArray 22))
  have B2 := Lib.hid (Blk.new2 w (.cells (iv zerI).toArray 22) 22 (iv zerI))
  have BEL := Lib.hid (((Below.refl w.heap.size w).alloc (Nat.le_refl _) (.cells (iv zerI).toArray 22)).alloc (by simp) (.cells (iv zerI).toArray 22))
  have z22 := zero22
  go_enter Try.func45, Try.ntmps45
  go_wp2_with fail
  clear z22
  go_loopw [4, 6] (fun p c wr => ∃ t : Nat, t ≤ 256 ∧ p = qv (pw x t) ∧ c = .int .i64 t ∧ Blk wr w.heap.size 22 (iv zerI) ∧ Blk wr (w.heap.size + 1) 22 (iv (powI x t)) ∧ Below w.heap.size w wr) (fun _ c _ => 256 - (intOf c).toNat)
  case atStart => exact ⟨0, by omega, rfl, rfl, B1.out, by rw [powI_zero]; exact B2.out, BEL.out⟩
  case round =>
    clear B1 B2 BEL
    obtain ⟨t, ht, rfl, rfl, k1, k2, hbel⟩ := hrel
    have K1 := Lib.hid k1
    have K2 := Lib.hid k2
    clear k1 k2
    by_cases h5 : t < 256
    · have HT := Lib.hid (turned_any t h5)
      have HM := Lib.hid (times_any (pw x t) x)
      have hb := brv_lt t
      have hc := K2.out.iv (brv t) (by rw [powI_len]; exact hb)
      have hf := K2.out.free (brv t)
      have HV := Lib.hid (powI_succ x t h5)
      have HP := Lib.hid (show pw x (t + 1) = pw x t * x from rfl)
      generalize pw x t * x = y2 at *
      generalize pw x t = y at *
      generalize brv t = b at *
      go_wp2_with (first | (go_at_call 49; refine (HT.out _).mono ?_; rintro e w' ⟨rfl, rfl⟩) | (go_at_call 38; refine (HM.out _).mono ?_; rintro e w' ⟨rfl, rfl⟩))
      have k2 := K2.out.ivSet b (y.val : Int)
      rw [HV.out] at k2
      have k1 := K1.out.other ⟨w.heap.size + 1, b, none⟩ (.int .i32 (y.val : Int)) (by simp)
      have hb2 := hbel.setCell (p := ⟨w.heap.size + 1, b, none⟩) (by simp) (.int .i32 (y.val : Int))
      go_roundw
      case rel => exact ⟨t + 1, by omega, by rw [HP.out], by go_num, k1, k2, hb2⟩
      case measure => simp [intOf]; omega
    · obtain rfl : t = 256 := by omega
      rw [powI_all] at K2
      have HL := Lib.hid (PL_length (fun j => pw x (brv j)))
      obtain ⟨m, hm⟩ : ∃ m, PL (fun j => pw x (brv j)) = m := ⟨_, rfl⟩
      rw [hm] at K2 HL
      have HMQ := Lib.hid hm
      clear hm
      go_wp2_with (first | (refine wpList_load_row rfl 22 (.tmp 3) rfl (w.heap.size + 1) rfl 22 (iv m).toArray (0, 0) _ K2.out Try.underlying22 rfl (j22 HL.out) ?_) | (refine wpList_store_row rfl 22 (.tmp 2) (.tmp 17) rfl w.heap.size (iv m).toArray rfl rfl 22 (iv zerI).toArray K1.out (j22 HL.out) (by rw [iv_size, iv_size, HL.out, zerI_length]) (iv_all _) ?_))
      have j2 := K1.out.setRow (iv m)
      have hb2 := below_setRow' hbel (Nat.le_refl _) (iv m).toArray
      refine bodyPost_ret (v := .agg (iv m).toArray) ?_ rfl ⟨by rw [HMQ.out], hb2⟩
      exact results_cell_row Try.results45 _ _ w.heap.size 22 _ (0, 0) _ rfl j2 Try.underlying22 rfl (j22 HL.out)
end Go.Proofs.Ytbhhpopckchibaa
