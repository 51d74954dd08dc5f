/- The document's first state. No condition. -/
import Derived.Test.YtnikhnpigopihaaDoorRefN
namespace Go.Proofs.YtnikhnpigopihaaDoor
open Go.RowKit
set_option linter.unusedVariables false
set_option maxRecDepth 100000
def sqS : ByteArray := { data := #[54, 97, 48, 57, 101, 54, 54, 55, 102, 51, 98, 99, 99, 57, 48, 56, 98, 98, 54, 55, 97, 101, 56, 53, 56, 52, 99, 97, 97, 55, 51, 98, 51, 99, 54, 101, 102, 51, 55, 50, 102, 101, 57, 52, 102, 56, 50, 98, 97, 53, 52, 102, 102, 53, 51, 97, 53, 102, 49, 100, 51, 54, 102, 49, 53, 49, 48, 101, 53, 50, 55, 102, 97, 100, 101, 54, 56, 50, 100, 49, 57, 98, 48, 53, 54, 56, 56, 99, 50, 98, 51, 101, 54, 99, 49, 102, 49, 102, 56, 51, 100, 57, 97, 98, 102, 98, 52, 49, 98, 100, 54, 98, 53, 98, 101, 48, 99, 100, 49, 57, 49, 51, 55, 101, 50, 49, 55, 57, 99, 98, 98, 98, 57, 100, 53, 100, 99, 49, 48, 53, 57, 101, 100, 56, 54, 50, 57, 97, 50, 57, 50, 97, 51, 54, 55, 99, 100, 53, 48, 55, 57, 49, 53, 57, 48, 49, 53, 97, 51, 48, 55, 48, 100, 100, 49, 55, 49, 53, 50, 102, 101, 99, 100, 56, 102, 55, 48, 101, 53, 57, 51, 57, 54, 55, 51, 51, 50, 54, 54, 55, 102, 102, 99, 48, 48, 98, 51, 49, 56, 101, 98, 52, 52, 97, 56, 55, 54, 56, 53, 56, 49, 53, 49, 49, 100, 98, 48, 99, 50, 101, 48, 100, 54, 52, 102, 57, 56, 102, 97, 55, 52, 55, 98, 53, 52, 56, 49, 100, 98, 101, 102, 97, 52, 102, 97, 52] }
def hexOkB (c : Nat) : Bool := (decide (48 ≤ c) && decide (c ≤ 57)) || (decide (97 ≤ c) && decide (c ≤ 102))
theorem hexOk_of {c : Nat} (h : hexOkB c = true) : hexOk c := by unfold hexOkB at h; unfold hexOk; simpa using h
theorem sq_size : sqS.size = 256 := by decide +kernel
theorem sq_ok : ∀ i, i < 256 → hexOkB ((strL sqS).getD i 0) = true := by decide +kernel
theorem sq_val : ∀ i, i < 16 → hexN (((strL sqS).drop (16 * i)).take 16) = rootsN.getD i 0 := by decide +kernel
theorem ref_sq (i : Nat) (hi : i < 16) (w : World) : Calls Tryd.prog 51 #[.string { data := #[54, 97, 48, 57, 101, 54, 54, 55, 102, 51, 98, 99, 99, 57, 48, 56, 98, 98, 54, 55, 97, 101, 56, 53, 56, 52, 99, 97, 97, 55, 51, 98, 51, 99, 54, 101, 102, 51, 55, 50, 102, 101, 57, 52, 102, 56, 50, 98, 97, 53, 52, 102, 102, 53, 51, 97, 53, 102, 49, 100, 51, 54, 102, 49, 53, 49, 48, 101, 53, 50, 55, 102, 97, 100, 101, 54, 56, 50, 100, 49, 57, 98, 48, 53, 54, 56, 56, 99, 50, 98, 51, 101, 54, 99, 49, 102, 49, 102, 56, 51, 100, 57, 97, 98, 102, 98, 52, 49, 98, 100, 54, 98, 53, 98, 101, 48, 99, 100, 49, 57, 49, 51, 55, 101, 50, 49, 55, 57, 99, 98, 98, 98, 57, 100, 53, 100, 99, 49, 48, 53, 57, 101, 100, 56, 54, 50, 57, 97, 50, 57, 50, 97, 51, 54, 55, 99, 100, 53, 48, 55, 57, 49, 53, 57, 48, 49, 53, 97, 51, 48, 55, 48, 100, 100, 49, 55, 49, 53, 50, 102, 101, 99, 100, 56, 102, 55, 48, 101, 53, 57, 51, 57, 54, 55, 51, 51, 50, 54, 54, 55, 102, 102, 99, 48, 48, 98, 51, 49, 56, 101, 98, 52, 52, 97, 56, 55, 54, 56, 53, 56, 49, 53, 49, 49, 100, 98, 48, 99, 50, 101, 48, 100, 54, 52, 102, 57, 56, 102, 97, 55, 52, 55, 98, 53, 52, 56, 49, 100, 98, 101, 102, 97, 52, 102, 97, 52] }, .int .i64 (i : Nat)] w fun e w' => e = .returned (.int .u64 (rootsN.getD i 0 : Nat)) ∧ w = w' := by
  have h := ref_number sqS i (by rw [sq_size]; omega) (by rw [sq_size]; decide) (fun j hj => hexOk_of (sq_ok (16 * i + j) (by omega))) w
  rw [sq_val i hi] at h
  exact h
set_option maxHeartbeats 3200000 in
theorem first36_3 (w : World) : Calls Tryd.prog 36 #[.int .i64 3] w (WordsIs (firstN 3) w) := by
  have HR := Lib.hid ref_sq
  go_enter Tryd.func36, Tryd.ntmps36
  go_wp2_with fail
  go_loopw [4] (fun i wr => ∃ t : Nat, t ≤ 8 ∧ i = .int .i64 t ∧ Blk wr w.heap.size 66 (natsV .u64 (zeros 8)) ∧ Blk wr (w.heap.size + 1) 66 (natsV .u64 (tell (firstAt 3) t ++ zeros (8 - t))) ∧ Below w.heap.size w wr) (fun i _ => 8 - (intOf i).toNat)
  case atStart => exact ⟨0, by omega, rfl, (Blk.new w 66 (natsV .u64 (zeros 8))).alloc _, Blk.new2 w _ 66 (natsV .u64 (zeros 8)), ((Below.refl _ _).alloc (Nat.le_refl _) _).alloc (by simp) _⟩
  case round =>
    obtain ⟨t, ht, rfl, k1, k2, hbel⟩ := hrel
    have K1 := Lib.hid k1
    have K2 := Lib.hid k2
    clear k1 k2
    by_cases h8 : t < 8
    · have HC := Lib.hid (HR.out (t) (by omega) wr)
      have hf := K2.out.free t
      have hcell := K2.out.nat t (by simp [tell_length, zeros]; omega)
      have HFILL := Lib.hid (fill_tell (firstAt 3) 8 t h8)
      have hv : firstAt 3 t = rootsN.getD t 0 := rfl
      have hrl := roots_lt (t)
      rw [← hv] at HC hrl
      clear hv
      have hti : (t : Int) < 8 := by omega
      clear HR
      generalize firstAt 3 t = x at *
      skip
      go_wp2_with fail
      refine HC.out.mono ?_
      rintro e w' ⟨rfl, rfl⟩
      skip
      go_wp2_with fail
      have k2' := K2.out.natSet t x
      rw [HFILL.out] at k2'
      have hb2 := hbel.setCell (p := ⟨w.heap.size + 1, t, none⟩) (by simp) (.int .u64 (x : Nat))
      have k1' := K1.out.other ⟨w.heap.size + 1, t, none⟩ (.int .u64 (x : Nat)) (by simp)
      go_roundw
      case rel => exact ⟨t + 1, by omega, by go_num, k1', k2', hb2⟩
      case measure => simp [intOf]; omega
    · obtain rfl : t = 8 := by omega
      rw [show ((8 : Nat) : Int) = 8 from rfl]
      have K2' := Lib.hid (show Blk wr (w.heap.size + 1) 66 (natsV .u64 (firstN 3)) from by have := K2.out; simpa [zeros, firstN] using this)
      have hl : (firstN 3).length = 8 := tell_length _ _
      have HL := Lib.hid hl
      clear hl K2 HR
      go_wp2_with (first | (refine wpList_load_row rfl 66 (.tmp 3) rfl (w.heap.size + 1) rfl 66 (natsV .u64 (firstN 3)).toArray (0, 0) _ K2'.out Tryd.underlying66 rfl (by rw [info66, size_nats, HL.out]) ?_) | (refine wpList_store_row rfl 66 (.tmp 2) (.tmp 27) rfl w.heap.size (natsV .u64 (firstN 3)).toArray rfl rfl 66 (natsV .u64 (zeros 8)).toArray K1.out (by rw [info66, size_nats, HL.out]) (by rw [size_nats, size_nats, HL.out]; rfl) (all_nats _ _) ?_))
      have j2 := K1.out.setRow (natsV .u64 (firstN 3))
      have hb2 := below_setRow' hbel (Nat.le_refl _) (natsV .u64 (firstN 3)).toArray
      refine bodyPost_ret (v := .agg (natsV .u64 (firstN 3)).toArray) ?_ rfl ⟨rfl, hb2⟩
      exact results_cell_row Tryd.results36 _ _ w.heap.size 66 _ (0, 0) _ rfl j2 Tryd.underlying66 rfl (by rw [info66, size_nats, HL.out])
set_option maxHeartbeats 3200000 in
theorem first36_2 (w : World) : Calls Tryd.prog 36 #[.int .i64 2] w (WordsIs (firstN 2) w) := by
  have HR := Lib.hid ref_sq
  go_enter Tryd.func36, Tryd.ntmps36
  go_wp2_with fail
  go_loopw [4] (fun i wr => ∃ t : Nat, t ≤ 8 ∧ i = .int .i64 t ∧ Blk wr w.heap.size 66 (natsV .u64 (zeros 8)) ∧ Blk wr (w.heap.size + 1) 66 (natsV .u64 (tell (firstAt 2) t ++ zeros (8 - t))) ∧ Below w.heap.size w wr) (fun i _ => 8 - (intOf i).toNat)
  case atStart => exact ⟨0, by omega, rfl, (Blk.new w 66 (natsV .u64 (zeros 8))).alloc _, Blk.new2 w _ 66 (natsV .u64 (zeros 8)), ((Below.refl _ _).alloc (Nat.le_refl _) _).alloc (by simp) _⟩
  case round =>
    obtain ⟨t, ht, rfl, k1, k2, hbel⟩ := hrel
    have K1 := Lib.hid k1
    have K2 := Lib.hid k2
    clear k1 k2
    by_cases h8 : t < 8
    · have HC := Lib.hid (HR.out (8 + t) (by omega) wr)
      have hf := K2.out.free t
      have hcell := K2.out.nat t (by simp [tell_length, zeros]; omega)
      have HFILL := Lib.hid (fill_tell (firstAt 2) 8 t h8)
      have hv : firstAt 2 t = rootsN.getD (8 + t) 0 := rfl
      have hrl := roots_lt (8 + t)
      rw [← hv] at HC hrl
      have e8 : (t : Int) + 8 = ((8 + t : Nat) : Int) := by omega
      clear hv
      have hti : (t : Int) < 8 := by omega
      clear HR
      generalize firstAt 2 t = x at *
      skip
      go_wp2_with fail
      refine HC.out.mono ?_
      rintro e w' ⟨rfl, rfl⟩
      skip
      go_wp2_with fail
      have k2' := K2.out.natSet t x
      rw [HFILL.out] at k2'
      have hb2 := hbel.setCell (p := ⟨w.heap.size + 1, t, none⟩) (by simp) (.int .u64 (x : Nat))
      have k1' := K1.out.other ⟨w.heap.size + 1, t, none⟩ (.int .u64 (x : Nat)) (by simp)
      go_roundw
      case rel => exact ⟨t + 1, by omega, by go_num, k1', k2', hb2⟩
      case measure => simp [intOf]; omega
    · obtain rfl : t = 8 := by omega
      rw [show ((8 : Nat) : Int) = 8 from rfl]
      have K2' := Lib.hid (show Blk wr (w.heap.size + 1) 66 (natsV .u64 (firstN 2)) from by have := K2.out; simpa [zeros, firstN] using this)
      have hl : (firstN 2).length = 8 := tell_length _ _
      have HL := Lib.hid hl
      clear hl K2 HR
      go_wp2_with (first | (refine wpList_load_row rfl 66 (.tmp 3) rfl (w.heap.size + 1) rfl 66 (natsV .u64 (firstN 2)).toArray (0, 0) _ K2'.out Tryd.underlying66 rfl (by rw [info66, size_nats, HL.out]) ?_) | (refine wpList_store_row rfl 66 (.tmp 2) (.tmp 27) rfl w.heap.size (natsV .u64 (firstN 2)).toArray rfl rfl 66 (natsV .u64 (zeros 8)).toArray K1.out (by rw [info66, size_nats, HL.out]) (by rw [size_nats, size_nats, HL.out]; rfl) (all_nats _ _) ?_))
      have j2 := K1.out.setRow (natsV .u64 (firstN 2))
      have hb2 := below_setRow' hbel (Nat.le_refl _) (natsV .u64 (firstN 2)).toArray
      refine bodyPost_ret (v := .agg (natsV .u64 (firstN 2)).toArray) ?_ rfl ⟨rfl, hb2⟩
      exact results_cell_row Tryd.results36 _ _ w.heap.size 66 _ (0, 0) _ rfl j2 Tryd.underlying66 rfl (by rw [info66, size_nats, HL.out])
set_option maxHeartbeats 3200000 in
theorem first36_1 (w : World) : Calls Tryd.prog 36 #[.int .i64 1] w (WordsIs (firstN 1) w) := by
  have HR := Lib.hid ref_sq
  go_enter Tryd.func36, Tryd.ntmps36
  go_wp2_with fail
  go_loopw [4] (fun i wr => ∃ t : Nat, t ≤ 8 ∧ i = .int .i64 t ∧ Blk wr w.heap.size 66 (natsV .u64 (zeros 8)) ∧ Blk wr (w.heap.size + 1) 66 (natsV .u64 (tell (firstAt 1) t ++ zeros (8 - t))) ∧ Below w.heap.size w wr) (fun i _ => 8 - (intOf i).toNat)
  case atStart => exact ⟨0, by omega, rfl, (Blk.new w 66 (natsV .u64 (zeros 8))).alloc _, Blk.new2 w _ 66 (natsV .u64 (zeros 8)), ((Below.refl _ _).alloc (Nat.le_refl _) _).alloc (by simp) _⟩
  case round =>
    obtain ⟨t, ht, rfl, k1, k2, hbel⟩ := hrel
    have K1 := Lib.hid k1
    have K2 := Lib.hid k2
    clear k1 k2
    by_cases h8 : t < 8
    · have HC := Lib.hid (HR.out (t) (by omega) wr)
      have hf := K2.out.free t
      have hcell := K2.out.nat t (by simp [tell_length, zeros]; omega)
      have HFILL := Lib.hid (fill_tell (firstAt 1) 8 t h8)
      have hv : firstAt 1 t = rootsN.getD t 0 / 4294967296 := rfl
      have hrl := roots_lt (t)
      have hq : ((rootsN.getD t 0 : Nat) : Int) / 4294967296 = ((firstAt 1 t : Nat) : Int) := by rw [hv]; omega
      have HV := Lib.hid hv
      clear hv
      have hti : (t : Int) < 8 := by omega
      clear HR
      generalize rootsN.getD (t) 0 = r at *
      generalize firstAt 1 t = x at *
      go_wp2_with fail
      refine HC.out.mono ?_
      rintro e w' ⟨rfl, rfl⟩
      have hc2 := (K2.out.natSet t r).nat t (by simp [tell_length, zeros]; omega)
      have hgd : ((tell (firstAt 1) t ++ zeros (8 - t)).set t r).getD t 0 = r := by rw [List.getD_eq_getElem?_getD, List.getElem?_set_self (by simp [tell_length, zeros]; omega)]; rfl
      rw [hgd] at hc2
      have hf2 := (K2.out.natSet t r).free t
      clear hgd
      go_wp2_with fail
      have k2' := (K2.out.natSet t r).natSet t x
      rw [List.set_set, HFILL.out] at k2'
      have hb2 := (hbel.setCell (p := ⟨w.heap.size + 1, t, none⟩) (by simp) (.int .u64 (r : Nat))).setCell (p := ⟨w.heap.size + 1, t, none⟩) (by simp) (.int .u64 (x : Nat))
      have k1' := (K1.out.other ⟨w.heap.size + 1, t, none⟩ (.int .u64 (r : Nat)) (by simp)).other ⟨w.heap.size + 1, t, none⟩ (.int .u64 (x : Nat)) (by simp)
      go_roundw
      case rel => exact ⟨t + 1, by omega, by go_num, k1', k2', hb2⟩
      case measure => simp [intOf]; omega
    · obtain rfl : t = 8 := by omega
      rw [show ((8 : Nat) : Int) = 8 from rfl]
      have K2' := Lib.hid (show Blk wr (w.heap.size + 1) 66 (natsV .u64 (firstN 1)) from by have := K2.out; simpa [zeros, firstN] using this)
      have hl : (firstN 1).length = 8 := tell_length _ _
      have HL := Lib.hid hl
      clear hl K2 HR
      go_wp2_with (first | (refine wpList_load_row rfl 66 (.tmp 3) rfl (w.heap.size + 1) rfl 66 (natsV .u64 (firstN 1)).toArray (0, 0) _ K2'.out Tryd.underlying66 rfl (by rw [info66, size_nats, HL.out]) ?_) | (refine wpList_store_row rfl 66 (.tmp 2) (.tmp 27) rfl w.heap.size (natsV .u64 (firstN 1)).toArray rfl rfl 66 (natsV .u64 (zeros 8)).toArray K1.out (by rw [info66, size_nats, HL.out]) (by rw [size_nats, size_nats, HL.out]; rfl) (all_nats _ _) ?_))
      have j2 := K1.out.setRow (natsV .u64 (firstN 1))
      have hb2 := below_setRow' hbel (Nat.le_refl _) (natsV .u64 (firstN 1)).toArray
      refine bodyPost_ret (v := .agg (natsV .u64 (firstN 1)).toArray) ?_ rfl ⟨rfl, hb2⟩
      exact results_cell_row Tryd.results36 _ _ w.heap.size 66 _ (0, 0) _ rfl j2 Tryd.underlying66 rfl (by rw [info66, size_nats, HL.out])
theorem first36_any (k : Nat) (hk : IsKind k) (w : World) : Calls Tryd.prog 36 #[.int .i64 (k : Nat)] w (WordsIs (firstN k) w) := by
  rcases hk with rfl | rfl | rfl
  · exact first36_1 w
  · exact first36_2 w
  · exact first36_3 w
end Go.Proofs.YtnikhnpigopihaaDoor
