/- The first state of each kind: the project's function answers the plain one. Condition: the table. -/
import Derived.Test.YtnikhnpigopihaaDoorShared
import Derived.Test.YtnikhnpigopihaaDoorSmall
namespace Go.Proofs.YtnikhnpigopihaaDoor
open Go.RowKit
set_option linter.unusedVariables false

set_option maxHeartbeats 1600000 in
theorem firstWords_1 (w : World) (htab : Tabs w) : Calls Tryd.prog 50 #[.int .u8 1] w (WordsIs (firstN 1) w) := by
  have HTAB := Lib.hid htab
  clear htab
  go_enter Tryd.func50, Tryd.ntmps50
  go_wp2_with fail
  go_loopw [5] (fun i wr => ∃ t : Nat, t ≤ 8 ∧ i = .int .i64 t ∧ Blk wr w.heap.size 66 (natsV .u64 (zeros 8)) ∧ Blk wr (w.heap.size + 1) 66 (natsV .u64 (tell (firstAt 1) t ++ zeros (8 - t))) ∧ Below w.heap.size w wr) (fun i _ => 8 - (intOf i).toNat)
  case atStart => exact ⟨0, by omega, rfl, (Blk.new w 66 (natsV .u64 (zeros 8))).alloc _, Blk.new2 w _ 66 (natsV .u64 (zeros 8)), ((Below.refl _ _).alloc (Nat.le_refl _) _).alloc (by simp) _⟩
  case round =>
    obtain ⟨t, ht, rfl, k1, k2, hbel⟩ := hrel
    have K1 := Lib.hid k1
    have K2 := Lib.hid k2
    clear k1 k2
    by_cases h8 : t < 8
    · have HT := Lib.hid (HTAB.out.of hbel HTAB.out.size)
      have hc := HT.out.1 (t) (by omega)
      have hf := K2.out.free t
      have hcell := K2.out.nat t (by simp [tell_length, zeros]; omega)
      have HFILL := Lib.hid (fill_tell (firstAt 1) 8 t h8)
      have hv : firstAt 1 t = rootsN.getD t 0 / 4294967296 := rfl
      have hb := roots_lt (t)
      have hq : ((rootsN.getD t 0 : Nat) : Int) / 4294967296 = ((firstAt 1 t : Nat) : Int) := by rw [hv]; omega
      have HV := Lib.hid hv
      clear hv
      generalize rootsN.getD (t) 0 = r at *
      generalize firstAt 1 t = x at *
      have hti : (t : Int) < 8 := by omega
      have hti2 : (t : Int) < 16 := by omega
      go_wp2_with fail
      have k2' := K2.out.natSet t x
      rw [HFILL.out] at k2'
      have hb2 := hbel.setCell (p := ⟨w.heap.size + 1, t, none⟩) (by simp) (.int .u64 (x : Nat))
      have k1' := K1.out.other ⟨w.heap.size + 1, t, none⟩ (.int .u64 (x : Nat)) (by simp)
      go_roundw
      case rel => exact ⟨t + 1, by omega, by go_num, k1', k2', hb2⟩
      case measure => simp [intOf]; omega
    · obtain rfl : t = 8 := by omega
      rw [show ((8 : Nat) : Int) = 8 from rfl]
      have K2' := Lib.hid (show Blk wr (w.heap.size + 1) 66 (natsV .u64 (firstN 1)) from by have := K2.out; simpa [zeros, firstN] using this)
      have hl : (firstN 1).length = 8 := tell_length _ _
      have HL := Lib.hid hl
      clear hl K2
      go_wp2_with (first | (refine wpList_load_row rfl 66 (.tmp 3) rfl (w.heap.size + 1) rfl 66 (natsV .u64 (firstN 1)).toArray (0, 0) _ K2'.out Tryd.underlying66 rfl (by rw [info66, size_nats, HL.out]) ?_) | (refine wpList_store_row rfl 66 (.tmp 2) (.tmp 31) rfl w.heap.size (natsV .u64 (firstN 1)).toArray rfl rfl 66 (natsV .u64 (zeros 8)).toArray K1.out (by rw [info66, size_nats, HL.out]) (by rw [size_nats, size_nats, HL.out]; rfl) (all_nats _ _) ?_))
      have j2 := K1.out.setRow (natsV .u64 (firstN 1))
      have hb2 := below_setRow' hbel (Nat.le_refl _) (natsV .u64 (firstN 1)).toArray
      refine bodyPost_ret (v := .agg (natsV .u64 (firstN 1)).toArray) ?_ rfl ⟨rfl, hb2⟩
      exact results_cell_row Tryd.results50 _ _ w.heap.size 66 _ (0, 0) _ rfl j2 Tryd.underlying66 rfl (by rw [info66, size_nats, HL.out])

set_option maxHeartbeats 1600000 in
theorem firstWords_2 (w : World) (htab : Tabs w) : Calls Tryd.prog 50 #[.int .u8 2] w (WordsIs (firstN 2) w) := by
  have HTAB := Lib.hid htab
  clear htab
  go_enter Tryd.func50, Tryd.ntmps50
  go_wp2_with fail
  go_loopw [5] (fun i wr => ∃ t : Nat, t ≤ 8 ∧ i = .int .i64 t ∧ Blk wr w.heap.size 66 (natsV .u64 (zeros 8)) ∧ Blk wr (w.heap.size + 1) 66 (natsV .u64 (tell (firstAt 2) t ++ zeros (8 - t))) ∧ Below w.heap.size w wr) (fun i _ => 8 - (intOf i).toNat)
  case atStart => exact ⟨0, by omega, rfl, (Blk.new w 66 (natsV .u64 (zeros 8))).alloc _, Blk.new2 w _ 66 (natsV .u64 (zeros 8)), ((Below.refl _ _).alloc (Nat.le_refl _) _).alloc (by simp) _⟩
  case round =>
    obtain ⟨t, ht, rfl, k1, k2, hbel⟩ := hrel
    have K1 := Lib.hid k1
    have K2 := Lib.hid k2
    clear k1 k2
    by_cases h8 : t < 8
    · have HT := Lib.hid (HTAB.out.of hbel HTAB.out.size)
      have hc := HT.out.1 (8 + t) (by omega)
      have hf := K2.out.free t
      have hcell := K2.out.nat t (by simp [tell_length, zeros]; omega)
      have HFILL := Lib.hid (fill_tell (firstAt 2) 8 t h8)
      have hv : firstAt 2 t = rootsN.getD (8 + t) 0 := rfl
      have hb := roots_lt (8 + t)
      rw [← hv] at hc hb
      have HV := Lib.hid hv
      clear hv
      generalize firstAt 2 t = x at *
      have hti : (t : Int) < 8 := by omega
      have hti2 : 8 + (t : Int) < 16 := by omega
      have e8 : IntKind.i64.wrap (8 + (t : Int)) = 8 + (t : Int) := IntWalk.i64_in _ (by omega)
      go_wp2_with fail
      have k2' := K2.out.natSet t x
      rw [HFILL.out] at k2'
      have hb2 := hbel.setCell (p := ⟨w.heap.size + 1, t, none⟩) (by simp) (.int .u64 (x : Nat))
      have k1' := K1.out.other ⟨w.heap.size + 1, t, none⟩ (.int .u64 (x : Nat)) (by simp)
      go_roundw
      case rel => exact ⟨t + 1, by omega, by go_num, k1', k2', hb2⟩
      case measure => simp [intOf]; omega
    · obtain rfl : t = 8 := by omega
      rw [show ((8 : Nat) : Int) = 8 from rfl]
      have K2' := Lib.hid (show Blk wr (w.heap.size + 1) 66 (natsV .u64 (firstN 2)) from by have := K2.out; simpa [zeros, firstN] using this)
      have hl : (firstN 2).length = 8 := tell_length _ _
      have HL := Lib.hid hl
      clear hl K2
      go_wp2_with (first | (refine wpList_load_row rfl 66 (.tmp 3) rfl (w.heap.size + 1) rfl 66 (natsV .u64 (firstN 2)).toArray (0, 0) _ K2'.out Tryd.underlying66 rfl (by rw [info66, size_nats, HL.out]) ?_) | (refine wpList_store_row rfl 66 (.tmp 2) (.tmp 31) rfl w.heap.size (natsV .u64 (firstN 2)).toArray rfl rfl 66 (natsV .u64 (zeros 8)).toArray K1.out (by rw [info66, size_nats, HL.out]) (by rw [size_nats, size_nats, HL.out]; rfl) (all_nats _ _) ?_))
      have j2 := K1.out.setRow (natsV .u64 (firstN 2))
      have hb2 := below_setRow' hbel (Nat.le_refl _) (natsV .u64 (firstN 2)).toArray
      refine bodyPost_ret (v := .agg (natsV .u64 (firstN 2)).toArray) ?_ rfl ⟨rfl, hb2⟩
      exact results_cell_row Tryd.results50 _ _ w.heap.size 66 _ (0, 0) _ rfl j2 Tryd.underlying66 rfl (by rw [info66, size_nats, HL.out])

set_option maxHeartbeats 1600000 in
theorem firstWords_3 (w : World) (htab : Tabs w) : Calls Tryd.prog 50 #[.int .u8 3] w (WordsIs (firstN 3) w) := by
  have HTAB := Lib.hid htab
  clear htab
  go_enter Tryd.func50, Tryd.ntmps50
  go_wp2_with fail
  go_loopw [5] (fun i wr => ∃ t : Nat, t ≤ 8 ∧ i = .int .i64 t ∧ Blk wr w.heap.size 66 (natsV .u64 (zeros 8)) ∧ Blk wr (w.heap.size + 1) 66 (natsV .u64 (tell (firstAt 3) t ++ zeros (8 - t))) ∧ Below w.heap.size w wr) (fun i _ => 8 - (intOf i).toNat)
  case atStart => exact ⟨0, by omega, rfl, (Blk.new w 66 (natsV .u64 (zeros 8))).alloc _, Blk.new2 w _ 66 (natsV .u64 (zeros 8)), ((Below.refl _ _).alloc (Nat.le_refl _) _).alloc (by simp) _⟩
  case round =>
    obtain ⟨t, ht, rfl, k1, k2, hbel⟩ := hrel
    have K1 := Lib.hid k1
    have K2 := Lib.hid k2
    clear k1 k2
    by_cases h8 : t < 8
    · have HT := Lib.hid (HTAB.out.of hbel HTAB.out.size)
      have hc := HT.out.1 (t) (by omega)
      have hf := K2.out.free t
      have hcell := K2.out.nat t (by simp [tell_length, zeros]; omega)
      have HFILL := Lib.hid (fill_tell (firstAt 3) 8 t h8)
      have hv : firstAt 3 t = rootsN.getD t 0 := rfl
      have hb := roots_lt (t)
      rw [← hv] at hc hb
      have HV := Lib.hid hv
      clear hv
      generalize firstAt 3 t = x at *
      have hti : (t : Int) < 8 := by omega
      have hti2 : (t : Int) < 16 := by omega
      go_wp2_with fail
      have k2' := K2.out.natSet t x
      rw [HFILL.out] at k2'
      have hb2 := hbel.setCell (p := ⟨w.heap.size + 1, t, none⟩) (by simp) (.int .u64 (x : Nat))
      have k1' := K1.out.other ⟨w.heap.size + 1, t, none⟩ (.int .u64 (x : Nat)) (by simp)
      go_roundw
      case rel => exact ⟨t + 1, by omega, by go_num, k1', k2', hb2⟩
      case measure => simp [intOf]; omega
    · obtain rfl : t = 8 := by omega
      rw [show ((8 : Nat) : Int) = 8 from rfl]
      have K2' := Lib.hid (show Blk wr (w.heap.size + 1) 66 (natsV .u64 (firstN 3)) from by have := K2.out; simpa [zeros, firstN] using this)
      have hl : (firstN 3).length = 8 := tell_length _ _
      have HL := Lib.hid hl
      clear hl K2
      go_wp2_with (first | (refine wpList_load_row rfl 66 (.tmp 3) rfl (w.heap.size + 1) rfl 66 (natsV .u64 (firstN 3)).toArray (0, 0) _ K2'.out Tryd.underlying66 rfl (by rw [info66, size_nats, HL.out]) ?_) | (refine wpList_store_row rfl 66 (.tmp 2) (.tmp 31) rfl w.heap.size (natsV .u64 (firstN 3)).toArray rfl rfl 66 (natsV .u64 (zeros 8)).toArray K1.out (by rw [info66, size_nats, HL.out]) (by rw [size_nats, size_nats, HL.out]; rfl) (all_nats _ _) ?_))
      have j2 := K1.out.setRow (natsV .u64 (firstN 3))
      have hb2 := below_setRow' hbel (Nat.le_refl _) (natsV .u64 (firstN 3)).toArray
      refine bodyPost_ret (v := .agg (natsV .u64 (firstN 3)).toArray) ?_ rfl ⟨rfl, hb2⟩
      exact results_cell_row Tryd.results50 _ _ w.heap.size 66 _ (0, 0) _ rfl j2 Tryd.underlying66 rfl (by rw [info66, size_nats, HL.out])

theorem firstWords_any (k : Nat) (hk : IsKind k) (w : World) (htab : Tabs w) : Calls Tryd.prog 50 #[.int .u8 (k : Nat)] w (WordsIs (firstN k) w) := by
  rcases hk with rfl | rfl | rfl
  · exact firstWords_1 w htab
  · exact firstWords_2 w htab
  · exact firstWords_3 w htab
end Go.Proofs.YtnikhnpigopihaaDoor
