/- The way back of the transform. No condition. -/
import Derived.Test.YtbhhpopckchibaaVo
namespace Go.Proofs.Ytbhhpopckchibaa
open Go.RowKit
set_option linter.unusedVariables false
set_option linter.unusedSimpArgs false
/-- the first t coefficients divided -/
def scI (f : Nat → FQ) (t : Nat) : List Int := tellI (fun j => if j < t then ((f j * ovr).val : Int) else ((f j).val : Int)) 256
theorem scI_len (f : Nat → FQ) (t : Nat) : (scI f t).length = 256 := tellI_length _ _
theorem scI_zero (f : Nat → FQ) : scI f 0 = PL f := tellI_congr fun i _ => if_neg (by omega)
theorem scI_all (f : Nat → FQ) : scI f 256 = PL (fun i => f i * ovr) := tellI_congr fun i hi => if_pos hi
theorem scI_succ (f : Nat → FQ) (t : Nat) (h : t < 256) : (scI f t).set t ((f t * ovr).val : Int) = scI f (t + 1) := tellI_fill (fun j => ((f j * ovr).val : Int)) _ 256 t
set_option maxRecDepth 100000 in
set_option maxHeartbeats 4000000 in
theorem behind_any (p : Nat → FQ) (w : World) : Calls Try.prog 37 #[.agg (iv (PL p)).toArray] w fun e w' => e = .returned (.agg (iv (PL (bck p))).toArray) ∧ Below w.heap.size w w' := by
  have LP := Lib.hid (PL_length p)
  have B1 := Lib.hid ((Blk.new w 23 (iv (PL p))).alloc (.cells (iv zerI).toArray 23))
  have B2 := Lib.hid (Blk.new2 w (.cells (iv (PL p)).toArray 23) 23 (iv zerI))
  have BEL := Lib.hid (((Below.refl w.heap.size w).alloc (Nat.le_refl _) (.cells (iv (PL p)).toArray 23)).alloc (by simp) (.cells (iv zerI).toArray 23))
  have z23 := zero23
  have z22 := zero22
  go_enter Try.func37, Try.ntmps37
  go_wp2_with fail
  refine (powers_zi _).mono ?_
  rintro e w1 ⟨rfl, hb1⟩
  have C1 := Lib.hid (B1.out.below' hb1)
  have C2 := Lib.hid (B2.out.below' hb1)
  have hbel := BEL.out.trans (hb1.mono BEL.out.size)
  have hz : w.heap.size + 1 < w1.heap.size := C2.out.lt
  clear B1 B2 BEL hb1
  have C3 := Lib.hid (Blk.new w1 22 (iv zerI))
  have hg3 := Lib.hid hz
  go_wp2_with (refine wpList_store_row rfl 22 (.tmp 3) (.tmp 7) rfl w1.heap.size (iv (PL rtB)).toArray rfl rfl 22 (iv zerI).toArray C3.out (j22 (PL_length _)) (by rw [iv_size, iv_size, PL_length, zerI_length]) (iv_all _) ?_)
  clear z22 z23
  have D3 := C3.out.setRow (iv (PL rtB))
  have D1 := (C1.out.alloc (.cells (iv zerI).toArray 22)).row (iv (PL rtB)).toArray (show w.heap.size ≠ w1.heap.size by omega)
  have D2 := (C2.out.alloc (.cells (iv zerI).toArray 22)).row (iv (PL rtB)).toArray (show w.heap.size + 1 ≠ w1.heap.size by omega)
  have hbel2 := below_setRow' (hbel.alloc hbel.size (.cells (iv zerI).toArray 22)) hbel.size (iv (PL rtB)).toArray
  obtain ⟨w2, hw2⟩ : ∃ w2, (w1.alloc (.cells (iv zerI).toArray 22)).setRow w1.heap.size (iv (PL rtB)).toArray = w2 := ⟨_, rfl⟩
  rw [hw2] at D1 D2 D3 hbel2 ⊢
  clear hw2 C1 C2 C3 hbel
  obtain ⟨g, hg⟩ : ∃ g, w1.heap.size = g := ⟨_, rfl⟩
  rw [hg] at D3 hz hg3 ⊢
  clear hg
  have E1 := Lib.hid D1
  have E2 := Lib.hid D2
  have E3 := Lib.hid D3
  have EB := Lib.hid hbel2
  clear D1 D2 D3 hbel2
  go_loopw [4] (fun c wr => ∃ k : Nat, k ≤ 8 ∧ c = .int .i64 (2 ^ k : Nat) ∧ Blk wr w.heap.size 23 (iv (PL (bckK p k))) ∧ Blk wr (w.heap.size + 1) 23 (iv zerI) ∧ Blk wr g 22 (iv (PL rtB)) ∧ Below w.heap.size w wr) (fun c _ => (256 - intOf c).toNat)
  case atStart => exact ⟨0, by omega, rfl, E1.out, E2.out, E3.out, EB.out⟩
  case round =>
    clear E1 E2 E3 EB
    obtain ⟨k, hk, rfl, k1, k2, k3, hbel⟩ := hrel
    have K1 := Lib.hid k1
    have K2 := Lib.hid k2
    have K3 := Lib.hid k3
    clear k1 k2 k3
    by_cases h5 : k < 8
    · have HP := Lib.hid (pair_bwd p k h5)
      have LQ := Lib.hid (PL_length (bckK p k))
      have LR := Lib.hid (PL_length rtB)
      have LN := Lib.hid (PL_length (bckK p (k + 1)))
      obtain ⟨hp1, hp2⟩ := pw_le k h5
      have HH := Lib.hid (Nat.pow_succ 2 k)
      generalize 2 ^ k = n at *
      obtain ⟨new, hnew⟩ : ∃ new, PL (bckK p (k + 1)) = new := ⟨_, rfl⟩
      rw [hnew] at LN HP
      have HNEW := Lib.hid hnew
      clear hnew
      generalize PL (bckK p k) = old at *
      generalize PL rtB = rt at *
      go_wp2_with (first | (refine wpList_load_row rfl 23 (.tmp 1) rfl w.heap.size rfl 23 (iv old).toArray (0, 0) _ K1.out Try.underlying23 rfl (j23 LQ.out) ?_) | (refine wpList_load_row rfl 22 (.tmp 3) rfl g rfl 22 (iv rt).toArray (0, 0) _ K3.out Try.underlying22 rfl (j22 LR.out) ?_))
      refine (HP.out _).mono ?_
      rintro e w3 ⟨rfl, hb3⟩
      have J1 := Lib.hid (K1.out.below' hb3)
      have J2 := Lib.hid (K2.out.below' hb3)
      have J3 := Lib.hid (K3.out.below' hb3)
      have hbel3 := hbel.trans (hb3.mono hbel.size)
      clear K1 K2 K3 hbel hb3 HP
      go_wp2_with (refine wpList_store_row rfl 23 (.tmp 1) (.tmp 15) rfl w.heap.size (iv new).toArray rfl rfl 23 (iv old).toArray J1.out (j23 LN.out) (by rw [iv_size, iv_size, LN.out, LQ.out]) (iv_all _) ?_)
      have M1 := J1.out.setRow (iv new)
      have M2 := J2.out.row (iv new).toArray (show w.heap.size + 1 ≠ w.heap.size by omega)
      have M3 := J3.out.row (iv new).toArray (show g ≠ w.heap.size by omega)
      have hbel4 := below_setRow' hbel3 (Nat.le_refl _) (iv new).toArray
      obtain ⟨w4, hw4⟩ : ∃ w4, w3.setRow w.heap.size (iv new).toArray = w4 := ⟨_, rfl⟩
      rw [hw4] at M1 M2 M3 hbel4 ⊢
      clear hw4 J1 J2 J3 hbel3
      go_wp2_with fail
      go_roundw
      case rel => exact ⟨k + 1, by omega, by rw [HH.out]; go_num, by rw [HNEW.out]; exact M1, M2, M3, hbel4⟩
      case measure => simp [intOf]; omega
    · obtain rfl : k = 8 := by omega
      have HL := Lib.hid (PL_length (bckK p 8))
      have e0 := scI_zero (bckK p 8)
      have HG := Lib.hid (fun (t : Nat) (ht : t < 256) => PL_get (bckK p 8) t ht)
      have HBE : Hid (∀ i, bck p i = bckK p 8 i * ovr) := Lib.hid (fun i => rfl)
      generalize bckK p 8 = f at *
      rw [show 2 ^ 8 = 256 from rfl]
      obtain ⟨m, hm⟩ : ∃ m, PL f = m := ⟨_, rfl⟩
      rw [hm] at K1 HL HG e0
      clear hm
      go_wp2_with (first | (refine wpList_load_row rfl 23 (.tmp 1) rfl w.heap.size rfl 23 (iv m).toArray (0, 0) _ K1.out Try.underlying23 rfl (j23 HL.out) ?_))
      go_loopw [17] (fun c wr => ∃ t : Nat, t ≤ 256 ∧ c = .int .i64 t ∧ Blk wr w.heap.size 23 (iv (scI f t)) ∧ Blk wr (w.heap.size + 1) 23 (iv zerI) ∧ Below w.heap.size w wr) (fun c _ => 256 - (intOf c).toNat)
      case atStart => exact ⟨0, by omega, rfl, by rw [e0]; exact K1.out, K2.out, hbel⟩
      case round =>
        clear K1 K2 K3 hbel e0
        obtain ⟨t, ht, rfl, k1, k2, hbel⟩ := hrel
        have K1 := Lib.hid k1
        have K2 := Lib.hid k2
        clear k1 k2
        by_cases h5 : t < 256
        · have hx := fun w => index23 w m t h5 HL.out
          rw [HG.out t h5] at hx
          have HT := Lib.hid (times_any (f t) ovr)
          rw [qv_ovr] at HT
          have hc := K1.out.iv t (by rw [scI_len]; exact h5)
          have hf := K1.out.free t
          have HV := Lib.hid (scI_succ f t h5)
          have i1 : (t : Int) < 256 := by omega
          generalize f t * ovr = y at *
          generalize f t = x at *
          go_wp2_with (first | (go_at_call 38; refine (HT.out _).mono ?_; rintro e w' ⟨rfl, rfl⟩))
          have k1 := K1.out.ivSet t (y.val : Int)
          rw [HV.out] at k1
          have k2 := K2.out.other ⟨w.heap.size, t, none⟩ (.int .i32 (y.val : Int)) (by simp)
          have hb2 := hbel.setCell (p := ⟨w.heap.size, t, none⟩) (by simp) (.int .i32 (y.val : Int))
          go_roundw
          case rel => exact ⟨t + 1, by omega, by go_num, k1, k2, hb2⟩
          case measure => simp [intOf]; omega
        · obtain rfl : t = 256 := by omega
          rw [scI_all] at K1
          have e2 : (fun i => f i * ovr) = bck p := funext fun i => (HBE.out i).symm
          rw [e2] at K1
          have HL2 := Lib.hid (PL_length (bck p))
          obtain ⟨m2, hm2⟩ : ∃ m, PL (bck p) = m := ⟨_, rfl⟩
          rw [hm2] at K1 HL2
          have HMQ := Lib.hid hm2
          clear hm2 e2
          go_wp2_with (first | (refine wpList_load_row rfl 23 (.tmp 1) rfl w.heap.size rfl 23 (iv m2).toArray (0, 0) _ K1.out Try.underlying23 rfl (j23 HL2.out) ?_) | (refine wpList_store_row rfl 23 (.tmp 2) (.tmp 26) rfl (w.heap.size + 1) (iv m2).toArray rfl rfl 23 (iv zerI).toArray K2.out (j23 HL2.out) (by rw [iv_size, iv_size, HL2.out, zerI_length]) (iv_all _) ?_))
          have j2 := K2.out.setRow (iv m2)
          have hb2 := below_setRow' hbel (show w.heap.size ≤ w.heap.size + 1 by omega) (iv m2).toArray
          refine bodyPost_ret (v := .agg (iv m2).toArray) ?_ rfl ⟨by rw [HMQ.out], hb2⟩
          exact results_cell_row Try.results37 _ _ (w.heap.size + 1) 23 _ (0, 0) _ rfl j2 Try.underlying23 rfl (j23 HL2.out)
end Go.Proofs.Ytbhhpopckchibaa
