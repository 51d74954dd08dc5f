/- The transform and its way back. No condition. -/
import Derived.Test.YtbhhpopckchibaaPp
namespace Go.Proofs.Ytbhhpopckchibaa
open Go.RowKit
set_option linter.unusedVariables false
set_option linter.unusedSimpArgs false
theorem qv_zt : qv zt = .int .i32 1753 := by
  show Value.int .i32 ((1753 % mQ : Nat) : Int) = _
  rfl
theorem qv_zi : qv zi = .int .i32 731434 := by
  show Value.int .i32 ((731434 % mQ : Nat) : Int) = _
  rfl
theorem qv_ovr : qv ovr = .int .i32 8347681 := by
  show Value.int .i32 ((8347681 % mQ : Nat) : Int) = _
  rfl
theorem powers_zt (w : World) : Calls Try.prog 45 #[.int .i32 1753] w fun e w' => e = .returned (.agg (iv (PL rtF)).toArray) ∧ Below w.heap.size w w' := by
  have h := powers_any zt w
  rw [qv_zt] at h; exact h
theorem powers_zi (w : World) : Calls Try.prog 45 #[.int .i32 731434] w fun e w' => e = .returned (.agg (iv (PL rtB)).toArray) ∧ Below w.heap.size w w' := by
  have h := powers_any zi w
  rw [qv_zi] at h; exact h
theorem pow_n : ∀ k : Nat, k < 8 → 2 ^ (7 - k) = 128 / 2 ^ k := by decide +kernel
theorem half_n : ∀ k : Nat, k < 8 → 128 / 2 ^ k / 2 = 128 / 2 ^ (k + 1) := by decide +kernel
theorem pos_n : ∀ k : Nat, k < 8 → 0 < 128 / 2 ^ k ∧ 128 / 2 ^ k ≤ 128 := by decide +kernel
theorem pair_fwd (p : Nat → FQ) (k : Nat) (hk : k < 8) (w : World) : Calls Try.prog 46 #[.agg (iv (PL (nttK p k))).toArray, .int .i64 (128 / 2 ^ k : Nat), .agg (iv (PL rtF)).toArray, .func (.func 47) #[] #[]] w fun e w' => e = .returned (.agg (iv (PL (nttK p (k + 1)))).toArray) ∧ Below w.heap.size w w' := by
  have h := pair47_any (nttK p k) rtF (7 - k) (by omega) w
  rw [pow_n k hk] at h
  have e : nttK p (k + 1) = pairs loF hiF rtF (128 / 2 ^ k) (nttK p k) := by rw [← pow_n k hk]; rfl
  rw [e]; exact h
theorem pair_bwd (p : Nat → FQ) (k : Nat) (hk : k < 8) (w : World) : Calls Try.prog 46 #[.agg (iv (PL (bckK p k))).toArray, .int .i64 (2 ^ k : Nat), .agg (iv (PL rtB)).toArray, .func (.func 48) #[] #[]] w fun e w' => e = .returned (.agg (iv (PL (bckK p (k + 1)))).toArray) ∧ Below w.heap.size w w' :=
  pair48_any (bckK p k) rtB k hk w
set_option maxRecDepth 100000 in
set_option maxHeartbeats 4000000 in
theorem valuesOf_any (p : Nat → FQ) (w : World) : Calls Try.prog 36 #[.agg (iv (PL p)).toArray] w fun e w' => e = .returned (.agg (iv (PL (ntt p))).toArray) ∧ Below w.heap.size w w' := by
  have LP := Lib.hid (PL_length p)
  have B1 := Lib.hid ((Blk.new w 23 (iv (PL p))).alloc (.cells (iv zerI).toArray 23))
  have B2 := Lib.hid (Blk.new2 w (.cells (iv (PL p)).toArray 23) 23 (iv zerI))
  have BEL := Lib.hid (((Below.refl w.heap.size w).alloc (Nat.le_refl _) (.cells (iv (PL p)).toArray 23)).alloc (by simp) (.cells (iv zerI).toArray 23))
  have z23 := zero23
  have z22 := zero22
  go_enter Try.func36, Try.ntmps36
  go_wp2_with fail
  refine (powers_zt _).mono ?_
  rintro e w1 ⟨rfl, hb1⟩
  have C1 := Lib.hid (B1.out.below' hb1)
  have C2 := Lib.hid (B2.out.below' hb1)
  have hbel := BEL.out.trans (hb1.mono BEL.out.size)
  have hz : w.heap.size + 1 < w1.heap.size := C2.out.lt
  clear B1 B2 BEL hb1
  have C3 := Lib.hid (Blk.new w1 22 (iv zerI))
  have hg3 := Lib.hid hz
  go_wp2_with (refine wpList_store_row rfl 22 (.tmp 3) (.tmp 5) rfl w1.heap.size (iv (PL rtF)).toArray rfl rfl 22 (iv zerI).toArray C3.out (j22 (PL_length _)) (by rw [iv_size, iv_size, PL_length, zerI_length]) (iv_all _) ?_)
  clear z22 z23
  have D3 := C3.out.setRow (iv (PL rtF))
  have D1 := (C1.out.alloc (.cells (iv zerI).toArray 22)).row (iv (PL rtF)).toArray (show w.heap.size ≠ w1.heap.size by omega)
  have D2 := (C2.out.alloc (.cells (iv zerI).toArray 22)).row (iv (PL rtF)).toArray (show w.heap.size + 1 ≠ w1.heap.size by omega)
  have hbel2 := below_setRow' (hbel.alloc hbel.size (.cells (iv zerI).toArray 22)) hbel.size (iv (PL rtF)).toArray
  obtain ⟨w2, hw2⟩ : ∃ w2, (w1.alloc (.cells (iv zerI).toArray 22)).setRow w1.heap.size (iv (PL rtF)).toArray = w2 := ⟨_, rfl⟩
  rw [hw2] at D1 D2 D3 hbel2 ⊢
  clear hw2 C1 C2 C3 hbel
  obtain ⟨g, hg⟩ : ∃ g, w1.heap.size = g := ⟨_, rfl⟩
  rw [hg] at D3 hz hg3 ⊢
  clear hg
  have E1 := Lib.hid D1
  have E2 := Lib.hid D2
  have E3 := Lib.hid D3
  have EB := Lib.hid hbel2
  clear D1 D2 D3 hbel2
  go_loopw [4] (fun c wr => ∃ k : Nat, k ≤ 8 ∧ c = .int .i64 (128 / 2 ^ k : Nat) ∧ Blk wr w.heap.size 23 (iv (PL (nttK p k))) ∧ Blk wr (w.heap.size + 1) 23 (iv zerI) ∧ Blk wr g 22 (iv (PL rtF)) ∧ Below w.heap.size w wr) (fun c _ => (intOf c).toNat)
  case atStart => exact ⟨0, by omega, rfl, E1.out, E2.out, E3.out, EB.out⟩
  case round =>
    clear E1 E2 E3 EB
    obtain ⟨k, hk, rfl, k1, k2, k3, hbel⟩ := hrel
    have K1 := Lib.hid k1
    have K2 := Lib.hid k2
    have K3 := Lib.hid k3
    clear k1 k2 k3
    by_cases h5 : k < 8
    · have HP := Lib.hid (pair_fwd p k h5)
      have LQ := Lib.hid (PL_length (nttK p k))
      have LR := Lib.hid (PL_length rtF)
      have LN := Lib.hid (PL_length (nttK p (k + 1)))
      obtain ⟨hp1, hp2⟩ := pos_n k h5
      have HH := Lib.hid (half_n k h5)
      generalize 128 / 2 ^ k = n at *
      obtain ⟨new, hnew⟩ : ∃ new, PL (nttK p (k + 1)) = new := ⟨_, rfl⟩
      rw [hnew] at LN HP
      have HNEW := Lib.hid hnew
      clear hnew
      generalize PL (nttK p k) = old at *
      generalize PL rtF = rt at *
      go_wp2_with (first | (refine wpList_load_row rfl 23 (.tmp 1) rfl w.heap.size rfl 23 (iv old).toArray (0, 0) _ K1.out Try.underlying23 rfl (j23 LQ.out) ?_) | (refine wpList_load_row rfl 22 (.tmp 3) rfl g rfl 22 (iv rt).toArray (0, 0) _ K3.out Try.underlying22 rfl (j22 LR.out) ?_))
      refine (HP.out _).mono ?_
      rintro e w3 ⟨rfl, hb3⟩
      have J1 := Lib.hid (K1.out.below' hb3)
      have J2 := Lib.hid (K2.out.below' hb3)
      have J3 := Lib.hid (K3.out.below' hb3)
      have hbel3 := hbel.trans (hb3.mono hbel.size)
      clear K1 K2 K3 hbel hb3 HP
      go_wp2_with (refine wpList_store_row rfl 23 (.tmp 1) (.tmp 13) rfl w.heap.size (iv new).toArray rfl rfl 23 (iv old).toArray J1.out (j23 LN.out) (by rw [iv_size, iv_size, LN.out, LQ.out]) (iv_all _) ?_)
      have M1 := J1.out.setRow (iv new)
      have M2 := J2.out.row (iv new).toArray (show w.heap.size + 1 ≠ w.heap.size by omega)
      have M3 := J3.out.row (iv new).toArray (show g ≠ w.heap.size by omega)
      have hbel4 := below_setRow' hbel3 (Nat.le_refl _) (iv new).toArray
      obtain ⟨w4, hw4⟩ : ∃ w4, w3.setRow w.heap.size (iv new).toArray = w4 := ⟨_, rfl⟩
      rw [hw4] at M1 M2 M3 hbel4 ⊢
      clear hw4 J1 J2 J3 hbel3
      go_wp2_with fail
      go_roundw
      case rel => exact ⟨k + 1, by omega, by rw [← HH.out]; go_num, by rw [HNEW.out]; exact M1, M2, M3, hbel4⟩
      case measure => simp [intOf]; omega
    · obtain rfl : k = 8 := by omega
      have K4 := Lib.hid (show Blk wr w.heap.size 23 (iv (PL (ntt p))) from K1.out)
      have HL := Lib.hid (PL_length (ntt p))
      obtain ⟨m, hm⟩ : ∃ m, PL (ntt p) = m := ⟨_, rfl⟩
      rw [hm] at K4 HL
      have HMQ := Lib.hid hm
      clear hm K1
      rw [show 128 / 2 ^ 8 = 0 from rfl]
      go_wp2_with (first | (refine wpList_load_row rfl 23 (.tmp 1) rfl w.heap.size rfl 23 (iv m).toArray (0, 0) _ K4.out Try.underlying23 rfl (j23 HL.out) ?_) | (refine wpList_store_row rfl 23 (.tmp 2) (.tmp 14) rfl (w.heap.size + 1) (iv m).toArray rfl rfl 23 (iv zerI).toArray K2.out (j23 HL.out) (by rw [iv_size, iv_size, HL.out, zerI_length]) (iv_all _) ?_))
      have j2 := K2.out.setRow (iv m)
      have hb2 := below_setRow' hbel (show w.heap.size ≤ w.heap.size + 1 by omega) (iv m).toArray
      refine bodyPost_ret (v := .agg (iv m).toArray) ?_ rfl ⟨by rw [HMQ.out], hb2⟩
      exact results_cell_row Try.results36 _ _ (w.heap.size + 1) 23 _ (0, 0) _ rfl j2 Try.underlying23 rfl (j23 HL.out)
end Go.Proofs.Ytbhhpopckchibaa
