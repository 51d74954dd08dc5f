/- The project lays a polynomial's coefficients in so many bits each. Condition: each is a number of so many bits. -/
import Derived.Test.YtlbfnmmankoddaaDoorIp
namespace Go.Proofs.YtlbfnmmankoddaaDoor
open Go.RowKit
set_option linter.unusedVariables false
set_option linter.unusedSimpArgs false
/-- the coefficients as numbers -/
def natL (l : List Int) (i : Nat) : Nat := (l.getD i 0).toNat
theorem inB_nat {s : Nat} {l : List Int} (h : inB s l = true) (i : Nat) (hi : i < 256) : natL l i < 2 ^ s ∧ l.getD i 0 = ((natL l i : Nat) : Int) := by
  have h1 := inB_iff.1 h i hi
  have e : l.getD i 0 = ((natL l i : Nat) : Int) := (Int.toNat_of_nonneg h1.1).symm
  refine ⟨?_, e⟩
  rw [e, pw_int] at h1
  omega
theorem wait_bd {s m : Nat} (hs : s ≤ 23) (hm : m < 8) : 2 ^ (m + s) ≤ 2 ^ 30 := Nat.pow_le_pow_right (by decide) (by omega)
theorem or_wait {W y m s : Nat} (hs : s ≤ 23) (hm : m < 8) (hW : W < 2 ^ m) (hy : y < 2 ^ s) : bits .or .u32 (W : Int) ((y : Int) % 4294967296 * 2 ^ m % 4294967296) = ((W + y * 2 ^ m : Nat) : Int) := by
  have h1 : 2 ^ m ≤ 2 ^ 7 := Nat.pow_le_pow_right (by decide) (by omega)
  have h2 : 2 ^ s ≤ 2 ^ 23 := Nat.pow_le_pow_right (by decide) hs
  have h3 : y * 2 ^ m ≤ 2 ^ 23 * 2 ^ 7 := Nat.mul_le_mul (by omega) h1
  have e : (y : Int) % 4294967296 * 2 ^ m % 4294967296 = ((y * 2 ^ m : Nat) : Int) := by
    rw [show (y : Int) % 4294967296 = y by omega, pw_int, ← Int.natCast_mul]
    omega
  rw [e, u32_or_nat W (y * 2 ^ m) (by omega) (by omega), wait_or y hW]
theorem bytesV_next {N c W : Nat} (h : N / 2 ^ (8 * c) = W) : bytesV (bytesN N c) ++ [.int .u8 ((W : Int) % 256)] = bytesV (bytesN N (c + 1)) := by
  rw [bytesN_succ]
  have : (W : Int) % 256 = ((byt N c : Nat) : Int) := by rw [← wait_byte, h]; omega
  simp [bytesV, this]
theorem wait_shift' {N c W : Nat} (h : N / 2 ^ (8 * c) = W) : N / 2 ^ (8 * (c + 1)) = W / 256 := by rw [← h, wait_shift]
theorem digs_div0 (s : Nat) (x : Nat → Nat) (c : Nat) : digs s x 0 / 2 ^ (8 * c) = 0 := by simp [digs]
set_option maxRecDepth 100000 in
set_option maxHeartbeats 1600000 in
theorem laid_any (l : List Int) (hl : IsP l) (s : Nat) (hs1 : 1 ≤ s) (hs2 : s ≤ 23) (hin : inB s l = true) (w : World) : Calls Tryd.prog 22 #[.agg (iv l).toArray, .int .i64 (s : Nat)] w (Made (layN s (natL l)) w) := by
  have LL := Lib.hid hl.1
  have HN := Lib.hid (fun i hi => (inB_nat hin i hi).2)
  have HX := Lib.hid (fun i hi => (inB_nat hin i hi).1)
  have B1 := Lib.hid (Blk.new w 25 (iv l))
  have HSZ := Lib.hid (fun w => sizeIn_any s hs2 w)
  obtain ⟨i0, hi0, hz0, hz1, hz2⟩ := info_parts info5
  have BEL := Lib.hid ((Below.refl w.heap.size w).alloc (Nat.le_refl _) (.cells (iv l).toArray 25))
  clear hl hin
  generalize natL l = x at *
  go_enter Tryd.func22, Tryd.ntmps22
  go_wp2_with fail
  refine (HSZ.out _).mono ?_
  rintro e w' ⟨rfl, rfl⟩
  have hsz1 : (w.alloc (.cells (iv l).toArray 25)).heap.size = w.heap.size + 1 := by simp
  generalize w.alloc (.cells (iv l).toArray 25) = w1 at *
  go_wp2_with (at_make; refine wpList_make_own _ rfl _ _ 22 rfl w.heap.size 5 i0 (.int .u8 0) 1 Tryd.underlying22 hi0 hz0 hz1 _ _ _ (32 * s) rfl rfl (by simp) (by rw [hz2]; omega) (by unfold maxLen; omega) (by omega) ?_)
  intro w2 hown hgrow
  have B2 := Lib.hid (B1.out.grown hgrow (by simp))
  have hbel := BEL.out.grown hgrow (by have := BEL.out.size; omega) (by simp)
  try rw [hsz1]
  clear B1 BEL HSZ hgrow
  go_wp2_with (first | (refine wpList_load_row rfl 25 (.tmp 2) rfl w.heap.size rfl 25 (iv l).toArray (0, 0) _ B2.out Tryd.underlying25 rfl (j23 LL.out) ?_))
  go_loopw [5, 6, 7, 14] (fun v5 v6 v7 v14 wr => ∃ t c : Nat, t ≤ 256 ∧ 8 * c ≤ s * t ∧ s * t < 8 * c + 8 ∧ v14 = .int .i64 t ∧ v5 = .slice (some ⟨w.heap.size + 1, 0, none⟩) c (32 * s) ∧ v6 = .int .u32 (digs s x t / 2 ^ (8 * c) : Nat) ∧ v7 = .int .i64 (s * t - 8 * c : Nat) ∧ wr.ownsRow w.heap.size 5 1 v5 c (bytesV (bytesN (digs s x t) c)) ∧ Below w.heap.size w wr) (fun _ _ _ v14 _ => 256 - (intOf v14).toNat)
  case atStart => exact ⟨0, 0, by omega, by omega, by omega, rfl, rfl, by simp [digs], by simp, hown, hbel⟩
  case round =>
    clear hown hbel
    obtain ⟨t, c, ht, hc1, hc2, rfl, rfl, rfl, rfl, hown, hbel⟩ := hrel
    by_cases h5 : t < 256
    · have hx := fun w => index23 w l t h5 LL.out
      rw [HN.out t h5] at hx
      have hxt := HX.out t h5
      have hnext := Lib.hid (wait_next (s := s) (x := x) hc1)
      have hwlt := wait_lt (s := s) (x := x) (i := t) (fun j hj => HX.out j (by omega)) hc1
      have hbn := Lib.hid (bytes_next (s := s) (x := x) (fun j hj => HX.out j (by omega)) hc1)
      obtain ⟨m, hm⟩ : ∃ m, s * t - 8 * c = m := ⟨_, rfl⟩
      rw [hm] at hnext hwlt ⊢
      have hm8 : m < 8 := by omega
      obtain ⟨W, hW⟩ : ∃ W, digs s x t / 2 ^ (8 * c) = W := ⟨_, rfl⟩
      rw [hW] at hnext hwlt ⊢
      rw [← hbn.out] at hown
      have hor := or_wait hs2 hm8 hwlt hxt
      rw [← hnext.out] at hor
      have hst : s * (t + 1) = s * t + s := Nat.mul_succ s t
      have hws : (digs s x (t + 1) / 2 ^ (8 * c)) < 2 ^ 30 := by
        have h1 := wait_lt (s := s) (x := x) (i := t + 1) (c := c) (fun j hj => HX.out j (by omega)) (by omega)
        have h2 : 2 ^ (s * (t + 1) - 8 * c) ≤ 2 ^ 30 := Nat.pow_le_pow_right (by decide) (by omega)
        omega
      obtain ⟨N, hN2⟩ : ∃ N, digs s x (t + 1) = N := ⟨_, rfl⟩
      rw [hN2] at hor hws hown hnext
      have HN2 := Lib.hid hN2
      clear hN2
      generalize x t = y at *
      have HM := Lib.hid hm
      have HST := Lib.hid hst
      have hsm : s * t = 8 * c + m := by omega
      have HSM := Lib.hid hsm
      have i1 : (t : Int) < 256 := by omega
      clear hm hW hnext hbn hst hwlt hxt hsm hc1 hc2
      go_wp2_with fail
      clear hor
      go_loopw [5, 6, 7] (fun v5 v6 v7 wr => ∃ d : Nat, c ≤ d ∧ 8 * d ≤ s * t + s ∧ v5 = .slice (some ⟨w.heap.size + 1, 0, none⟩) d (32 * s) ∧ v6 = .int .u32 (N / 2 ^ (8 * d) : Nat) ∧ v7 = .int .i64 (s * t + s - 8 * d : Nat) ∧ wr.ownsRow w.heap.size 5 1 v5 d (bytesV (bytesN N d)) ∧ Below w.heap.size w wr ∧ N / 2 ^ (8 * d) < 2 ^ 30) (fun _ _ v7 _ => (intOf v7).toNat)
      case atStart => exact ⟨c, by omega, by have := HSM.out; omega, rfl, rfl, by rw [HSM.out]; go_num, hown, hbel, hws⟩
      case round =>
        clear hown hbel hws
        obtain ⟨d, hd1, hd2, rfl, rfl, rfl, hown, hbel, hwb⟩ := hrel
        obtain ⟨q, hq⟩ : ∃ q, s * t + s - 8 * d = q := ⟨_, rfl⟩
        have HQ := Lib.hid hq
        rw [hq]
        obtain ⟨V, hV⟩ : ∃ V, N / 2 ^ (8 * d) = V := ⟨_, rfl⟩
        have HV1 := Lib.hid (bytesV_next hV)
        have HV2 := Lib.hid (wait_shift' hV)
        rw [hV] at hwb ⊢
        have HV0 := Lib.hid hV
        clear hq hV
        have hq30 : q ≤ 30 := by have := HQ.out; have := HSM.out; omega
        by_cases h8 : 8 ≤ q
        · have hroom : d + 1 ≤ 32 * s := by have := HQ.out; have : s * t + s ≤ s * 256 := by rw [← HST.out]; exact Nat.mul_le_mul_left _ h5
                                            omega
          go_wp2_with (at_builtin; refine wpList_append_fits _ rfl (.tmp 30) (.tmp 33) 22 rfl w.heap.size 5 i0 1 Tryd.underlying22 hi0 hz1 (w.heap.size + 1) d (32 * s) _ rfl (hown.alloc _) ⟨wr.heap.size, 0, none⟩ 1 1 [.int .u8 ((V : Int) % 256)] rfl rfl (one_new _ _ _) (by simp [Value.oneCell']) hroom ?_; intro w3 hown3 hgrow3)
          rw [HV1.out] at hown3
          have hbel3 : Below w.heap.size w w3 := (hbel.alloc hbel.size _).grown hgrow3 (by have := hbel.size; simp; omega) (by intro k hk; simp at hk; omega)
          clear hown hgrow3 hbel
          go_wp2_with fail
          go_roundw
          case rel => exact ⟨d + 1, by omega, by have := HQ.out; omega, rfl, by rw [HV2.out]; go_num, by have := HQ.out; go_num, hown3, hbel3, by rw [HV2.out]; omega⟩
          case measure => simp [intOf]; omega
        · go_wp2_with fail
          go_roundw
          case rel => exact ⟨t + 1, d, by omega, by have := HST.out; omega, by have := HQ.out; have := HST.out; omega, by go_num, rfl, by rw [HN2.out, HV0.out], by rw [HST.out, HQ.out], by rw [HN2.out]; exact hown, hbel⟩
          case measure => simp [intOf]; omega
    · obtain rfl : t = 256 := by omega
      obtain rfl : c = 32 * s := by omega
      have HO := Lib.hid hown
      clear hown
      go_wp2_with fail
      go_ret
      exact ⟨_, rfl, by rw [layN_length]; exact HO.out, hbel⟩
end Go.Proofs.YtlbfnmmankoddaaDoor
