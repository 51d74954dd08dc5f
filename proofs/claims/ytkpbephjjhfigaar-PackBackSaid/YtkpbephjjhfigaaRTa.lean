/- The project takes the numbers out of bytes. Condition: there are as many bytes as the bits ask. -/
import Derived.Test.YtkpbephjjhfigaaRLa
namespace Go.Proofs.YtkpbephjjhfigaaR
open Go.RowKit
set_option linter.unusedVariables false
set_option linter.unusedSimpArgs false
/-- the numbers in bytes, as a polynomial's coefficients -/
def takI (s : Nat) (l : List Nat) (i : Nat) : Int := ((takN s l i : Nat) : Int)
def takP (s : Nat) (l : List Nat) : List Int := tellI (takI s l) 256
theorem takP_len (s : Nat) (l : List Nat) : (takP s l).length = 256 := tellI_length _ _
theorem takP_get (s : Nat) (l : List Nat) (i : Nat) (hi : i < 256) : (takP s l).getD i 0 = takI s l i := tellI_get _ _ _ hi
theorem flI_tak (s : Nat) (l : List Nat) : flI (takI s l) 256 = takP s l := flI_all _
theorem or_more {V m b : Nat} (hm : m < 23) (hV : V < 2 ^ m) (hb : b < 256) : bits .or .u32 (V : Int) ((b : Int) * 2 ^ m % 4294967296) = ((V + b * 2 ^ m : Nat) : Int) := by
  have h1 : 2 ^ m ≤ 2 ^ 22 := Nat.pow_le_pow_right (by decide) (by omega)
  have h3 : b * 2 ^ m ≤ 256 * 2 ^ 22 := Nat.mul_le_mul (by omega) h1
  have e : (b : Int) * 2 ^ m % 4294967296 = ((b * 2 ^ m : Nat) : Int) := by
    rw [pw_int, ← Int.natCast_mul]
    omega
  rw [e, u32_or_nat V (b * 2 ^ m) (by omega) (by omega), wait_or b hV]
theorem wrap32_id {x : Int} (h1 : -2147483648 ≤ x) (h2 : x ≤ 2147483647) : wrap32 x = x := by unfold wrap32; omega
theorem and_low {V s : Nat} (hs : s ≤ 23) (hV : V < 1073741824) : wrap32 (bits .and .u32 (V : Int) ((2 ^ s - 1) % 4294967296)) = ((V % 2 ^ s : Nat) : Int) := by
  obtain ⟨p1, p2⟩ := pw_bd hs
  have h2 : 2 ^ s ≤ 2 ^ 23 := Nat.pow_le_pow_right (by decide) hs
  have h3 := Nat.two_pow_pos s
  have e : ((2 : Int) ^ s - 1) % 4294967296 = ((2 ^ s - 1 : Nat) : Int) := by rw [pw_int] at *; omega
  rw [e, u32_and_nat V (2 ^ s - 1) (by omega) (by omega), Nat.and_two_pow_sub_one_eq_mod]
  have h4 : V % 2 ^ s < 2 ^ s := Nat.mod_lt _ h3
  exact wrap32_id (by omega) (by omega)
set_option maxRecDepth 100000 in
set_option maxHeartbeats 1600000 in
theorem taken_any (A : Option Addr) (n cp : Nat) (l : List Nat) (s : Nat) (hs1 : 1 ≤ s) (hs2 : s ≤ 23) (hn : n = 32 * s) (w : World) (hb : BIn w A n cp l) : Calls Try.prog 24 #[.slice A n cp, .int .i64 (s : Nat)] w fun e w' => e = .returned (.agg (iv (takP s l)).toArray) ∧ Below w.heap.size w w' := by
  have HL := Lib.hid hb.1.1
  have HLT := Lib.hid hb.1.2.2.1
  have HROW := Lib.hid (hb.1.2.2.2.resolve_left (by omega))
  have HB1 := Lib.hid (fun k (hk : k < n) => numB_byt hb.1.2.2.1 k (by rw [hb.1.1]; exact hk))
  have B1 := Lib.hid ((Blk.new w 23 (iv zerI)).alloc (.cells (iv zerI).toArray 23))
  have B2 := Lib.hid (Blk.new2 w (.cells (iv zerI).toArray 23) 23 (iv zerI))
  have BEL := Lib.hid (((Below.refl w.heap.size w).alloc (Nat.le_refl _) (.cells (iv zerI).toArray 23)).alloc (by simp) (.cells (iv zerI).toArray 23))
  have HF0 := Lib.hid (flI_zero (takI s l))
  have HF1 := Lib.hid (fun t => flI_succ (takI s l) t)
  have HTK := Lib.hid (fun t => show takI s l t = ((numB l / 2 ^ (s * t) % 2 ^ s : Nat) : Int) from rfl)
  have HFT := Lib.hid (flI_tak s l)
  have HPL := Lib.hid (takP_len s l)
  obtain ⟨N, hN⟩ : ∃ N, numB l = N := ⟨_, rfl⟩
  rw [hN] at HB1 HTK
  generalize takI s l = f at *
  generalize takP s l = m at *
  clear hb hN
  have HN := Lib.hid hn
  clear hn
  obtain ⟨b, off, rfl, hcell⟩ := HROW.out
  have HCL := Lib.hid hcell
  clear hcell HROW
  have z23 := zero23
  go_enter Try.func24, Try.ntmps24
  go_wp2_with fail
  clear z23
  go_loopw [6, 7, 8, 10] (fun v6 v7 v8 v10 wr => ∃ t c : Nat, t ≤ 256 ∧ s * t ≤ 8 * c ∧ 8 * c < s * t + 8 ∧ v10 = .int .i64 t ∧ v6 = .int .u32 (left_ N (s * t) c : Nat) ∧ v7 = .int .i64 (8 * c - s * t : Nat) ∧ v8 = .int .i64 c ∧ Blk wr w.heap.size 23 (iv zerI) ∧ Blk wr (w.heap.size + 1) 23 (iv (flI f t)) ∧ Below w.heap.size w wr) (fun _ _ _ v10 _ => 256 - (intOf v10).toNat)
  case atStart => exact ⟨0, 0, by omega, by omega, by omega, rfl, by simp [left_, Nat.mod_one], by simp, rfl, B1.out, by rw [HF0.out]; exact B2.out, BEL.out⟩
  case round =>
    clear B1 B2 BEL HF0
    obtain ⟨t, c, ht, hc1, hc2, rfl, rfl, rfl, rfl, k1, k2, hbel⟩ := hrel
    have K1 := Lib.hid k1
    have K2 := Lib.hid k2
    clear k1 k2
    by_cases h5 : t < 256
    · have i1 : (t : Int) < 256 := by omega
      have hst : s * (t + 1) = s * t + s := Nat.mul_succ s t
      have hst2 : s * t + s ≤ s * 256 := by rw [← hst]; exact Nat.mul_le_mul_left _ h5
      have HST := Lib.hid hst
      have HST2 := Lib.hid hst2
      have HC1 := Lib.hid hc1
      have HC2 := Lib.hid hc2
      clear hst hst2 hc1 hc2
      go_wp2_with fail
      go_loopw [6, 7, 8] (fun v6 v7 v8 wr => ∃ d : Nat, c ≤ d ∧ 8 * d < s * t + s + 8 ∧ v6 = .int .u32 (left_ N (s * t) d : Nat) ∧ v7 = .int .i64 (8 * d - s * t : Nat) ∧ v8 = .int .i64 d ∧ Blk wr w.heap.size 23 (iv zerI) ∧ Blk wr (w.heap.size + 1) 23 (iv (flI f t)) ∧ Below w.heap.size w wr) (fun _ v7 _ _ => s - (intOf v7).toNat)
      case atStart => exact ⟨c, by omega, by have := HC2.out; omega, rfl, rfl, rfl, K1.out, K2.out, hbel⟩
      case round =>
        clear K1 K2 hbel
        obtain ⟨d, hd1, hd2, rfl, rfl, rfl, k1, k2, hbel⟩ := hrel
        have K1 := Lib.hid k1
        have K2 := Lib.hid k2
        clear k1 k2
        have hle : s * t ≤ 8 * d := by have := HC1.out; omega
        have hll := left_lt (N := N) hle
        have hmo := Lib.hid (left_more (N := N) hle)
        obtain ⟨q, hq⟩ : ∃ q, 8 * d - s * t = q := ⟨_, rfl⟩
        rw [hq] at hll hmo ⊢
        have HQ := Lib.hid hq
        have HLE := Lib.hid hle
        have HD2 := Lib.hid hd2
        obtain ⟨V, hV⟩ : ∃ V, left_ N (s * t) d = V := ⟨_, rfl⟩
        rw [hV] at hll hmo ⊢
        have HV := Lib.hid hV
        have hq30 : q ≤ 30 := by have := HQ.out; omega
        have hv30 : V < 1073741824 := by
          have : 2 ^ q ≤ 2 ^ 30 := Nat.pow_le_pow_right (by decide) hq30
          omega
        clear hq hV hle hd2
        by_cases h8 : q < s
        · have hdn : d < n := by have := HN.out; have := HQ.out; have := HST2.out; have := HLE.out; omega
          have hd9 : d ≤ 736 := by have := HN.out; omega
          have hcl := HCL.out d hdn
          rw [← HB1.out d hdn] at hcl
          have hcl2 : wr.cell? ⟨b, off + d, none⟩ = some (.int .u8 (byt N d : Nat)) := (hbel.cell (World.block_lt_of_cell? w _ hcl)).trans hcl
          have hbl := byt_lt N d
          have hor := or_more (V := V) (m := q) (b := byt N d) (by omega) hll hbl
          rw [← hmo.out] at hor
          have hdn' : (d : Int) < (n : Int) := by omega
          have hq' : (q : Int) < (s : Int) := by omega
          generalize byt N d = y at *
          clear hcl hll hmo
          go_wp2_with fail
          go_roundw
          case rel => exact ⟨d + 1, by omega, by have := HQ.out; have := HLE.out; omega, rfl, by have := HQ.out; have := HLE.out; go_num, by go_num, K1.out, K2.out, hbel⟩
          case measure => simp [intOf]; omega
        · have hck := K2.out.iv t (by rw [flI_len]; exact h5)
          have hfr := K2.out.free t
          have HFS := Lib.hid (HF1.out t)
          have HTT := Lib.hid (left_take (N := N) (b := s * t) (c := d) (s := s) (by have := HQ.out; have := HLE.out; omega))
          have HLD := Lib.hid (left_drop N (s * t) d s)
          have hand := and_low (V := V) (s := s) hs2 hv30
          rw [HV.out] at HTT HLD
          have HTK1 := Lib.hid (HTK.out t)
          rw [← HTT.out] at HTK1
          rw [← HTK1.out] at hand
          clear hll hmo
          generalize f t = y at *
          go_wp2_with fail
          have k1 := K1.out.other ⟨w.heap.size + 1, t, none⟩ (.int .i32 y) (by simp)
          have k2 := K2.out.ivSet t y
          rw [HFS.out] at k2
          have hb2 := hbel.setCell (p := ⟨w.heap.size + 1, t, none⟩) (by simp) (.int .i32 y)
          go_roundw
          case rel => exact ⟨t + 1, d, by omega, by have := HST.out; have := HQ.out; have := HLE.out; omega, by have := HST.out; have := HD2.out; omega, by go_num, by rw [HST.out, ← HLD.out]; go_num, by rw [HST.out]; have := HQ.out; have := HLE.out; go_num, rfl, k1, k2, hb2⟩
          case measure => simp [intOf]; omega
    · obtain rfl : t = 256 := by omega
      rw [HFT.out] at K2
      go_wp2_with (first | (refine wpList_load_row rfl 23 (.tmp 5) rfl (w.heap.size + 1) rfl 23 (iv m).toArray (0, 0) _ K2.out Try.underlying23 rfl (j23 HPL.out) ?_) | (refine wpList_store_row rfl 23 (.tmp 4) (.tmp 44) rfl w.heap.size (iv m).toArray rfl rfl 23 (iv zerI).toArray K1.out (j23 HPL.out) (by rw [iv_size, iv_size, HPL.out, zerI_length]) (iv_all _) ?_))
      have j2 := K1.out.setRow (iv m)
      have hb2 := below_setRow' hbel (show w.heap.size ≤ w.heap.size by omega) (iv m).toArray
      refine bodyPost_ret (v := .agg (iv m).toArray) ?_ rfl ⟨rfl, hb2⟩
      exact results_cell_row Try.results24 _ _ w.heap.size 23 _ (0, 0) _ rfl j2 Try.underlying23 rfl (j23 HPL.out)
end Go.Proofs.YtkpbephjjhfigaaR
