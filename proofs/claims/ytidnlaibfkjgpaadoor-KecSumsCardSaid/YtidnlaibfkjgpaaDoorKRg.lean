/- KecSums' walk. Condition: the table of constants, the size. -/
import Derived.Test.YtidnlaibfkjgpaaDoorKRf
import Derived.Deep.RegionWith
import Derived.Deep.CutRange
namespace Go.Proofs.YtidnlaibfkjgpaaDoor
open Go.RowKit
set_option linter.unusedVariables false
set_option maxRecDepth 100000 in
set_option maxHeartbeats 3200000 in
theorem sums_walk (a : Option Addr) (m c : Nat) (l : List Nat) (k n : Int) (hi : -9223372036854775808 ≤ n ∧ n ≤ 9223372036854775807) (w : World) (htab : Tabs w) (hb : BIn w a m c l) (h47 : m ≤ 140737488351232) :
    Calls Tryd.prog 4 #[.slice a m c, .int .i64 k, .int .i64 n] w fun e w' => e = .returned (.bool true) ∧ Below w.heap.size w w' := by
  have HA := Lib.hid (awake_any w htab)
  have HTAB := Lib.hid htab
  have HB := Lib.hid hb
  have HLN := Lib.hid hb.1.1
  have HLT := Lib.hid hb.1.2.2.1
  clear htab hb
  go_enter Tryd.func4, Tryd.ntmps4
  go_wp2_with fail
  refine HA.out.mono ?_
  rintro e w1 ⟨rfl, hb0⟩
  have hbel0 := hb0
  clear hb0 HA
  go_wp2_with fail
  refine (own_any a m c l w1 (HB.out.below hbel0) (by omega)).mono ?_
  rintro e w2 ⟨G, cap, rfl, ho, hb0⟩
  rw [HLN.out] at ho
  have HO := Lib.hid ho
  have hbel1 := hbel0.trans (hb0.mono hbel0.size)
  clear ho hb0 hbel0
  go_wp2_with fail
  rw [HLN.out]
  have HOI1 := Lib.hid (ownM_in HO.out HLT.out HLN.out (by omega))
  refine (Sum256_any (some ⟨G, 0, none⟩) m cap l w2 HOI1.out (HTAB.out.below hbel1)).mono ?_
  rintro e w3 ⟨rfl, hb1⟩
  have HD1 := Lib.hid (allK_length 1 l 32)
  have HQ1 := Lib.hid (allK_lt 1 l 32)
  have HR1 := Lib.hid (fun (w0 : World) (hb : Below w.heap.size w w0) => all_row 1 32 a m c l w0 (by unfold IsKind; omega) (HB.out.below hb) h47 (by omega))
  generalize allK 1 l 32 = D1 at *
  have hbel1a := hbel1.trans (hb1.mono hbel1.size)
  have HZ1 := Lib.hid (Blk.new w3 29 (natsV .u8 (zeros 32)))
  have HO := Lib.hid ((own_below HO.out hb1).alloc (.cells (natsV .u8 D1).toArray 29))
  have hbel2 := hbel1a.alloc hbel1a.size (.cells (natsV .u8 D1).toArray 29)
  have B1 := Lib.hid (Blk.new w3 29 (natsV .u8 D1))
  go_wp2_with (refine wpList_store_row rfl 29 (.tmp 9) (.tmp 20) rfl w3.heap.size (natsV .u8 D1).toArray rfl rfl 29 (natsV .u8 (zeros 32)).toArray HZ1.out (by rw [info29s, size_nats, HD1.out]) (by rw [size_nats, size_nats, HD1.out]; rfl) (all_nats _ _) ?_)
  rw [World.setRow_alloc_new]
  clear HZ1 HOI1 hbel1 hbel1a hb1
  generalize w3.heap.size = X1 at *
  generalize w3.alloc (.cells (natsV .u8 D1).toArray 29) = w3a at *
  have HOI2 := Lib.hid (ownM_in HO.out HLT.out HLN.out (by omega))
  refine (Sum512_any (some ⟨G, 0, none⟩) m cap l w3a HOI2.out (HTAB.out.below hbel2)).mono ?_
  rintro e w4 ⟨rfl, hb2⟩
  have HD3 := Lib.hid (allK_length 3 l 64)
  have HQ3 := Lib.hid (allK_lt 3 l 64)
  have HR3 := Lib.hid (fun (w0 : World) (hb : Below w.heap.size w w0) => all_row 3 64 a m c l w0 (by unfold IsKind; omega) (HB.out.below hb) h47 (by omega))
  generalize allK 3 l 64 = D3 at *
  have hbel2a := hbel2.trans (hb2.mono hbel2.size)
  have HZ2 := Lib.hid (Blk.new w4 31 (natsV .u8 (zeros 64)))
  have B1 := Lib.hid ((B1.out.below' hb2).alloc (.cells (natsV .u8 D3).toArray 31))
  have HO := Lib.hid ((own_below HO.out hb2).alloc (.cells (natsV .u8 D3).toArray 31))
  have hbel3 := hbel2a.alloc hbel2a.size (.cells (natsV .u8 D3).toArray 31)
  have B3 := Lib.hid (Blk.new w4 31 (natsV .u8 D3))
  go_wp2_with (refine wpList_store_row rfl 31 (.tmp 10) (.tmp 22) rfl w4.heap.size (natsV .u8 D3).toArray rfl rfl 31 (natsV .u8 (zeros 64)).toArray HZ2.out (by rw [info31s, size_nats, HD3.out]) (by rw [size_nats, size_nats, HD3.out]; rfl) (all_nats _ _) ?_)
  rw [World.setRow_alloc_new]
  clear HZ2 HOI2 hbel2 hbel2a hb2
  generalize w4.heap.size = X3 at *
  generalize w4.alloc (.cells (natsV .u8 D3).toArray 31) = w4a at *
  have HOI3 := Lib.hid (ownM_in HO.out HLT.out HLN.out (by omega))
  refine (shake_all k n hi (some ⟨G, 0, none⟩) m cap l w4a HOI3.out (HTAB.out.below hbel3)).mono ?_
  rintro e w5 ⟨A5, n5, c5, code, rfl, hb3, hsh⟩
  have HSH := Lib.hid hsh
  have B1 := Lib.hid (B1.out.below' hb3)
  have B3 := Lib.hid (B3.out.below' hb3)
  have HO := Lib.hid (own_below HO.out hb3)
  have hbel4 := hbel3.trans (hb3.mono hbel3.size)
  clear hsh hb3 hbel3 HOI3
  go_wp2_with fail
  refine (still_any _ a m c G cap l w5 (HB.out.below hbel4) (by omega) HO.out).mono ?_
  rintro e w6 ⟨rfl, hb6⟩
  have hbel6 := hbel4.trans (hb6.mono hbel4.size)
  have B1 := Lib.hid (row_of_blk (B1.out.below' hb6) HD1.out (by unfold maxLen; omega) HQ1.out)
  have B3 := Lib.hid (row_of_blk (B3.out.below' hb6) HD3.out (by unfold maxLen; omega) HQ3.out)
  have HB6 := Lib.hid hb6
  clear HO hbel4 hb6
  go_upto_region 7 with (fail)
  go_cut [14] from 33 to 36 (fun v wx => v = .bool true ∧ Below w6.heap.size w6 wx)
  case first =>
    have HC := Lib.hid (HR1.out w6.drew hbel6.drew)
    go_region_with (first
      | (go_at_call 17; refine HC.out.mono ?_; rintro e w7 ⟨A7, c7, rfl, hr7, hb7⟩; have HS7 := Lib.hid (same_eq (some ⟨X1, 0, none⟩) A7 32 32 c7 D1 w7 (ByteRow.below (show ByteRow w6.drew (some ⟨X1, 0, none⟩) 32 D1 from B1.out) hb7) hr7); have HB7 := Lib.hid hb7; clear hr7 hb7)
      | (go_at_call 16; refine HS7.out.mono ?_; rintro e w8 ⟨rfl, hb8⟩; have HB8 := Lib.hid hb8; clear hb8))
    all_goals
      go_wp2_with fail
      go_meet
      case rel => exact ⟨rfl, (show Below w6.heap.size w6 w7 from ⟨HB7.out.os, HB7.out.tape, HB7.out.output, HB7.out.size, HB7.out.block⟩).trans (HB8.out.mono HB7.out.size)⟩
  case rest =>
    obtain ⟨rfl, hb7⟩ := hcut
    have hbel7 := hbel6.trans (hb7.mono hbel6.size)
    have B3 := Lib.hid (B3.out.below hb7)
    have HB7 := Lib.hid (HB6.out.trans (hb7.mono HB6.out.size))
    clear hb7 B1 HR1 HB6 hbel6
    go_upto_region 8 with (fail)
    go_cut [15] from 37 to 40 (fun v wx => v = .bool true ∧ Below wc.heap.size wc wx)
    case first =>
      have HC := Lib.hid (HR3.out wc.drew hbel7.drew)
      go_region_with (first
        | (go_at_call 17; refine HC.out.mono ?_; rintro e w7 ⟨A7, c7, rfl, hr7, hb7⟩; have HS7 := Lib.hid (same_eq (some ⟨X3, 0, none⟩) A7 64 64 c7 D3 w7 (ByteRow.below (show ByteRow wc.drew (some ⟨X3, 0, none⟩) 64 D3 from B3.out) hb7) hr7); have HB7 := Lib.hid hb7; clear hr7 hb7)
        | (go_at_call 16; refine HS7.out.mono ?_; rintro e w8 ⟨rfl, hb8⟩; have HB8 := Lib.hid hb8; clear hb8))
      all_goals
        go_wp2_with fail
        go_meet
        case rel => exact ⟨rfl, (show Below wc.heap.size wc w7 from ⟨HB7.out.os, HB7.out.tape, HB7.out.output, HB7.out.size, HB7.out.block⟩).trans (HB8.out.mono HB7.out.size)⟩
    case rest =>
      obtain ⟨rfl, hb8⟩ := hcut
      have hbel8 := hbel7.trans (hb8.mono hbel7.size)
      have HB8 := Lib.hid (HB7.out.trans (hb8.mono HB7.out.size))
      clear hb8 B3 HR3 HB7 hbel7 HD1 HD3 HQ1 HQ3
      rcases HSH.out with ⟨h4, h5, rfl, rfl⟩ | ⟨hk, hn, rfl, rfl⟩ | ⟨kN, nN, hk, rfl, rfl, hn, rfl, rfl, hrow⟩
      · have e4 : (k != 4) = true := by rw [bne_iff_ne]; exact h4
        have e5 : (k != 5) = true := by rw [bne_iff_ne]; exact h5
        clear HSH
        go_wp2_with fail
        go_ret
        exact ⟨rfl, hbel8⟩
      · clear HSH
        rcases hn with hn | hn
        · rcases hk with rfl | rfl
          · go_wp2_with fail
            go_ret
            exact ⟨rfl, hbel8⟩
          · go_wp2_with fail
            go_ret
            exact ⟨rfl, hbel8⟩
        · have hn0 : ¬ n < 0 := by omega
          rcases hk with rfl | rfl
          · go_wp2_with fail
            go_ret
            exact ⟨rfl, hbel8⟩
          · go_wp2_with fail
            go_ret
            exact ⟨rfl, hbel8⟩
      · have HROW := Lib.hid (hrow.below HB8.out)
        have HC := Lib.hid (all_row kN n5 a m c l wc (by unfold IsKind; omega) (HB.out.below hbel8) h47 hn)
        have HLA := Lib.hid (allK_length kN l n5)
        clear HSH hrow
        generalize allK kN l n5 = D at *
        have hn0 : ¬ (n5 : Int) < 0 := by omega
        have hn1 : ¬ (65536 : Int) < (n5 : Int) := by omega
        rcases hk with rfl | rfl
        all_goals
          go_wp2_with fail
          refine HC.out.mono ?_
          rintro e w9 ⟨A9, c9, rfl, hr9, hb9⟩
          have HS9 := Lib.hid (same_eq A5 A9 n5 c5 c9 D w9 (HROW.out.below hb9) hr9)
          have hbel9 := hbel8.trans (hb9.mono hbel8.size)
          clear hr9 hb9 HC
          go_wp2_with fail
          refine HS9.out.mono ?_
          rintro e w10 ⟨rfl, hb10⟩
          have hbel10 := hbel9.trans (hb10.mono hbel9.size)
          go_wp2_with fail
          go_ret
          exact ⟨rfl, hbel10⟩
end Go.Proofs.YtidnlaibfkjgpaaDoor
