/- The document's Block of 64 bits: it answers the plain state behind a block. Condition: eight words within their bits, a whole block. -/
import Derived.Test.YtnikhnpigopihaaDoorRefB
import Derived.Test.YtnikhnpigopihaaDoorTurn
import Derived.Test.YtnikhnpigopihaaDoorRefK
import Derived.Test.YtnikhnpigopihaaDoorMixA
import Derived.Deep.OwnRows
import Derived.Deep.RegionWith
import Derived.StillTailTactics
import Derived.Test.YtnikhnpigopihaaDoorOpen
import Derived.Deep.Cut
namespace Go.Proofs.YtnikhnpigopihaaDoor
open Go.RowKit
set_option linter.unusedVariables false
set_option maxRecDepth 100000 in
set_option maxHeartbeats 8000000 in
theorem block_64 (kk : Nat) (hkk : kk = 2 ∨ kk = 3) (s : List Nat) (c : Nat) (b off : Nat) (l : List Nat) (w : World) (hs : s.length = 8) (hsb : ∀ x ∈ s, x < 2 ^ 64) (hb : BIn w (some ⟨b, off, none⟩) 128 c l) :
    Calls Tryd.prog 54 #[.int .i64 (kk : Nat), .agg (natsV .u64 s).toArray, .slice (some ⟨b, off, none⟩) 128 c] w (WordsIs (mix 64 s l) w) := by
  have hlen := hb.1.1
  have hlt := hb.1.2.2.1
  have hcap := hb.2.1
  have hc2 := hb.2.2.1
  unfold maxLen at hc2
  obtain ⟨b', off', he', hcells⟩ := hb.1.2.2.2.resolve_left (by decide)
  injection he' with he'
  injection he' with e1 e2
  subst e1 e2
  have HSB := Lib.hid hsb
  have HL := Lib.hid hlen
  have HT := Lib.hid hlt
  have HS := Lib.hid hs
  have HC := Lib.hid hcells
  have HKK := Lib.hid hkk
  have HK := Lib.hid (show ∀ w, Calls Tryd.prog 32 #[.int .i64 (kk : Nat)] w fun e w' => ∃ d : Int, e = .returned (.tuple #[.int .u64 64, .int .i64 128, .int .i64 80, .int .i64 d]) ∧ w = w' from fun w => by rcases hkk with rfl | rfl; exact (Kind_2 w).mono (fun _ _ h => ⟨48, h⟩); exact (Kind_3 w).mono (fun _ _ h => ⟨64, h⟩))
  have HMK := Lib.hid (show ∀ w : World, (Instr.makeSlice 86 (.int .i64 80) (.int .i64 80)).run Tryd.prog w = .ok (.slice (some ⟨w.heap.size, 0, none⟩) 80 80) (w.alloc (.cells (natsV .u64 (zeros 80)).toArray 48)) from fun w => mk_u64 80 (by decide) w)
  clear hb hlen hlt hs hsb hcells hkk
  go_enter Tryd.func54, Tryd.ntmps54
  go_wp2_with fail
  refine (HK.out _).mono ?_
  rintro e w' ⟨d, rfl, rfl⟩
  clear HK
  have hmk := HMK.out
  clear HMK
  go_wp2_with fail
  clear hmk
  have B1 := Lib.hid (((Blk.new w 66 (natsV .u64 s)).alloc (.cells (natsV .u64 (zeros 8)).toArray 66)).alloc (.cells (natsV .u64 (zeros 80)).toArray 48))
  have B2 := Lib.hid ((Blk.new2 w (.cells (natsV .u64 s).toArray 66) 66 (natsV .u64 (zeros 8))).alloc (.cells (natsV .u64 (zeros 80)).toArray 48))
  have B3 := Lib.hid (Blk.new3 w (.cells (natsV .u64 s).toArray 66) (.cells (natsV .u64 (zeros 8)).toArray 66) 48 (natsV .u64 (zeros 80)))
  have BEL := Lib.hid ((((Below.refl w.heap.size w).alloc (Nat.le_refl _) (.cells (natsV .u64 s).toArray 66)).alloc (by simp) (.cells (natsV .u64 (zeros 8)).toArray 66)).alloc (by simp; omega) (.cells (natsV .u64 (zeros 80)).toArray 48))
  go_loopw [13] (fun i wr => ∃ t : Nat, t ≤ 80 ∧ i = .int .i64 t ∧ Blk wr w.heap.size 66 (natsV .u64 s) ∧ Blk wr (w.heap.size + 1) 66 (natsV .u64 (zeros 8)) ∧ Blk wr (w.heap.size + 1 + 1) 48 (natsV .u64 (wds 64 l t ++ zeros (80 - t))) ∧ Below w.heap.size w wr) (fun i _ => 80 - (intOf i).toNat)
  case atStart => exact ⟨0, by omega, rfl, B1.out, B2.out, B3.out, BEL.out⟩
  case round =>
    clear B1 B2 B3 BEL
    obtain ⟨t, ht, rfl, k1, k2, k3, hbel⟩ := hrel
    have K1 := Lib.hid k1
    have K2 := Lib.hid k2
    have K3 := Lib.hid k3
    clear k1 k2 k3
    by_cases h16 : t < 16
    · as_aux_lemma =>
      have hh : (t : Int) < 16 := by omega
      have hh2 : (t : Int) < 80 := by omega
      have HN := Lib.hid (fill_next 64 l 80 t (wd 64 l t) (by omega) (nextW_lo _ _ _ _ h16))
      have K3' := Lib.hid (show Blk wr (w.heap.size + 1 + 1) 48 (natsV .u64 ((wds 64 l t ++ zeros (80 - t)).set t (be ((l.drop (8 * t)).take 0)))) from by
        rw [show be ((l.drop (8 * t)).take 0) = 0 from rfl, set_zero _ _ _ (wds_length _ _ _)]; exact K3.out)
      have HLN := Lib.hid (show (wds 64 l t ++ zeros (80 - t)).length = 80 from by simp [wds_length, zeros]; omega)
      clear K3
      generalize wds 64 l t ++ zeros (80 - t) = Z at *
      go_wp2_with fail
      go_loopw [14] (fun i wr' => ∃ j : Nat, j ≤ 8 ∧ i = .int .i64 j ∧ Blk wr' w.heap.size 66 (natsV .u64 s) ∧ Blk wr' (w.heap.size + 1) 66 (natsV .u64 (zeros 8)) ∧ Blk wr' (w.heap.size + 1 + 1) 48 (natsV .u64 (Z.set t (be ((l.drop (8 * t)).take j)))) ∧ Below w.heap.size w wr') (fun i _ => 8 - (intOf i).toNat)
      case atStart => exact ⟨0, by omega, rfl, K1.out, K2.out, K3'.out, hbel⟩
      case round =>
        clear hbel K1 K2 K3'
        obtain ⟨j, hj, rfl, k1, k2, k3, hbel⟩ := hrel
        have K1 := Lib.hid k1
        have K2 := Lib.hid k2
        have K3 := Lib.hid k3
        clear k1 k2 k3
        by_cases hjp : j < 8
        · have hji : (j : Int) < 8 := by omega
          have hx : be ((l.drop (8 * t)).take j) < 2 ^ 56 := by
            refine Nat.lt_of_lt_of_le (be_lt _ (fun x hx => HT.out x (List.mem_of_mem_drop (List.mem_of_mem_take hx)))) ?_
            exact Nat.le_trans (Nat.pow_le_pow_right (by decide) (List.length_take_le _ _)) (Nat.le_trans (Nat.pow_le_pow_right (by decide) (show j ≤ 7 by omega)) (by decide))
          have hcb := (hbel.cell (World.block_lt_of_cell? w _ (HC.out (8 * t + j) (by omega)))).trans (HC.out (8 * t + j) (by omega))
          have hy := getD_lt' HT.out (by decide) (8 * t + j)
          have HST := Lib.hid (show be ((l.drop (8 * t)).take (j + 1)) = be ((l.drop (8 * t)).take j) * 256 + l.getD (8 * t + j) 0 from by
            rw [take_drop_snoc l (8 * t) j (by rw [HL.out]; omega), be_append])
          have hc := K3.out.nat t (by rw [List.length_set, HLN.out]; omega)
          rw [set_getD _ _ _ (by rw [HLN.out]; omega)] at hc
          have hf := K3.out.free t
          generalize be ((l.drop (8 * t)).take j) = x at *
          generalize l.getD (8 * t + j) 0 = y at *
          have hidx : ((8 * t + j : Nat) : Int) < 128 := by omega
          have e1 : IntKind.i64.wrap ((t : Int) * 8) = ((8 * t : Nat) : Int) := by rw [IntWalk.i64_in _ (by omega)]; omega
          have e2 : IntKind.i64.wrap (((8 * t : Nat) : Int) + (j : Int)) = ((8 * t + j : Nat) : Int) := by rw [IntWalk.i64_in _ (by omega)]; omega
          have e3 : IntKind.u64.wrap ((x : Int) * 256) = ((x * 256 : Nat) : Int) := by rw [IntKind.wrap_u64]; omega
          have e4 : IntKind.u64.wrap (((x * 256 : Nat) : Int) + (y : Int)) = ((x * 256 + y : Nat) : Int) := by rw [IntKind.wrap_u64]; omega
          clear hx
          generalize 8 * t + j = p at *
          generalize 8 * t = pt at *
          generalize x * 256 + y = z at *
          generalize x * 256 = x256 at *
          go_wp2_with fail
          go_region
          all_goals
            have k3 := K3.out.natSet t z
            rw [List.set_set] at k3
            have k1 := K1.out.other ⟨w.heap.size + 1 + 1, t, none⟩ (.int .u64 (z : Nat)) (by simp; omega)
            have k2 := K2.out.other ⟨w.heap.size + 1 + 1, t, none⟩ (.int .u64 (z : Nat)) (by simp)
            have hb2 := hbel.setCell (p := ⟨w.heap.size + 1 + 1, t, none⟩) (by simp; omega) (.int .u64 (z : Nat))
            clear e1 e2 e3 e4
            go_wp2_with fail
            go_roundw
            case rel => exact ⟨j + 1, by omega, by go_num, k1, k2, by rw [HST.out]; exact k3, hb2.drew⟩
            case measure => simp [intOf]; omega
        · obtain rfl : j = 8 := by omega
          have k3 := K3.out
          rw [show be ((l.drop (8 * t)).take 8) = wd 64 l t from rfl, HN.out] at k3
          clear K3
          have K3 := Lib.hid k3
          clear k3
          rw [show ((8 : Nat) : Int) = 8 from rfl]
          go_wp2_with fail
          go_roundw
          case rel => exact ⟨t + 1, by omega, by go_num, K1.out, K2.out, K3.out, hbel⟩
          case measure => simp [intOf]; omega
    · by_cases hR : t < 80
      · as_aux_lemma =>
        have hh : ¬ (t : Int) < 16 := by omega
        have hh2 : (t : Int) < 80 := by omega
        have hf := K3.out.free t
        have c15 := K3.out.nat (t - 15) (by simp [wds_length, zeros]; omega)
        have c2 := K3.out.nat (t - 2) (by simp [wds_length, zeros]; omega)
        have c7 := K3.out.nat (t - 7) (by simp [wds_length, zeros]; omega)
        have c16 := K3.out.nat (t - 16) (by simp [wds_length, zeros]; omega)
        have hcell := K3.out.nat t (by simp [wds_length, zeros]; omega)
        rw [fill_get _ _ _ _ _ (by omega)] at c15 c2 c7 c16
        have b15 : (wds 64 l t).getD (t - 15) 0 < 2 ^ 64 := getD_lt' (wds_lt (.inr rfl) HT.out t) (by decide) _
        have b2 : (wds 64 l t).getD (t - 2) 0 < 2 ^ 64 := getD_lt' (wds_lt (.inr rfl) HT.out t) (by decide) _
        have HX := Lib.hid (fill_next 64 l 80 t _ (by omega) (nextW_hi _ _ _ _ h16))
        generalize (wds 64 l t).getD (t - 15) 0 = x15 at *
        generalize (wds 64 l t).getD (t - 2) 0 = x2 at *
        generalize (wds 64 l t).getD (t - 7) 0 = x7 at *
        generalize (wds 64 l t).getD (t - 16) 0 = x16 at *
        have HSE := Lib.hid (call_smE64 x2 b2)
        have HSA := Lib.hid (call_smA64 x15 b15)
        have HJE := Lib.hid (call_jE64 x2 b2)
        have HJA := Lib.hid (call_jA64 x15 b15)
        clear b15 b2
        have HNX := Lib.hid (ref_next (.inr rfl) (smE 64 x2) x7 (smA 64 x15) x16)
        generalize smE 64 x2 = y2 at *
        generalize smA 64 x15 = y15 at *
        have s1 := u64_sum y2 x7
        have hA1 : (y2 + x7) % 2 ^ 64 < 2 ^ 64 := Nat.mod_lt _ (by decide)
        generalize (y2 + x7) % 2 ^ 64 = A1 at *
        have s2 := u64_sum A1 y15
        generalize (A1 + y15) % 2 ^ 64 = A2 at *
        have s3 := u64_sum A2 x16
        have hA3 : (A2 + x16) % 2 ^ 64 < 2 ^ 64 := Nat.mod_lt _ (by decide)
        generalize (A2 + x16) % 2 ^ 64 = A3 at *
        generalize add 64 (add 64 (add 64 y2 x7) y15) x16 = z at *
        have HCUT := Lib.hid (cut64_is A3 z HNX.out hA3)
        have e15 : IntKind.i64.wrap ((t : Int) - 15) = ((t - 15 : Nat) : Int) := by rw [IntWalk.i64_in _ (by omega)]; omega
        have e2 : IntKind.i64.wrap ((t : Int) - 2) = ((t - 2 : Nat) : Int) := by rw [IntWalk.i64_in _ (by omega)]; omega
        have d15 : (t : Int) - 15 = ((t - 15 : Nat) : Int) := by omega
        have d2 : (t : Int) - 2 = ((t - 2 : Nat) : Int) := by omega
        have i15 : ((t - 15 : Nat) : Int) < 80 := by omega
        have i2 : ((t - 2 : Nat) : Int) < 80 := by omega
        have e7 : IntKind.i64.wrap ((t : Int) - 7) = ((t - 7 : Nat) : Int) := by rw [IntWalk.i64_in _ (by omega)]; omega
        have e16 : IntKind.i64.wrap ((t : Int) - 16) = ((t - 16 : Nat) : Int) := by rw [IntWalk.i64_in _ (by omega)]; omega
        have i7 : ((t - 7 : Nat) : Int) < 80 := by omega
        have i16 : ((t - 16 : Nat) : Int) < 80 := by omega
        clear hA1 hA3
        generalize t - 15 = t15 at *
        generalize t - 2 = t2 at *
        generalize t - 7 = t7 at *
        generalize t - 16 = t16 at *
        go_wp2_with fail
        refine (HJE.out _).mono ?_
        rintro e w' ⟨⟨vj1, rfl⟩, rfl⟩
        go_wp2_with fail
        refine (HJA.out _).mono ?_
        rintro e w' ⟨⟨vj2, rfl⟩, rfl⟩
        go_wp2_with fail
        refine (HSE.out _).mono ?_
        rintro e w' ⟨rfl, rfl⟩
        go_wp2_with fail
        refine (HSA.out _).mono ?_
        rintro e w' ⟨rfl, rfl⟩
        go_wp2_with fail
        refine wp_region_still_tail 20 (by kernel_rfl) (by kernel_rfl) ?_
        change wpStill _ _ wr.drew _ _ _
        simp only [List.take_succ_cons, List.take_zero, List.drop_succ_cons, List.drop_zero]
        repeat still_step
        still_call (flipC (HCUT.out _))
        still_step
        refine wpStill_nil ?_
        change wpList _ _ _ _ _ wr.drew
        clear s1 s2 s3 e15 e2 e7 e16 d15 d2
        go_wp2_with fail
        all_goals
          have k3 := K3.out.natSet t z
          rw [HX.out] at k3
          have k1 := K1.out.other ⟨w.heap.size + 1 + 1, t, none⟩ (.int .u64 (z : Nat)) (by simp; omega)
          have k2 := K2.out.other ⟨w.heap.size + 1 + 1, t, none⟩ (.int .u64 (z : Nat)) (by simp)
          have hb2 := hbel.setCell (p := ⟨w.heap.size + 1 + 1, t, none⟩) (by simp; omega) (.int .u64 (z : Nat))
          go_roundw
          case rel => exact ⟨t + 1, by omega, by go_num, k1, k2, k3, hb2.drew⟩
          case measure => simp [intOf]; omega
      · obtain rfl : t = 80 := by omega
        obtain ⟨a0, b0, c0, d0, e0, f0, g0, h0, hs8⟩ := list8 HS.out
        subst hs8
        have hok := St.of_ok HSB.out
        have HOK := Lib.hid hok
        clear hok
        have KW := Lib.hid (show Blk wr (w.heap.size + 1 + 1) 48 (natsV .u64 (wds 64 l 80)) from by have := K3.out; simpa [zeros] using this)
        clear K3 h16 hR
        rw [show ((80 : Nat) : Int) = 80 from rfl]
        have HSZ := Lib.hid (show w.heap.size + 1 + 1 < wr.heap.size from KW.out.lt)
        have B4 := Lib.hid (Blk.new wr 66 (natsV .u64 (zeros 8)))
        go_wp2_with (first | (refine wpList_load_row rfl 66 (.tmp 4) rfl w.heap.size rfl 66 (natsV .u64 [a0, b0, c0, d0, e0, f0, g0, h0]).toArray (0, 0) _ K1.out Tryd.underlying66 rfl (by rw [info66, size_nats]; rfl) ?_) | (refine wpList_store_row rfl 66 (.tmp 17) (.tmp 118) rfl wr.heap.size (natsV .u64 [a0, b0, c0, d0, e0, f0, g0, h0]).toArray rfl rfl 66 (natsV .u64 (zeros 8)).toArray B4.out (by rw [info66, size_nats]; rfl) (by rw [size_nats, size_nats]; rfl) (all_nats _ _) ?_))
        rw [World.setRow_alloc_new]
        have J1 := Lib.hid (K1.out.alloc (.cells (natsV .u64 [a0, b0, c0, d0, e0, f0, g0, h0]).toArray 66))
        have J2 := Lib.hid (K2.out.alloc (.cells (natsV .u64 [a0, b0, c0, d0, e0, f0, g0, h0]).toArray 66))
        have J3 := Lib.hid (KW.out.alloc (.cells (natsV .u64 [a0, b0, c0, d0, e0, f0, g0, h0]).toArray 66))
        have J4 := Lib.hid (Blk.new wr 66 (natsV .u64 [a0, b0, c0, d0, e0, f0, g0, h0]))
        have hbel2 := hbel.alloc (show w.heap.size ≤ wr.heap.size from hbel.size) (.cells (natsV .u64 [a0, b0, c0, d0, e0, f0, g0, h0]).toArray 66)
        have hGl := HSZ.out
        clear K1 K2 KW B4 hbel HSZ
        generalize wr.heap.size = G at *
        generalize wr.alloc (.cells (natsV .u64 [a0, b0, c0, d0, e0, f0, g0, h0]).toArray 66) = W4 at *
        go_loopw [18] (fun i wr => ∃ t : Nat, t ≤ 80 ∧ i = .int .i64 t ∧ Blk wr w.heap.size 66 (natsV .u64 [a0, b0, c0, d0, e0, f0, g0, h0]) ∧ Blk wr (w.heap.size + 1) 66 (natsV .u64 (zeros 8)) ∧ Blk wr (w.heap.size + 1 + 1) 48 (natsV .u64 (wds 64 l 80)) ∧ Blk wr G 66 (natsV .u64 (rnds 64 (wds 64 l 80) (St.of [a0, b0, c0, d0, e0, f0, g0, h0]) t).list) ∧ Below w.heap.size w wr) (fun i _ => 80 - (intOf i).toNat)
        case atStart => exact ⟨0, by omega, rfl, J1.out, J2.out, J3.out, J4.out, hbel2⟩
        case round =>
          clear hbel2 J1 J2 J3 J4
          obtain ⟨t, ht, rfl, k1, k2, k3, k4, hbel⟩ := hrel
          have hok := rnds_ok (ws := wds 64 l 80) HOK.out t
          have HST := Lib.hid (rnds_succ 64 (wds 64 l 80) (St.of [a0, b0, c0, d0, e0, f0, g0, h0]) t)
          have K1 := Lib.hid k1
          have K2 := Lib.hid k2
          have K3 := Lib.hid k3
          obtain ⟨σ, hσ⟩ : ∃ σ, rnds 64 (wds 64 l 80) (St.of [a0, b0, c0, d0, e0, f0, g0, h0]) t = σ := ⟨_, rfl⟩
          rw [hσ] at HST hok k4
          have HEQ := Lib.hid hσ
          have K4 := Lib.hid k4
          clear hσ k1 k2 k3 k4
          obtain ⟨a, b', c', d', e, f, g, h⟩ := σ
          have HQ := Lib.hid hok
          clear hok
          by_cases ht2 : t < 80
          · as_aux_lemma =>
            have HCB := Lib.hid (ref_cub t (by omega))
            have hki : (t : Int) < 80 := by omega
            have cw := K3.out.nat t (by rw [wds_length]; exact ht2)
            have p0 := K4.out.nat 0 (by simp [St.list])
            have p1 := K4.out.nat 1 (by simp [St.list])
            have p2 := K4.out.nat 2 (by simp [St.list])
            have p3 := K4.out.nat 3 (by simp [St.list])
            have p4 := K4.out.nat 4 (by simp [St.list])
            have p5 := K4.out.nat 5 (by simp [St.list])
            have p6 := K4.out.nat 6 (by simp [St.list])
            have p7 := K4.out.nat 7 (by simp [St.list])
            simp only [St.list, List.getD_cons_zero, List.getD_cons_succ] at p0 p1 p2 p3 p4 p5 p6 p7
            rw [rnd_eq] at HST
            have HME := Lib.hid (call_bigE64 e HQ.out.2.2.2.2.1)
            have HMA := Lib.hid (call_bigA64 a HQ.out.1)
            skip
            have HCH := Lib.hid (ref_ch (.inr rfl) e f g HQ.out.2.2.2.2.1 HQ.out.2.2.2.2.2.1 HQ.out.2.2.2.2.2.2.1)
            have HMJ := Lib.hid (ref_maj (.inr rfl) a b' c' HQ.out.1 HQ.out.2.1 HQ.out.2.2.1)
            have HCN := Lib.hid (cut64_is (bn 64 e) _ rfl (bn_lt 64 e))
            generalize bn 64 e % 2 ^ 64 = cn at *
            rw [show bx 64 (ba 64 e f) (ba 64 (bn 64 e) g) = ch 64 e f g from rfl, show bx 64 (bx 64 (ba 64 a b') (ba 64 a c')) (ba 64 b' c') = maj 64 a b' c' from rfl] at HST
            have hkc : kc 64 t = cubesN.getD t 0 := kc64 t
            have HKC := Lib.hid hkc
            clear hkc
            have hkl := cubes_lt t
            generalize cubesN.getD t 0 = k0 at *
            generalize kc 64 t = kk2 at *
            generalize (wds 64 l 80).getD t 0 = ww at *
            generalize bigE 64 e = bE at *
            generalize bigA 64 a = bA at *
            generalize ch 64 e f g = cc at *
            generalize maj 64 a b' c' = mm at *
            have HONE := Lib.hid (ref_one (.inr rfl) h bE cc kk2 ww)
            generalize add 64 (add 64 (add 64 (add 64 h bE) cc) kk2) ww = one at *
            have HTWO := Lib.hid (ref_two (.inr rfl) bA mm)
            generalize add 64 bA mm = two at *
            have HV0 := Lib.hid (ref_two (.inr rfl) one two)
            generalize add 64 one two = v0 at *
            have HV4 := Lib.hid (ref_two (.inr rfl) d' one)
            generalize add 64 d' one = v4 at *
            go_wp2_with fail
            refine (HCB.out _).mono ?_
            rintro e' w' ⟨rfl, rfl⟩
            clear HCB
            go_wp2_with fail
            refine (HME.out _).mono ?_
            rintro e' w' ⟨rfl, rfl⟩
            go_wp2_with fail
            refine (HMA.out _).mono ?_
            rintro e' w' ⟨rfl, rfl⟩
            have hkk2 := HKC.out
            subst hkk2
            go_wp2_with fail
            skip
            have rx := u64_bx
            have rd := u64_ba
            have rn := u64_bn
            have rs : (if IntKind.u64.signed = true then (-1 : Int) else IntKind.u64.max) = IntKind.u64.max := rfl
            have s1 := u64_sum h bE
            generalize (h + bE) % 2 ^ 64 = A1 at *
            have s2 := u64_sum A1 cc
            generalize (A1 + cc) % 2 ^ 64 = A2 at *
            have s3 := u64_sum A2 kk2
            generalize (A2 + kk2) % 2 ^ 64 = A3 at *
            have s4 := u64_sum A3 ww
            have l4 : (A3 + ww) % 2 ^ 64 < 2 ^ 64 := Nat.mod_lt _ (by decide)
            generalize (A3 + ww) % 2 ^ 64 = A4 at *
            have HC1 := Lib.hid (cut64_is A4 one HONE.out l4)
            have s5 := u64_sum bA mm
            have l5 : (bA + mm) % 2 ^ 64 < 2 ^ 64 := Nat.mod_lt _ (by decide)
            generalize (bA + mm) % 2 ^ 64 = A5 at *
            have HC2 := Lib.hid (cut64_is A5 two HTWO.out l5)
            have s6 := u64_sum one two
            have l6 : (one + two) % 2 ^ 64 < 2 ^ 64 := Nat.mod_lt _ (by decide)
            generalize (one + two) % 2 ^ 64 = A6 at *
            have HC3 := Lib.hid (cut64_is A6 v0 HV0.out l6)
            have s7 := u64_sum d' one
            have l7 : (d' + one) % 2 ^ 64 < 2 ^ 64 := Nat.mod_lt _ (by decide)
            generalize (d' + one) % 2 ^ 64 = A7 at *
            have HC4 := Lib.hid (cut64_is A7 v4 HV4.out l7)
            clear l4 l5 l6 l7 HONE HTWO HV0 HV4
            go_quiet ((go_at_call 58; exact Calls.quiet_of_same (flipC (HCN.out _))))
            rw [HCH.out]
            go_wp2_with fail
            rw [HMJ.out]
            clear rx rd rn rs HCH HMJ HCN
            obtain ⟨W5, hW5⟩ : ∃ W5 : World, wr.drewN nq = W5 := ⟨_, rfl⟩
            rw [hW5]
            have K1' := Lib.hid (show Blk W5 w.heap.size 66 (natsV .u64 [a0, b0, c0, d0, e0, f0, g0, h0]) from by rw [← hW5]; exact K1.out)
            have K2' := Lib.hid (show Blk W5 (w.heap.size + 1) 66 (natsV .u64 (zeros 8)) from by rw [← hW5]; exact K2.out)
            have K3' := Lib.hid (show Blk W5 (w.heap.size + 1 + 1) 48 (natsV .u64 (wds 64 l 80)) from by rw [← hW5]; exact K3.out)
            have K4' := Lib.hid (show Blk W5 G 66 (natsV .u64 [a, b', c', d', e, f, g, h]) from by rw [← hW5]; exact K4.out)
            have hbel5 : Below w.heap.size w W5 := by rw [← hW5]; exact below_drewN hbel nq
            have cw5 : W5.cell? ⟨w.heap.size + 1 + 1, t, none⟩ = some (.int .u64 (ww : Nat)) := by rw [← hW5]; exact cw
            clear hW5 hbel K1 K2 K3 K4 p0 p1 p2 p3 p4 p5 p6 p7 cw
            have p0 := K4'.out.nat 0 (by simp)
            have p1 := K4'.out.nat 1 (by simp)
            have p2 := K4'.out.nat 2 (by simp)
            have p3 := K4'.out.nat 3 (by simp)
            have p4 := K4'.out.nat 4 (by simp)
            have p5 := K4'.out.nat 5 (by simp)
            have p6 := K4'.out.nat 6 (by simp)
            have p7 := K4'.out.nat 7 (by simp)
            simp only [List.getD_cons_zero, List.getD_cons_succ] at p0 p1 p2 p3 p4 p5 p6 p7
            go_quiet ((go_at_call 58; exact Calls.quiet_of_same (flipC (HC1.out _))))
            go_wp2_with fail
            refine (HC2.out _).mono ?_
            rintro e' w' ⟨rfl, rfl⟩
            go_wp2_with fail
            have HBD := Lib.hid (built66n v0 a b' c' v4 e f g)
            refine wp_region_still_tail 24 (by kernel_rfl) (by kernel_rfl) ?_
            change wpStill _ _ (W5.drewN (nq + 1)) _ _ _
            simp only [List.take_succ_cons, List.take_zero, List.drop_succ_cons, List.drop_zero]
            iterate 4 still_step
            still_call (flipC (HC3.out _))
            iterate 11 still_step
            still_call (flipC (HC4.out _))
            iterate 6 still_step
            refine wpStill_build rfl 66 _ rfl (natsV .u64 [v0, a, b', c', v4, e, f, g]).toArray ?hb ?_
            case hb => simp only [List.map_toArray, List.map_cons, List.map_nil]; exact HBD.out
            refine wpStill_nil ?_
            change wpList _ _ _ _ _ (W5.drewN (nq + 1))
            have HLB := Lib.hid (show (W5.drewN (nq + 1)).heap[G]? = some (.cells (natsV .u64 [a, b', c', d', e, f, g, h]).toArray 66 (0, 0)) from K4'.out)
            clear s1 s2 s3 s4 s5 s6 s7 p0 p1 p2 p3 p4 p5 p6 p7 cw5
            go_simp
            refine wpList_store_row rfl 66 (.tmp 17) (.tmp 220) rfl G (natsV .u64 [v0, a, b', c', v4, e, f, g]).toArray rfl rfl 66 (natsV .u64 [a, b', c', d', e, f, g, h]).toArray HLB.out (by rw [info66, size_nats]; rfl) (by rw [size8, size8]) (all_nats _ _) ?_
            go_wp2_with fail
            have k4 : Blk ((W5.drewN (nq + 1)).setRow G (natsV .u64 [v0, a, b', c', v4, e, f, g]).toArray) G 66 (natsV .u64 (rnds 64 (wds 64 l 80) (St.of [a0, b0, c0, d0, e0, f0, g0, h0]) (t + 1)).list) := by
              rw [HST.out]; exact (K4'.out.drewN (nq + 1)).setRow _
            have k1 := (K1'.out.drewN (nq + 1)).of (setRow_other _ G w.heap.size (natsV .u64 [v0, a, b', c', v4, e, f, g]).toArray (by omega))
            have k2 := (K2'.out.drewN (nq + 1)).of (setRow_other _ G (w.heap.size + 1) (natsV .u64 [v0, a, b', c', v4, e, f, g]).toArray (by omega))
            have k3 := (K3'.out.drewN (nq + 1)).of (setRow_other _ G (w.heap.size + 1 + 1) (natsV .u64 [v0, a, b', c', v4, e, f, g]).toArray (by omega))
            have hb6 := below_setRow' (below_drewN hbel5 (nq + 1)) (show w.heap.size ≤ G by omega) (natsV .u64 [v0, a, b', c', v4, e, f, g]).toArray
            go_roundw
            case rel => exact ⟨t + 1, by omega, by go_num, k1, k2, k3, k4, hb6⟩
            case measure => simp [intOf]; omega
          · obtain rfl : t = 80 := by omega
            rw [show ((80 : Nat) : Int) = 80 from rfl]
            have HM := Lib.hid (show mix 64 [a0, b0, c0, d0, e0, f0, g0, h0] l = List.zipWith (add 64) [a, b', c', d', e, f, g, h] [a0, b0, c0, d0, e0, f0, g0, h0] from by
              rw [zip_swap]; unfold mix; rw [rounds64, HEQ.out]; rfl)
            obtain ⟨S8, hS8⟩ : ∃ S8, S8 = [a0, b0, c0, d0, e0, f0, g0, h0] := ⟨_, rfl⟩
            obtain ⟨V8, hV8⟩ : ∃ V8, V8 = [a, b', c', d', e, f, g, h] := ⟨_, rfl⟩
            have HSL := Lib.hid (show S8.length = 8 from by rw [hS8]; rfl)
            have HVL := Lib.hid (show V8.length = 8 from by rw [hV8]; rfl)
            have J4 := Lib.hid (show Blk wr G 66 (natsV .u64 (sumTo 64 V8 S8 0)) from by rw [sumTo_zero, hV8]; exact K4.out)
            have J1 := Lib.hid (show Blk wr w.heap.size 66 (natsV .u64 S8) from by rw [hS8]; exact K1.out)
            have HM8 := Lib.hid (show mix 64 [a0, b0, c0, d0, e0, f0, g0, h0] l = List.zipWith (add 64) V8 S8 from by rw [hS8, hV8]; exact HM.out)
            have HL9 := Lib.hid (show (List.zipWith (add 64) V8 S8).length = 8 from by rw [List.length_zipWith, HVL.out, HSL.out]; rfl)
            clear hS8 hV8 K4 K1 K3 HEQ HOK HQ HST HSB HM
            go_wp2_with fail
            go_loopw [26] (fun i wr' => ∃ k : Nat, k ≤ 8 ∧ i = .int .i64 k ∧ Blk wr' G 66 (natsV .u64 (sumTo 64 V8 S8 k)) ∧ Blk wr' w.heap.size 66 (natsV .u64 S8) ∧ Blk wr' (w.heap.size + 1) 66 (natsV .u64 (zeros 8)) ∧ Below w.heap.size w wr') (fun i _ => 8 - (intOf i).toNat)
            case atStart => exact ⟨0, by omega, rfl, J4.out, J1.out, K2.out, hbel⟩
            case round =>
              clear hbel J4 J1 K2
              obtain ⟨k, hk, rfl, j4, j1, j2, hbel⟩ := hrel
              have J4 := Lib.hid j4
              have J1 := Lib.hid j1
              have J2 := Lib.hid j2
              clear j4 j1 j2
              by_cases h8 : k < 8
              · have hki : (k : Int) < 8 := by omega
                have hl1 := sumTo_length 64 V8 S8 k (by rw [HVL.out, HSL.out]) (by rw [HVL.out]; omega)
                have c1 := J4.out.nat k (by rw [hl1, HVL.out]; exact h8)
                rw [sumTo_get 64 V8 S8 k (by rw [HVL.out, HSL.out]) (by rw [HVL.out]; exact h8)] at c1
                have c2 := J1.out.nat k (by rw [HSL.out]; exact h8)
                have hf := J4.out.free k
                have HSET := Lib.hid (sumTo_set 64 V8 S8 k (by rw [HVL.out, HSL.out]) (by rw [HVL.out]; exact h8))
                clear hl1
                generalize V8.getD k 0 = vk at *
                generalize S8.getD k 0 = sk at *
                have HTW := Lib.hid (ref_two (.inr rfl) vk sk)
                have s1 := u64_sum vk sk
                have l1 : (vk + sk) % 2 ^ 64 < 2 ^ 64 := Nat.mod_lt _ (by decide)
                generalize (vk + sk) % 2 ^ 64 = A1 at *
                generalize add 64 vk sk = z at *
                have HC1 := Lib.hid (cut64_is A1 z HTW.out l1)
                clear l1
                go_wp2_with fail
                refine wp_region_still_tail 11 (by kernel_rfl) (by kernel_rfl) ?_
                change wpStill _ _ wr.drew _ _ _
                simp only [List.take_succ_cons, List.take_zero, List.drop_succ_cons, List.drop_zero]
                iterate 9 still_step
                still_call (flipC (HC1.out _))
                still_step
                refine wpStill_nil ?_
                change wpList _ _ _ _ _ wr.drew
                clear s1
                go_wp2_with fail
                have j4 := J4.out.natSet k z
                rw [HSET.out] at j4
                have j1 := J1.out.other ⟨G, k, none⟩ (.int .u64 (z : Nat)) (by simp; omega)
                have j2 := J2.out.other ⟨G, k, none⟩ (.int .u64 (z : Nat)) (by simp; omega)
                have hb2 := hbel.setCell (p := ⟨G, k, none⟩) (show w.heap.size ≤ G by omega) (.int .u64 (z : Nat))
                go_roundw
                case rel => exact ⟨k + 1, by omega, by go_num, j4, j1, j2, hb2.drew⟩
                case measure => simp [intOf]; omega
              · obtain rfl : k = 8 := by omega
                rw [sumTo_all 64 V8 S8 HVL.out HSL.out] at J4
                have HL8 := Lib.hid HL9.out
                clear HL9
                generalize List.zipWith (add 64) V8 S8 = m8 at *
                rw [show ((8 : Nat) : Int) = 8 from rfl]
                go_wp2_with (first | (refine wpList_load_row rfl 66 (.tmp 17) rfl G rfl 66 (natsV .u64 m8).toArray (0, 0) _ J4.out Tryd.underlying66 rfl (by rw [info66, size_nats, HL8.out]) ?_) | (refine wpList_store_row rfl 66 (.tmp 6) (.tmp 236) rfl (w.heap.size + 1) (natsV .u64 m8).toArray rfl rfl 66 (natsV .u64 (zeros 8)).toArray J2.out (by rw [info66, size_nats, HL8.out]) (by rw [size_nats, size_nats, HL8.out]; rfl) (all_nats _ _) ?_))
                have j2 := J2.out.setRow (natsV .u64 m8)
                have hb2 := below_setRow' hbel (show w.heap.size ≤ w.heap.size + 1 by omega) (natsV .u64 m8).toArray
                refine bodyPost_ret (v := .agg (natsV .u64 m8).toArray) ?_ rfl ⟨by rw [HM8.out], hb2⟩
                exact results_cell_row Tryd.results54 _ _ (w.heap.size + 1) 66 _ (0, 0) _ rfl j2 Tryd.underlying66 rfl (by rw [info66, size_nats, HL8.out])
end Go.Proofs.YtnikhnpigopihaaDoor
