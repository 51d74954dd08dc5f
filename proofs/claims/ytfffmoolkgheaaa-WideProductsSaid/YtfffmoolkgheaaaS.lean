/- The project's sum of two numbers and a carry. No condition but the carry's size. -/
import Derived.Test.YtfffmoolkgheaaaA
namespace Go.Proofs.Ytfffmoolkgheaaa
open Go.RowKit
set_option linter.unusedVariables false
set_option maxRecDepth 100000 in
set_option maxHeartbeats 1000000 in
theorem sum_any (a b c : Nat) (w : World) (hc1 : c ≤ 1) :
    Calls Try.prog 90 #[.agg (natsV .u64 (wds 4 a)).toArray, .agg (natsV .u64 (wds 4 b)).toArray, .int .u64 (c : Nat)] w fun e w' => e = .returned (.tuple #[.agg (natsV .u64 (wds 4 (a + b + c))).toArray, .int .i64 (cyA (2 ^ 64) a b c 4 : Nat)]) ∧ Below w.heap.size w w' := by
  have LA := Lib.hid (wds_len 4 a)
  have LB := Lib.hid (wds_len 4 b)
  have AA := Lib.hid (wds_at 4 a)
  have AB := Lib.hid (wds_at 4 b)
  have LS := Lib.hid (wds_len 4 (a + b + c))
  have HS := Lib.hid (show wds 4 (a + b + c) = tell (dgt (2 ^ 64) (a + b + c)) 4 from rfl)
  generalize wds 4 (a + b + c) = ls at *
  generalize wds 4 a = la at *
  generalize wds 4 b = lb at *
  have B1 := Lib.hid (((Blk.new w 24 (natsV .u64 la)).alloc (.cells (natsV .u64 lb).toArray 24)).alloc (.cells (natsV .u64 (zeros 4)).toArray 24) |>.alloc (.cells (natsV .u64 (zeros 4)).toArray 24))
  have B2 := Lib.hid ((Blk.new2 w (.cells (natsV .u64 la).toArray 24) 24 (natsV .u64 lb)).alloc (.cells (natsV .u64 (zeros 4)).toArray 24) |>.alloc (.cells (natsV .u64 (zeros 4)).toArray 24))
  have B3 := Lib.hid ((Blk.new3 w (.cells (natsV .u64 la).toArray 24) (.cells (natsV .u64 lb).toArray 24) 24 (natsV .u64 (zeros 4))).alloc (.cells (natsV .u64 (zeros 4)).toArray 24))
  have B4 := Lib.hid (Blk.new4 w (.cells (natsV .u64 la).toArray 24) (.cells (natsV .u64 lb).toArray 24) (.cells (natsV .u64 (zeros 4)).toArray 24) 24 (natsV .u64 (zeros 4)))
  have BEL := Lib.hid ((((Below.refl w.heap.size w).alloc (Nat.le_refl _) (.cells (natsV .u64 la).toArray 24)).alloc (by simp) (.cells (natsV .u64 lb).toArray 24)).alloc (by simp; omega) (.cells (natsV .u64 (zeros 4)).toArray 24) |>.alloc (by simp; omega) (.cells (natsV .u64 (zeros 4)).toArray 24))
  have C0 := Lib.hid (cyA_zero (2 ^ 64) a b c)
  obtain ⟨cf, hcf⟩ : ∃ cf, cf = cyA (2 ^ 64) a b c 4 := ⟨_, rfl⟩
  rw [← hcf]
  have HCF := Lib.hid hcf
  clear hcf
  go_enter Try.func90, Try.ntmps90
  go_wp2_with fail
  go_loopw [2, 10] (fun cc i wr => ∃ t : Nat, t ≤ 4 ∧ i = .int .i64 t ∧ cc = .int .u64 (cyA (2 ^ 64) a b c t : Nat) ∧ Blk wr w.heap.size 24 (natsV .u64 la) ∧ Blk wr (w.heap.size + 1) 24 (natsV .u64 lb) ∧ Blk wr (w.heap.size + 1 + 1) 24 (natsV .u64 (zeros 4)) ∧ Blk wr (w.heap.size + 1 + 1 + 1) 24 (natsV .u64 (tell (dgt (2 ^ 64) (a + b + c)) t ++ zeros (4 - t))) ∧ Below w.heap.size w wr) (fun _ i _ => 4 - (intOf i).toNat)
  case atStart => exact ⟨0, by omega, rfl, by rw [C0.out], B1.out, B2.out, B3.out, B4.out, BEL.out⟩
  case round =>
    clear B1 B2 B3 B4 BEL
    obtain ⟨t, ht, rfl, rfl, k1, k2, k3, k4, hbel⟩ := hrel
    have K1 := Lib.hid k1
    have K2 := Lib.hid k2
    have K3 := Lib.hid k3
    have K4 := Lib.hid k4
    clear k1 k2 k3 k4
    by_cases h5 : t < 4
    · as_aux_lemma =>
      have hti : (t : Int) < 4 := by omega
      have c0 := K1.out.nat t (by rw [LA.out]; omega)
      have c1 := K2.out.nat t (by rw [LB.out]; omega)
      have c2 := K4.out.nat t (by simp [tell_length, zeros]; omega)
      have hf := K4.out.free t
      rw [AA.out t h5] at c0
      rw [AB.out t h5] at c1
      have CL := cyA_le (B := 2 ^ 64) (by decide) a b c t hc1
      have HD := Lib.hid (dgt_sum (B := 2 ^ 64) (by decide) a b c t)
      have HCY := Lib.hid (cyA_succ (B := 2 ^ 64) (by decide) a b c t)
      have HX := dgt_lt (B := 2 ^ 64) (by decide) a t
      have HY := dgt_lt (B := 2 ^ 64) (by decide) b t
      have HXT := Lib.hid (show la.getD t 0 = dgt (2 ^ 64) a t from AA.out t h5)
      have HYT := Lib.hid (show lb.getD t 0 = dgt (2 ^ 64) b t from AB.out t h5)
      have HF := Lib.hid (fill_tell (dgt (2 ^ 64) (a + b + c)) 4 t h5)
      generalize dgt (2 ^ 64) a t = x at *
      generalize dgt (2 ^ 64) b t = y at *
      generalize cyA (2 ^ 64) a b c t = cy at *
      have rx := u64_add
      go_wp2_with fail
      go_region
      all_goals
        clear rx
        have n4 := K4.out.natSet t (add 64 (add 64 x y) cy)
        have n1 := K1.out.other ⟨w.heap.size + 1 + 1 + 1, t, none⟩ (.int .u64 (add 64 (add 64 x y) cy : Nat)) (by simp; omega)
        have n2 := K2.out.other ⟨w.heap.size + 1 + 1 + 1, t, none⟩ (.int .u64 (add 64 (add 64 x y) cy : Nat)) (by simp)
        have n3 := K3.out.other ⟨w.heap.size + 1 + 1 + 1, t, none⟩ (.int .u64 (add 64 (add 64 x y) cy : Nat)) (by simp)
        have hb2 := hbel.setCell (p := ⟨w.heap.size + 1 + 1 + 1, t, none⟩) (by simp; omega) (.int .u64 (add 64 (add 64 x y) cy : Nat))
        have HADD := Lib.hid (show add 64 (add 64 x y) cy = dgt (2 ^ 64) (a + b + c) t by rw [HD.out]; unfold add; omega)
        generalize wr.setCell ⟨w.heap.size + 1 + 1 + 1, t, none⟩ (.int .u64 (add 64 (add 64 x y) cy : Nat)) = W0 at *
        rw [HADD.out] at n4
        rw [HADD.out]
        rw [HF.out] at n4
        have HST := Lib.hid (show (tell (dgt (2 ^ 64) (a + b + c)) (t + 1) ++ zeros (4 - (t + 1))).getD t 0 = dgt (2 ^ 64) (a + b + c) t from fill_get _ _ _ (by omega) _)
        have HCW := Lib.hid (cyW_eq x y cy (dgt (2 ^ 64) (a + b + c) t) HX HY CL HD.out)
        rw [← HCY.out] at HCW
        generalize dgt (2 ^ 64) (a + b + c) t = sv at *
        have N1 := Lib.hid n1.drew
        have N2 := Lib.hid n2.drew
        have N3 := Lib.hid n3.drew
        have N4 := Lib.hid n4.drew
        have hb3 := hb2.drew
        clear n1 n2 n3 n4 hb2 HF c2 hf c0 c1 K1 K2 K3 K4 hbel
        generalize W0.drew = W1 at *
        have c0 := N1.out.nat t (by rw [LA.out]; omega)
        have c1 := N2.out.nat t (by rw [LB.out]; omega)
        have c2 := N4.out.nat t (by simp [tell_length, zeros]; omega)
        have r1 := u64_bo
        have r2 := u64_ba
        have r3 := u64_bd
        rw [HXT.out] at c0
        rw [HYT.out] at c1
        rw [HST.out] at c2
        go_wp2_with fail
        go_quiet (fail)
        clear r1 r2 r3
        go_wp2_with fail
        go_roundw
        case rel => exact ⟨t + 1, by omega, by go_num, by rw [← HCW.out]; unfold cyW; simp, N1.out.drewN _, N2.out.drewN _, N3.out.drewN _, N4.out.drewN _, below_drewN hb3 _⟩
        case measure => simp [intOf]; omega
    · obtain rfl : t = 4 := by omega
      rw [show ((4 : Nat) : Int) = 4 from rfl]
      have LE := Lib.hid (show tell (dgt (2 ^ 64) (a + b + c)) 4 ++ zeros (4 - 4) = ls by rw [HS.out]; simp [zeros])
      rw [LE.out] at K4
      have j2 := K3.out.setRow (natsV .u64 ls)
      have hb2 := below_setRow' hbel (show w.heap.size ≤ w.heap.size + 1 + 1 by omega) (natsV .u64 ls).toArray
      have CL := cyA_le (B := 2 ^ 64) (by decide) a b c 4 hc1
      rw [← HCF.out] at CL ⊢
      go_wp2_with (first | (refine ld24 rfl (.tmp 8) rfl (w.heap.size + 1 + 1 + 1) rfl ls K4.out LS.out ?_) | (refine st24 rfl (.tmp 6) (.tmp 45) rfl (w.heap.size + 1 + 1) rfl ls rfl LS.out (zeros 4) K3.out rfl ?_))
      refine bodyPost_ret (v := .tuple #[.agg (natsV .u64 ls).toArray, .int .i64 (cf : Nat)]) ?_ rfl ⟨rfl, hb2⟩
      exact ret24x Try.results90 _ _ (w.heap.size + 1 + 1) ls _ rfl rfl j2 LS.out
end Go.Proofs.Ytfffmoolkgheaaa
