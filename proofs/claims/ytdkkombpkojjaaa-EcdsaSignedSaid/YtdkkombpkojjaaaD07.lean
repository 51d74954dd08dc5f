/- Parts of proofs of statements, each text behind those that it stands on. No condition of its own. -/
import Derived.Test.YtdkkombpkojjaaaD03
namespace Go.Proofs.Ytdkkombpkojjaaa
set_option maxRecDepth 100000
set_option maxHeartbeats 1600000
open Go.RowKit
set_option linter.unusedVariables false
set_option linter.unusedSimpArgs false
theorem stepsOf_any (n : Int) (w : World) (h0 : -9223372036854775808 ≤ n) (h1 : n < 9223372036854775808) : Calls Try.prog 95 #[.int .i64 n] w fun e w' => e = .returned (.tuple #[.int .i64 (n.toNat / 64 : Nat), .int .i64 (n.toNat % 64 : Nat)]) ∧ w = w' := by
 by_cases hn : n < 0
 · have hm : max n 0 = 0 := by omega
   rw [show n.toNat = 0 by omega]
   have hm2 : max 0 n = 0 := by omega
   go_enter Try.func95, Try.ntmps95
   go_wp2_with fail
   go_ret2
   exact ⟨rfl, rfl⟩
 · obtain ⟨k, rfl⟩ := Int.eq_ofNat_of_zero_le (show 0 ≤ n by omega)
   have hm : max (k : Int) 0 = k := by omega
   have hm2 : max 0 (k : Int) = k := by omega
   rw [show (k : Int).toNat = k by omega]
   go_enter Try.func95, Try.ntmps95
   go_wp2_with fail
   go_ret2
   exact ⟨by simp, rfl⟩
theorem wordOf_any (x : Nat) (j : Int) (w : World) (hx : x < 2 ^ 256) (h0 : -9223372036854775808 ≤ j) (h1 : j < 9223372036854775808) : Calls Try.prog 96 #[.agg (natsV .u64 (wds 4 x)).toArray, .int .i64 j] w fun e w' => e = .returned (.int .u64 (wz x j : Nat)) ∧ Below w.heap.size w w' := by
 have HX4 := Hd (fun j (h : 4 ≤ j) => dgt_high (B := 2 ^ 64) (x := x) (n := 4) (by decide) (by rw [← Nat.pow_mul]; exact hx) h)
 have LA := Hd (wds_len 4 x)
 have AA := Hd (wds_at 4 x)
 generalize wds 4 x = la at *
 have B1 := Hd (Blk.new w 24 (natsV .u64 la))
 have BEL := Hd ((Below.refl w.heap.size w).alloc (Nat.le_refl _) (.cells (natsV .u64 la).toArray 24))
 have hbel := BEL.out
 by_cases hneg : j < 0
 · rw [wz_neg x j hneg]
   go_enter Try.func96, Try.ntmps96
   go_wp2_with fail
   go_ret
   exact ⟨rfl, hbel⟩
 · obtain ⟨k, rfl⟩ := Int.eq_ofNat_of_zero_le (show 0 ≤ j by omega)
   rw [wz_nat]
   by_cases hbig : 4 ≤ k
   · have hb2 : (4 : Int) ≤ (k : Int) := by omega
     rw [HX4.out k hbig]
     go_enter Try.func96, Try.ntmps96
     go_wp2_with fail
     go_ret
     exact ⟨rfl, hbel⟩
   · have hk : k < 4 := by omega
     have hki : (k : Int) < 4 := by omega
     have c0 := B1.out.nat k (by rw [LA.out]; omega)
     rw [AA.out k hk] at c0
     generalize dgt (2 ^ 64) x k = y at *
     have h0k : (0 : Int) ≤ (k : Int) := by omega
     clear hx hneg hbig h0 h1 AA HX4 LA
     go_enter Try.func96, Try.ntmps96
     go_wp2_with fail
     go_ret
     exact ⟨rfl, hbel⟩
theorem Shl_any (x : Nat) (n : Int) (w : World) (hx : x < 2 ^ 256) (h0 : -9223372036854775808 ≤ n) (h1 : n < 9223372036854775808) :
   Calls Try.prog 90 #[.agg (natsV .u64 (wds 4 x)).toArray, .int .i64 n] w fun e w' => e = .returned (.agg (natsV .u64 (wds 4 (x * 2 ^ n.toNat))).toArray) ∧ Below w.heap.size w w' := by
 have HST := Hd (fun w => stepsOf_any n w h0 h1)
 have HWO := Hd (fun (j : Int) (w : World) (h0 : -9223372036854775808 ≤ j) (h1 : j < 9223372036854775808) => wordOf_any x j w hx h0 h1)
 have HW := Hd (fun i => shl_word x n.toNat i)
 have hN : n.toNat < 9223372036854775808 := by omega
 have LS := Hd (wds_len 4 (x * 2 ^ n.toNat))
 have HS := Hd (show wds 4 (x * 2 ^ n.toNat) = tell (dgt (2 ^ 64) (x * 2 ^ n.toNat)) 4 from rfl)
 have LA := Hd (wds_len 4 x)
 generalize n.toNat = N at *
 generalize wds 4 (x * 2 ^ N) = ls at *
 generalize wds 4 x = la at *
 have B1 := Hd ((Blk.new w 24 (natsV .u64 la)).alloc (.cells (natsV .u64 (zeros 4)).toArray 24))
 have B2 := Hd (Blk.new2 w (.cells (natsV .u64 la).toArray 24) 24 (natsV .u64 (zeros 4)))
 have BEL := Hd (((Below.refl w.heap.size w).alloc (Nat.le_refl _) (.cells (natsV .u64 la).toArray 24)).alloc (by simp) (.cells (natsV .u64 (zeros 4)).toArray 24))
 have B1b := Hd (B1.out.alloc (.cells (natsV .u64 (zeros 4)).toArray 24))
 have B2b := Hd (B2.out.alloc (.cells (natsV .u64 (zeros 4)).toArray 24))
 have B3 := Hd (Blk.new3 w (.cells (natsV .u64 la).toArray 24) (.cells (natsV .u64 (zeros 4)).toArray 24) 24 (natsV .u64 (zeros 4)))
 have BELb := Hd (BEL.out.alloc (by simp; omega) (.cells (natsV .u64 (zeros 4)).toArray 24))
 obtain ⟨q, hq⟩ : ∃ q, q = N / 64 := ⟨_, rfl⟩
 obtain ⟨r, hr⟩ : ∃ r, r = N % 64 := ⟨_, rfl⟩
 rw [← hq, ← hr] at HST HW
 have hq1 : q < 144115188075855872 := by omega
 have hr1 : r < 64 := by omega
 clear hq hr hN h0 h1 B1 B2 BEL
 go_enter Try.func90, Try.ntmps90
 go_wp2_with fail
 refine (HST.out _).mono ?_
 rintro e w1 ⟨rfl, rfl⟩
 clear HST
 go_wp2_with fail
 go_loopw [14] (fun i wr => ∃ t : Nat, t ≤ 4 ∧ i = .int .i64 t ∧ Blk wr w.heap.size 24 (natsV .u64 la) ∧ Blk wr (w.heap.size + 1) 24 (natsV .u64 (zeros 4)) ∧ Blk wr (w.heap.size + 1 + 1) 24 (natsV .u64 (tell (dgt (2 ^ 64) (x * 2 ^ N)) t ++ zeros (4 - t))) ∧ Below w.heap.size w wr) (fun i _ => 4 - (intOf i).toNat)
 case atStart => exact ⟨0, by omega, rfl, B1b.out, B2b.out, B3.out, BELb.out⟩
 case round =>
   clear B1b B2b B3 BELb
   obtain ⟨t, ht, rfl, k1, k2, k3, hbel⟩ := hrel
   have K1 := Hd k1
   have K2 := Hd k2
   have K3 := Hd k3
   clear k1 k2 k3
   by_cases h5 : t < 4
   · as_aux_lemma =>
     have hti : (t : Int) < 4 := by omega
     have HSET := Hd (fill_tell (dgt (2 ^ 64) (x * 2 ^ N)) 4 t h5)
     have HD := Hd (HW.out t)
     obtain ⟨z, hz⟩ : ∃ z : Int, z = (t : Int) - (q : Int) := ⟨_, rfl⟩
     obtain ⟨y, hy⟩ : ∃ y : Int, y = z - 1 := ⟨_, rfl⟩
     rw [← hz, ← hy] at HD
     obtain ⟨m, hm⟩ : ∃ m : Nat, m = 64 - r := ⟨_, rfl⟩
     rw [← hm] at HD
     have e1 : IntKind.i64.wrap ((t : Int) - (q : Int)) = z := by rw [IntWalk.i64_in _ (by omega)]; omega
     have e1b : (t : Int) - (q : Int) = z := by omega
     have e2 : IntKind.i64.wrap (z - 1) = y := by rw [IntWalk.i64_in _ (by omega)]; omega
     have e2b : z - 1 = y := by omega
     have e3 : IntKind.i64.wrap (64 - (r : Int)) = (m : Int) := by rw [IntWalk.i64_in _ (by omega)]; omega
     have e3b : 64 - (r : Int) = (m : Int) := by omega
     have HC1 := Hd (fun w => HWO.out z w (by omega) (by omega))
     have HC2 := Hd (fun w => HWO.out y w (by omega) (by omega))
     have hm64 : m ≤ 64 := by omega
     have HL1 := wz_lt x z
     have HL2 := wz_lt x y
     clear hz hy hm e1b e2b e3b
     obtain ⟨A, hA⟩ : ∃ A : Nat, A = wz x z * 2 ^ r % 2 ^ 64 := ⟨_, rfl⟩
     obtain ⟨B, hB⟩ : ∃ B : Nat, B = wz x y / 2 ^ m := ⟨_, rfl⟩
     have rA : IntKind.u64.wrap (((wz x z : Nat) : Int) * 2 ^ r) = (A : Int) := by rw [hA, cast_pow, ← Int.natCast_mul, u64_cut]
     have rB : ((wz x y : Nat) : Int) / 2 ^ m = (B : Int) := by rw [hB]; simp
     have rC : bits .or .u64 (A : Int) (B : Int) = ((A ||| B : Nat) : Int) := u64_or_nat A B (by rw [hA]; exact Nat.mod_lt _ (by decide)) (by rw [hB]; exact Nat.lt_of_le_of_lt (Nat.div_le_self _ _) HL2)
     rw [← hA, ← hB] at HD
     rw [← HD.out] at rC
     clear hA hB
     generalize dgt (2 ^ 64) (x * 2 ^ N) t = sv at *
     generalize wz x z = p1 at *
     generalize wz x y = p2 at *
     have u25 := Try.underlying24
     have i25 : (Try.prog.info? 24).map (·.size) = some (natsV .u64 la).length := by rw [info24, natsV_length, LA.out]
     go_wp2_with fail
     refine wp_region_held_drew (S := (fun w' => w'.rangeAt w.heap.size 0 (natsV .u64 la))) (by kernel_rfl) (blk_range K1.out.drew) (fun hHeld => ?_)
     refine th1 0 rfl hHeld ?_
     try simp only [Act.put, zq]
     refine th0 1 rfl (yieldsIf_load_mid (by rfl) _ _ rfl _ _ rfl _ _ (by intro w hSw; exact hSw) u25 rfl i25) hHeld ?_
     try simp only [Act.put, zq]
     refine th1 2 rfl hHeld ?_
     try simp only [Act.put, zq]
     refine th1 3 rfl hHeld ?_
     try simp only [Act.put, zq]
     refine th1 4 rfl hHeld ?_
     try simp only [Act.put, zq]
     refine th1 6 rfl hHeld ?_
     try simp only [Act.put, zq]
     refine th0 8 rfl (yieldsIf_load_mid (by rfl) _ _ rfl _ _ rfl _ _ (by intro w hSw; exact hSw) u25 rfl i25) hHeld ?_
     try simp only [Act.put, zq]
     refine th1 9 rfl hHeld ?_
     try simp only [Act.put, zq]
     refine th1 10 rfl hHeld ?_
     try simp only [Act.put, zq]
     refine th1 11 rfl hHeld ?_
     try simp only [Act.put, zq]
     refine th1 12 rfl hHeld ?_
     try simp only [Act.put, zq]
     refine th1 14 rfl hHeld ?_
     try simp only [Act.put, zq]
     refine th1 15 rfl hHeld ?_
     try simp only [Act.put, zq]
     refine wpAnyH_ready (rs := [5]) (by kernel_rfl) (by simp) ?_
     refine AllReadyH.cons (o := _) rfl (fun K hK => ?_) AllReadyH.nil
     go_simp
     go_at_call 96
     refine (HC1.out _).mono ?_
     rintro e wx1 ⟨rfl, hbx1⟩
     refine hK.out _ _ (range_keep hHeld hbx1) (fun hHeld2 => ?_)
     clear hK K hHeld
     have hHeld := hHeld2
     clear hHeld2
     try simp only [Act.put, zq]
     refine th1 7 rfl hHeld ?_
     try simp only [Act.put, zq]
     refine wpAnyH_ready (rs := [13]) (by kernel_rfl) (by simp) ?_
     refine AllReadyH.cons (o := _) rfl (fun K hK => ?_) AllReadyH.nil
     go_simp
     go_at_call 96
     refine (HC2.out _).mono ?_
     rintro e wx2 ⟨rfl, hbx2⟩
     refine hK.out _ _ (range_keep hHeld hbx2) (fun hHeld2 => ?_)
     clear hK K hHeld
     have hHeld := hHeld2
     clear hHeld2
     try simp only [Act.put, zq]
     refine th1 16 rfl hHeld ?_
     try simp only [Act.put, zq]
     refine th1 17 rfl hHeld ?_
     try simp only [Act.put, zq]
     refine th1 18 rfl hHeld ?_
     try simp only [Act.put, zq]
     have hb2 : Below w.heap.size w wx2 := (hbel.drew.trans (hbx1.mono (by have := hbel.size; simp; omega))).trans (hbx2.mono (by have := hbel.size; have := hbx1.size; simp at *; omega))
     have J1 := Hd ((K1.out.drew.below' hbx1).below' hbx2)
     have J2 := Hd ((K2.out.drew.below' hbx1).below' hbx2)
     have J3 := Hd ((K3.out.drew.below' hbx1).below' hbx2)
     have c3 := J3.out.nat t (by simp [tell_length, zeros]; omega)
     have f3 := J3.out.free t
     clear hbx1 hbx2 hbel K1 K2 K3
     refine wpAnyH_ready (rs := [19]) (by kernel_rfl) (by simp) ?_
     refine AllReadyH.cons (o := _) rfl (fun K hK => ?_) AllReadyH.nil
     go_simp
     refine hK.out _ _ ?_ (fun _ => ?_)
     · exact blk_range (J1.out.other ⟨w.heap.size + 1 + 1, t, none⟩ (.int .u64 (sv : Nat)) (by simp; omega))
     refine wpAnyH_done (by kernel_rfl) ?_ _
     clear hK K c3 f3 e1 e2 e3 rA rB rC
     have n1 := J1.out.other ⟨w.heap.size + 1 + 1, t, none⟩ (.int .u64 (sv : Nat)) (by simp; omega)
     have n2 := J2.out.other ⟨w.heap.size + 1 + 1, t, none⟩ (.int .u64 (sv : Nat)) (by simp)
     have n3 := J3.out.natSet t sv
     have hb3 := hb2.setCell (p := ⟨w.heap.size + 1 + 1, t, none⟩) (by simp; omega) (.int .u64 (sv : Nat))
     rw [HSET.out] at n3
     have N1 := Hd n1
     have N2 := Hd n2
     have N3 := Hd n3
     clear n1 n2 n3 J1 J2 J3 hb2 hHeld
     go_wp2_with fail
     go_roundw
     case rel => exact ⟨t + 1, by omega, by go_num, N1.out, N2.out, N3.out, hb3⟩
     case measure => simp [intOf] <;> omega
   · obtain rfl : t = 4 := by omega
     rw [show ((4 : Nat) : Int) = 4 from rfl]
     have LE := Hd (show tell (dgt (2 ^ 64) (x * 2 ^ N)) 4 ++ zeros (4 - 4) = ls by rw [HS.out]; simp [zeros])
     rw [LE.out] at K3
     have j2 := K2.out.setRow (natsV .u64 ls)
     have hb2 := below_setRow' hbel (show w.heap.size ≤ w.heap.size + 1 by omega) (natsV .u64 ls).toArray
     go_wp2_with (first | (refine ld24 rfl (.tmp 7) rfl (w.heap.size + 1 + 1) rfl ls K3.out LS.out ?_) | (refine st24 rfl (.tmp 4) (.tmp 37) rfl (w.heap.size + 1) rfl ls rfl LS.out (zeros 4) K2.out rfl ?_))
     refine bodyPost_ret (v := .agg (natsV .u64 ls).toArray) ?_ rfl ⟨rfl, hb2⟩
     exact ret24 Try.results90 _ _ (w.heap.size + 1) ls rfl j2 LS.out
theorem Shr_any (x : Nat) (n : Int) (w : World) (hx : x < 2 ^ 256) (h0 : -9223372036854775808 ≤ n) (h1 : n < 9223372036854775808) :
   Calls Try.prog 93 #[.agg (natsV .u64 (wds 4 x)).toArray, .int .i64 n] w fun e w' => e = .returned (.agg (natsV .u64 (wds 4 (x / 2 ^ n.toNat))).toArray) ∧ Below w.heap.size w w' := by
 have HST := Hd (fun w => stepsOf_any n w h0 h1)
 have HWO := Hd (fun (j : Int) (w : World) (h0 : -9223372036854775808 ≤ j) (h1 : j < 9223372036854775808) => wordOf_any x j w hx h0 h1)
 have HW := Hd (fun i => shr_word x n.toNat i)
 have hN : n.toNat < 9223372036854775808 := by omega
 have LS := Hd (wds_len 4 (x / 2 ^ n.toNat))
 have HS := Hd (show wds 4 (x / 2 ^ n.toNat) = tell (dgt (2 ^ 64) (x / 2 ^ n.toNat)) 4 from rfl)
 have LA := Hd (wds_len 4 x)
 generalize n.toNat = N at *
 generalize wds 4 (x / 2 ^ N) = ls at *
 generalize wds 4 x = la at *
 have B1 := Hd ((Blk.new w 24 (natsV .u64 la)).alloc (.cells (natsV .u64 (zeros 4)).toArray 24))
 have B2 := Hd (Blk.new2 w (.cells (natsV .u64 la).toArray 24) 24 (natsV .u64 (zeros 4)))
 have BEL := Hd (((Below.refl w.heap.size w).alloc (Nat.le_refl _) (.cells (natsV .u64 la).toArray 24)).alloc (by simp) (.cells (natsV .u64 (zeros 4)).toArray 24))
 have B1b := Hd (B1.out.alloc (.cells (natsV .u64 (zeros 4)).toArray 24))
 have B2b := Hd (B2.out.alloc (.cells (natsV .u64 (zeros 4)).toArray 24))
 have B3 := Hd (Blk.new3 w (.cells (natsV .u64 la).toArray 24) (.cells (natsV .u64 (zeros 4)).toArray 24) 24 (natsV .u64 (zeros 4)))
 have BELb := Hd (BEL.out.alloc (by simp; omega) (.cells (natsV .u64 (zeros 4)).toArray 24))
 obtain ⟨q, hq⟩ : ∃ q, q = N / 64 := ⟨_, rfl⟩
 obtain ⟨r, hr⟩ : ∃ r, r = N % 64 := ⟨_, rfl⟩
 rw [← hq, ← hr] at HST HW
 have hq1 : q < 144115188075855872 := by omega
 have hr1 : r < 64 := by omega
 clear hq hr hN h0 h1 B1 B2 BEL
 go_enter Try.func93, Try.ntmps93
 go_wp2_with fail
 refine (HST.out _).mono ?_
 rintro e w1 ⟨rfl, rfl⟩
 clear HST
 go_wp2_with fail
 go_loopw [14] (fun i wr => ∃ t : Nat, t ≤ 4 ∧ i = .int .i64 t ∧ Blk wr w.heap.size 24 (natsV .u64 la) ∧ Blk wr (w.heap.size + 1) 24 (natsV .u64 (zeros 4)) ∧ Blk wr (w.heap.size + 1 + 1) 24 (natsV .u64 (tell (dgt (2 ^ 64) (x / 2 ^ N)) t ++ zeros (4 - t))) ∧ Below w.heap.size w wr) (fun i _ => 4 - (intOf i).toNat)
 case atStart => exact ⟨0, by omega, rfl, B1b.out, B2b.out, B3.out, BELb.out⟩
 case round =>
   clear B1b B2b B3 BELb
   obtain ⟨t, ht, rfl, k1, k2, k3, hbel⟩ := hrel
   have K1 := Hd k1
   have K2 := Hd k2
   have K3 := Hd k3
   clear k1 k2 k3
   by_cases h5 : t < 4
   · as_aux_lemma =>
     have hti : (t : Int) < 4 := by omega
     have HSET := Hd (fill_tell (dgt (2 ^ 64) (x / 2 ^ N)) 4 t h5)
     have HD := Hd (HW.out t)
     obtain ⟨z, hz⟩ : ∃ z : Int, z = (t : Int) + (q : Int) := ⟨_, rfl⟩
     obtain ⟨y, hy⟩ : ∃ y : Int, y = z + 1 := ⟨_, rfl⟩
     rw [← hz, ← hy] at HD
     obtain ⟨m, hm⟩ : ∃ m : Nat, m = 64 - r := ⟨_, rfl⟩
     rw [← hm] at HD
     have e1 : IntKind.i64.wrap ((t : Int) + (q : Int)) = z := by rw [IntWalk.i64_in _ (by omega)]; omega
     have e1b : (t : Int) + (q : Int) = z := by omega
     have e2 : IntKind.i64.wrap (z + 1) = y := by rw [IntWalk.i64_in _ (by omega)]; omega
     have e2b : z + 1 = y := by omega
     have e3 : IntKind.i64.wrap (64 - (r : Int)) = (m : Int) := by rw [IntWalk.i64_in _ (by omega)]; omega
     have e3b : 64 - (r : Int) = (m : Int) := by omega
     have HC1 := Hd (fun w => HWO.out z w (by omega) (by omega))
     have HC2 := Hd (fun w => HWO.out y w (by omega) (by omega))
     have hm64 : m ≤ 64 := by omega
     have HL1 := wz_lt x z
     have HL2 := wz_lt x y
     clear hz hy hm e1b e2b e3b
     obtain ⟨A, hA⟩ : ∃ A : Nat, A = wz x z / 2 ^ r := ⟨_, rfl⟩
     obtain ⟨B, hB⟩ : ∃ B : Nat, B = wz x y * 2 ^ m % 2 ^ 64 := ⟨_, rfl⟩
     have rA : ((wz x z : Nat) : Int) / 2 ^ r = (A : Int) := by rw [hA]; simp
     have rB : IntKind.u64.wrap (((wz x y : Nat) : Int) * 2 ^ m) = (B : Int) := by rw [hB, cast_pow, ← Int.natCast_mul, u64_cut]
     have rC : bits .or .u64 (A : Int) (B : Int) = ((A ||| B : Nat) : Int) := u64_or_nat A B (by rw [hA]; exact Nat.lt_of_le_of_lt (Nat.div_le_self _ _) HL1) (by rw [hB]; exact Nat.mod_lt _ (by decide))
     rw [← hA, ← hB] at HD
     rw [← HD.out] at rC
     clear hA hB
     generalize dgt (2 ^ 64) (x / 2 ^ N) t = sv at *
     generalize wz x z = p1 at *
     generalize wz x y = p2 at *
     have u25 := Try.underlying24
     have i25 : (Try.prog.info? 24).map (·.size) = some (natsV .u64 la).length := by rw [info24, natsV_length, LA.out]
     go_wp2_with fail
     refine wp_region_held_drew (S := (fun w' => w'.rangeAt w.heap.size 0 (natsV .u64 la))) (by kernel_rfl) (blk_range K1.out.drew) (fun hHeld => ?_)
     refine th1 0 rfl hHeld ?_
     try simp only [Act.put, zq]
     refine th0 1 rfl (yieldsIf_load_mid (by rfl) _ _ rfl _ _ rfl _ _ (by intro w hSw; exact hSw) u25 rfl i25) hHeld ?_
     try simp only [Act.put, zq]
     refine th1 2 rfl hHeld ?_
     try simp only [Act.put, zq]
     refine th1 3 rfl hHeld ?_
     try simp only [Act.put, zq]
     refine th1 4 rfl hHeld ?_
     try simp only [Act.put, zq]
     refine th1 6 rfl hHeld ?_
     try simp only [Act.put, zq]
     refine th0 8 rfl (yieldsIf_load_mid (by rfl) _ _ rfl _ _ rfl _ _ (by intro w hSw; exact hSw) u25 rfl i25) hHeld ?_
     try simp only [Act.put, zq]
     refine th1 9 rfl hHeld ?_
     try simp only [Act.put, zq]
     refine th1 10 rfl hHeld ?_
     try simp only [Act.put, zq]
     refine th1 11 rfl hHeld ?_
     try simp only [Act.put, zq]
     refine th1 12 rfl hHeld ?_
     try simp only [Act.put, zq]
     refine th1 14 rfl hHeld ?_
     try simp only [Act.put, zq]
     refine th1 15 rfl hHeld ?_
     try simp only [Act.put, zq]
     refine wpAnyH_ready (rs := [5]) (by kernel_rfl) (by simp) ?_
     refine AllReadyH.cons (o := _) rfl (fun K hK => ?_) AllReadyH.nil
     go_simp
     go_at_call 96
     refine (HC1.out _).mono ?_
     rintro e wx1 ⟨rfl, hbx1⟩
     refine hK.out _ _ (range_keep hHeld hbx1) (fun hHeld2 => ?_)
     clear hK K hHeld
     have hHeld := hHeld2
     clear hHeld2
     try simp only [Act.put, zq]
     refine th1 7 rfl hHeld ?_
     try simp only [Act.put, zq]
     refine wpAnyH_ready (rs := [13]) (by kernel_rfl) (by simp) ?_
     refine AllReadyH.cons (o := _) rfl (fun K hK => ?_) AllReadyH.nil
     go_simp
     go_at_call 96
     refine (HC2.out _).mono ?_
     rintro e wx2 ⟨rfl, hbx2⟩
     refine hK.out _ _ (range_keep hHeld hbx2) (fun hHeld2 => ?_)
     clear hK K hHeld
     have hHeld := hHeld2
     clear hHeld2
     try simp only [Act.put, zq]
     refine th1 16 rfl hHeld ?_
     try simp only [Act.put, zq]
     refine th1 17 rfl hHeld ?_
     try simp only [Act.put, zq]
     refine th1 18 rfl hHeld ?_
     try simp only [Act.put, zq]
     have hb2 : Below w.heap.size w wx2 := (hbel.drew.trans (hbx1.mono (by have := hbel.size; simp; omega))).trans (hbx2.mono (by have := hbel.size; have := hbx1.size; simp at *; omega))
     have J1 := Hd ((K1.out.drew.below' hbx1).below' hbx2)
     have J2 := Hd ((K2.out.drew.below' hbx1).below' hbx2)
     have J3 := Hd ((K3.out.drew.below' hbx1).below' hbx2)
     have c3 := J3.out.nat t (by simp [tell_length, zeros]; omega)
     have f3 := J3.out.free t
     clear hbx1 hbx2 hbel K1 K2 K3
     refine wpAnyH_ready (rs := [19]) (by kernel_rfl) (by simp) ?_
     refine AllReadyH.cons (o := _) rfl (fun K hK => ?_) AllReadyH.nil
     go_simp
     refine hK.out _ _ ?_ (fun _ => ?_)
     · exact blk_range (J1.out.other ⟨w.heap.size + 1 + 1, t, none⟩ (.int .u64 (sv : Nat)) (by simp; omega))
     refine wpAnyH_done (by kernel_rfl) ?_ _
     clear hK K c3 f3 e1 e2 e3 rA rB rC
     have n1 := J1.out.other ⟨w.heap.size + 1 + 1, t, none⟩ (.int .u64 (sv : Nat)) (by simp; omega)
     have n2 := J2.out.other ⟨w.heap.size + 1 + 1, t, none⟩ (.int .u64 (sv : Nat)) (by simp)
     have n3 := J3.out.natSet t sv
     have hb3 := hb2.setCell (p := ⟨w.heap.size + 1 + 1, t, none⟩) (by simp; omega) (.int .u64 (sv : Nat))
     rw [HSET.out] at n3
     have N1 := Hd n1
     have N2 := Hd n2
     have N3 := Hd n3
     clear n1 n2 n3 J1 J2 J3 hb2 hHeld
     go_wp2_with fail
     go_roundw
     case rel => exact ⟨t + 1, by omega, by go_num, N1.out, N2.out, N3.out, hb3⟩
     case measure => simp [intOf] <;> omega
   · obtain rfl : t = 4 := by omega
     rw [show ((4 : Nat) : Int) = 4 from rfl]
     have LE := Hd (show tell (dgt (2 ^ 64) (x / 2 ^ N)) 4 ++ zeros (4 - 4) = ls by rw [HS.out]; simp [zeros])
     rw [LE.out] at K3
     have j2 := K2.out.setRow (natsV .u64 ls)
     have hb2 := below_setRow' hbel (show w.heap.size ≤ w.heap.size + 1 by omega) (natsV .u64 ls).toArray
     go_wp2_with (first | (refine ld24 rfl (.tmp 7) rfl (w.heap.size + 1 + 1) rfl ls K3.out LS.out ?_) | (refine st24 rfl (.tmp 4) (.tmp 37) rfl (w.heap.size + 1) rfl ls rfl LS.out (zeros 4) K2.out rfl ?_))
     refine bodyPost_ret (v := .agg (natsV .u64 ls).toArray) ?_ rfl ⟨rfl, hb2⟩
     exact ret24 Try.results93 _ _ (w.heap.size + 1) ls rfl j2 LS.out
end Go.Proofs.Ytdkkombpkojjaaa
