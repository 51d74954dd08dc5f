/- Parts of proofs of statements, each text behind those that it stands on. No condition of its own. -/
import Derived.Test.YtfffmoolkgheaaaY36
import Derived.Test.YtfffmoolkgheaaaY37
namespace Go.Proofs.Ytfffmoolkgheaaa
open Go.RowKit
set_option linter.unusedVariables false
theorem right_g {n : Nat} [NeZero n] (x b : Fin n) : x * x * x - x - x - x + b = x * x * x - 3 * x + b := by grobner
def rightT (x : FP) : Nat → FP
  | 0 => x * x * x
  | t + 1 => rightT x t - x
theorem d_right (x : FP) : Ans 66 #[.agg (natsV .u64 (nw x)).toArray] (.agg (natsV .u64 (nw (rsF x))).toArray) := fun w => by
  have h := dright (Y := fun t => nw (rightT x t)) (nw_len x) (wds_len 4 mP) (nw_len _) (nw_len bP) (nw_len _) (fun _ => nw_len _) DP_any (d_mod x x) (d_mod _ x) (fun t _ w => d_modS (rightT x t) x w) dB_any (d_modA (rightT x 3) bP) w
  have e : rightT x 3 + bP = rsF x := right_g x bP
  rw [e] at h
  exact h
theorem d_on (x y : Nat) (i : Bool) (hx : x < 2 ^ 256) (hy : y < 2 ^ 256) : Ans 25 #[.agg (pv (wds 4 x) (wds 4 y) i).toArray] (.bool (onB x y i)) := fun w => by
  have less : ∀ a : Nat, a < 2 ^ 256 → Ans 64 #[.agg (natsV .u64 (wds 4 a)).toArray, .agg (natsV .u64 (wds 4 mP)).toArray] (.bool (decide (a < mP))) := fun a ha w => Less_any a mP w ha fld_P.lt
  cases i with
  | true =>
    have h := don_inf (wds_len 4 x) (wds_len 4 y) w
    rw [show decide (wds 4 x = zeros 4 ∧ wds 4 y = zeros 4) = decide (x = 0 ∧ y = 0) from by rw [decide_eq_decide, wds0 hx, wds0 hy]] at h
    exact h
  | false =>
    unfold onB
    rw [if_neg (by decide)]
    have l1 := less x hx
    have l2 := less y hy
    by_cases h1 : x < mP
    · rw [decide_eq_true h1] at l1 ⊢
      rw [Bool.true_and]
      by_cases h2 : y < mP
      · rw [decide_eq_true h2] at l2 ⊢
        rw [Bool.true_and]
        have ex : wds 4 x = nw (fv x) := by unfold nw; rw [fv_val, Nat.mod_eq_of_lt h1]
        have ey : wds 4 y = nw (fv y) := by unfold nw; rw [fv_val, Nat.mod_eq_of_lt h2]
        have h := don_c (wds_len 4 x) (wds_len 4 y) (wds_len 4 mP) (nw_len (fv y * fv y)) (nw_len (rsF (fv x))) DP_any l1 l2 (fun w => by rw [ey]; exact d_mod (fv y) (fv y) w) (fun w => by rw [ex]; exact d_right (fv x) w) w
        rw [show decide (nw (fv y * fv y) = nw (rsF (fv x))) = decide (fv y * fv y = rsF (fv x)) from decide_eq_decide.2 ⟨nw_inj, fun h => by rw [h]⟩] at h
        exact h
      · rw [decide_eq_false h2] at l2 ⊢
        rw [Bool.false_and]
        exact don_b (wds_len 4 x) (wds_len 4 y) (wds_len 4 mP) DP_any l1 l2 w
    · rw [decide_eq_false h1] at l1 ⊢
      rw [Bool.false_and]
      exact don_a (wds_len 4 x) (wds_len 4 y) (wds_len 4 mP) DP_any l1 l2 w
end Go.Proofs.Ytfffmoolkgheaaa
namespace Go.Proofs.Ytfffmoolkgheaaa
open Go.RowKit
set_option linter.unusedVariables false
set_option linter.unusedSimpArgs false
theorem num_zero0 : wds 4 0 = zeros 4 := by decide +kernel
theorem placeOf_any (n : Nat) (w : World) (hn : n < 256) : Calls Try.prog 106 #[.int .i64 (n : Nat)] w fun e w' => e = .returned (.tuple #[.int .i64 (n / 8 : Nat), .int .i64 (8 * (n % 8) : Nat)]) ∧ w = w' := by
  go_enter Try.func106, Try.ntmps106
  go_wp2_with fail
  go_ret2
  exact ⟨by simp, rfl⟩
set_option maxRecDepth 100000 in
set_option maxHeartbeats 1600000 in
theorem numberOf_any (A : Option Addr) (n c : Nat) (l : List Nat) (w : World) (hn : n ≤ 32) (h : BIn w A n c l) :
    Calls Try.prog 129 #[.slice A n c] w fun e w' => e = .returned (.agg (natsV .u64 (wds 4 (be l))).toArray) ∧ Below w.heap.size w w' := by
  have HIN := Lib.hid h
  have HLEN := Lib.hid h.1.1
  have HLT := Lib.hid h.1.2.2.1
  clear h
  have LS := Lib.hid (wds_len 4 (be l))
  have HU0 := Lib.hid (show tell (dgt (2 ^ 64) (upTo l 0)) 4 = zeros 4 by rw [upTo_zero]; rfl)
  have HU1 := Lib.hid (show tell (dgt (2 ^ 64) (upTo l n)) 4 = wds 4 (be l) by rw [← HLEN.out, upTo_all]; rfl)
  have HUS := Lib.hid (fun t (ht : t < n) (hv : l.getD t 0 < 256) => upTo_word l t (by rw [HLEN.out]; exact ht) hv (by rw [HLEN.out]; exact hn))
  rw [HLEN.out] at HUS
  generalize wds 4 (be l) = ls at *
  have B1 := Lib.hid ((Blk.new w 24 (natsV .u64 (zeros 4))).alloc (.cells (natsV .u64 (zeros 4)).toArray 24))
  have B2 := Lib.hid (Blk.new2 w (.cells (natsV .u64 (zeros 4)).toArray 24) 24 (natsV .u64 (zeros 4)))
  have BEL := Lib.hid (((Below.refl w.heap.size w).alloc (Nat.le_refl _) (.cells (natsV .u64 (zeros 4)).toArray 24)).alloc (by simp) (.cells (natsV .u64 (zeros 4)).toArray 24))
  go_enter Try.func129, Try.ntmps129
  go_wp2_with fail
  go_loopw [10] (fun i wr => ∃ t : Nat, t ≤ n ∧ i = .int .i64 t ∧ Blk wr w.heap.size 24 (natsV .u64 (zeros 4)) ∧ Blk wr (w.heap.size + 1) 24 (natsV .u64 (tell (dgt (2 ^ 64) (upTo l t)) 4)) ∧ Below w.heap.size w wr) (fun i _ => n - (intOf i).toNat)
  case atStart => exact ⟨0, by omega, rfl, B1.out, by rw [HU0.out]; exact B2.out, BEL.out⟩
  case round =>
    clear B1 B2 BEL HU0
    obtain ⟨t, ht, rfl, k1, k2, hbel⟩ := hrel
    have K1 := Lib.hid k1
    have K2 := Lib.hid k2
    clear k1 k2
    by_cases h5 : t < n
    · as_aux_lemma =>
      have hti : (t : Int) < (n : Int) := by omega
      obtain ⟨b0, o0, rfl, hc⟩ := HIN.out.1.2.2.2.resolve_left (by omega)
      have c0 := (hbel.cell (World.block_lt_of_cell? w _ (hc t h5))).trans (hc t h5)
      have hlt := getD_lt HLT.out t
      have HUT := Lib.hid (HUS.out t h5 hlt)
      clear hc
      obtain ⟨p, hp⟩ : ∃ p, p = n - 1 - t := ⟨_, rfl⟩
      rw [← hp] at HUT
      have e1 : IntKind.i64.wrap ((n : Int) - 1) = (n : Int) - 1 := IntWalk.i64_in _ (by omega)
      have e2 : (n : Int) - 1 - (t : Int) = (p : Int) := by omega
      have HPL := Lib.hid (fun w => placeOf_any p w (by omega))
      obtain ⟨j, hj⟩ : ∃ j, j = p / 8 := ⟨_, rfl⟩
      obtain ⟨s, hs⟩ : ∃ s, s = 8 * (p % 8) := ⟨_, rfl⟩
      rw [← hj, ← hs] at HPL HUT
      have hj4 : j < 4 := by omega
      have hji : (j : Int) < 4 := by omega
      have hs64 : s < 57 := by omega
      clear hj hs hp e1
      generalize l.getD t 0 = v at *
      have c1 := K2.out.nat j (by rw [tell_length]; exact hj4)
      have f1 := K2.out.free j
      rw [tell_getD _ _ _ hj4] at c1
      have HD := dgt_lt (B := 2 ^ 64) (by decide) (upTo l t) j
      obtain ⟨d, hd⟩ : ∃ d, d = dgt (2 ^ 64) (upTo l t) j := ⟨_, rfl⟩
      rw [← hd] at c1 HD HUT
      have HDD := Lib.hid hd
      clear hd
      obtain ⟨u, hu⟩ : ∃ u, u = v * 2 ^ s := ⟨_, rfl⟩
      rw [← hu] at HUT
      have hul : u < 2 ^ 64 := by
        rw [hu]
        have h1 : v * 2 ^ s < 2 ^ 8 * 2 ^ s := Nat.mul_lt_mul_of_pos_right hlt (Nat.two_pow_pos s)
        rw [← Nat.pow_add] at h1
        exact Nat.lt_of_lt_of_le h1 (Nat.pow_le_pow_right (by decide) (by omega))
      have r1 : IntKind.u64.wrap ((v : Int) * 2 ^ s) = (u : Int) := by rw [cast_pow, ← Int.natCast_mul, ← hu, u64_cut, Nat.mod_eq_of_lt hul]
      have r1b : IntKind.u64.wrap (v : Int) = (v : Int) := by rw [u64_cut, Nat.mod_eq_of_lt (by omega)]
      obtain ⟨nv, hnv⟩ : ∃ nv, nv = d ||| u := ⟨_, rfl⟩
      rw [← hnv] at HUT
      have r2 : bits .or .u64 (d : Int) (u : Int) = (nv : Int) := by rw [hnv]; exact u64_or_nat d u HD hul
      clear hu hnv hul
      go_wp2_with fail
      refine (HPL.out _).mono ?_
      rintro e w1 ⟨rfl, rfl⟩
      go_wp2_with fail
      go_region
      all_goals
        clear r1 r1b r2 c1 f1 c0 e2
        have n1 := K1.out.other ⟨w.heap.size + 1, j, none⟩ (.int .u64 (nv : Nat)) (by simp)
        have n2 := K2.out.natSet j nv
        have hb2 := hbel.setCell (p := ⟨w.heap.size + 1, j, none⟩) (by simp) (.int .u64 (nv : Nat))
        rw [HUT.out] at n2
        have N1 := Lib.hid n1.drew
        have N2 := Lib.hid n2.drew
        have hb3 := hb2.drew
        clear n1 n2 K1 K2 hb2 hbel
        go_wp2_with fail
        go_roundw
        case rel => exact ⟨t + 1, by omega, by go_num, N1.out, N2.out, hb3⟩
        case measure => simp [intOf] <;> omega
    · obtain rfl : t = n := by omega
      rw [HU1.out] at K2
      have j2 := K1.out.setRow (natsV .u64 ls)
      have hb2 := below_setRow' hbel (Nat.le_refl _) (natsV .u64 ls).toArray
      go_wp2_with (first | (refine ld24 rfl (.tmp 3) rfl (w.heap.size + 1) rfl ls K2.out LS.out ?_) | (refine st24 rfl (.tmp 2) (.tmp 34) rfl w.heap.size rfl ls rfl LS.out (zeros 4) K1.out rfl ?_))
      refine bodyPost_ret (v := .agg (natsV .u64 ls).toArray) ?_ rfl ⟨rfl, hb2⟩
      exact ret24 Try.results129 _ _ w.heap.size ls rfl j2 LS.out
def ofE (n : Nat) : Int := if n = 32 then 0 else 41
def ofV (n : Nat) (l : List Nat) : Nat := if n = 32 then be l else 0
set_option maxRecDepth 100000 in
set_option maxHeartbeats 800000 in
theorem Of_any (A : Option Addr) (n c : Nat) (l : List Nat) (w : World) (hn : n ≤ 140737488355328) (h : BIn w A n c l) :
    Calls Try.prog 112 #[.slice A n c] w fun e w' => e = .returned (.tuple #[.agg (natsV .u64 (wds 4 (ofV n l))).toArray, .int .i64 (ofE n)]) ∧ Below w.heap.size w w' := by
  have HIN := Lib.hid h
  clear h
  by_cases h32 : n = 32
  · subst h32
    have HN := Lib.hid (fun (w : World) (h : BIn w A 32 c l) => numberOf_any A 32 c l w (by omega) h)
    rw [show ofV 32 l = be l from rfl, show ofE 32 = 0 from rfl]
    have LS := Lib.hid (wds_len 4 (be l))
    generalize wds 4 (be l) = ls at *
    have B1 := Lib.hid (Blk.new w 24 (natsV .u64 (zeros 4)))
    have BEL := Lib.hid ((Below.refl w.heap.size w).alloc (Nat.le_refl _) (.cells (natsV .u64 (zeros 4)).toArray 24))
    have HI2 := Lib.hid (HIN.out.below ((Below.refl _ _).alloc (Nat.le_refl _) (.cells (natsV .u64 (zeros 4)).toArray 24)))
    go_enter Try.func112, Try.ntmps112
    go_wp2_with fail
    refine (HN.out _ HI2.out).mono ?_
    rintro e w1 ⟨rfl, hb1⟩
    have J1 := Lib.hid (B1.out.below' hb1)
    have hbel := BEL.out.trans (hb1.mono BEL.out.size)
    clear hb1 B1 BEL HI2
    have j2 := J1.out.setRow (natsV .u64 ls)
    have hb2 := below_setRow' hbel (Nat.le_refl _) (natsV .u64 ls).toArray
    go_wp2_with (refine st24 rfl (.tmp 2) (.tmp 9) rfl w.heap.size rfl ls rfl LS.out (zeros 4) J1.out rfl ?_)
    refine bodyPost_ret (v := .tuple #[.agg (natsV .u64 ls).toArray, .int .i64 0]) ?_ rfl ⟨rfl, hb2⟩
    exact ret24x Try.results112 _ _ w.heap.size ls _ rfl rfl j2 LS.out
  · rw [show ofV n l = 0 from if_neg h32, show ofE n = 41 from if_neg h32, num_zero0]
    have hne : ((n : Int) != 32) = true := by rw [bne_iff_ne]; omega
    have B1 := Lib.hid (Blk.new w 24 (natsV .u64 (zeros 4)))
    have BEL := Lib.hid ((Below.refl w.heap.size w).alloc (Nat.le_refl _) (.cells (natsV .u64 (zeros 4)).toArray 24))
    have j2 := B1.out.setRow (natsV .u64 (zeros 4))
    have hb2 := below_setRow' BEL.out (Nat.le_refl _) (natsV .u64 (zeros 4)).toArray
    go_enter Try.func112, Try.ntmps112
    go_wp2_with (refine st24 rfl (.tmp 2) (.tmp 7) rfl w.heap.size rfl (zeros 4) rfl rfl (zeros 4) B1.out rfl ?_)
    refine bodyPost_ret (v := .tuple #[.agg (natsV .u64 (zeros 4)).toArray, .int .i64 41]) ?_ rfl ⟨rfl, hb2⟩
    exact ret24x Try.results112 _ _ w.heap.size (zeros 4) _ rfl rfl j2 rfl
set_option maxRecDepth 100000 in
set_option maxHeartbeats 1600000 in
theorem Bytes_any (x : Nat) (w : World) : Calls Try.prog 68 #[.agg (natsV .u64 (wds 4 x)).toArray] w fun e w' => e = .returned (.agg (natsV .u8 (bytesOf_ x)).toArray) ∧ Below w.heap.size w w' := by
  have LA := Lib.hid (wds_len 4 x)
  have AA := Lib.hid (wds_at 4 x)
  have LS := Lib.hid (bytesOf_len x)
  have HS := Lib.hid (show bytesOf_ x = tell (fun i => dgt 256 x (31 - i)) 32 from rfl)
  generalize wds 4 x = la at *
  generalize bytesOf_ x = ls at *
  have B1 := Lib.hid (((Blk.new w 24 (natsV .u64 la)).alloc (.cells (natsV .u8 (zeros 32)).toArray 90)).alloc (.cells (natsV .u8 (zeros 32)).toArray 90))
  have B2 := Lib.hid ((Blk.new2 w (.cells (natsV .u64 la).toArray 24) 90 (natsV .u8 (zeros 32))).alloc (.cells (natsV .u8 (zeros 32)).toArray 90))
  have B3 := Lib.hid (Blk.new3 w (.cells (natsV .u64 la).toArray 24) (.cells (natsV .u8 (zeros 32)).toArray 90) 90 (natsV .u8 (zeros 32)))
  have BEL := Lib.hid ((((Below.refl w.heap.size w).alloc (Nat.le_refl _) (.cells (natsV .u64 la).toArray 24)).alloc (by simp) (.cells (natsV .u8 (zeros 32)).toArray 90)).alloc (by simp; omega) (.cells (natsV .u8 (zeros 32)).toArray 90))
  go_enter Try.func68, Try.ntmps68
  go_wp2_with fail
  go_loopw [7] (fun i wr => ∃ t : Nat, t ≤ 32 ∧ i = .int .i64 t ∧ Blk wr w.heap.size 24 (natsV .u64 la) ∧ Blk wr (w.heap.size + 1) 90 (natsV .u8 (zeros 32)) ∧ Blk wr (w.heap.size + 1 + 1) 90 (natsV .u8 (tell (fun i => dgt 256 x (31 - i)) t ++ zeros (32 - t))) ∧ Below w.heap.size w wr) (fun i _ => 32 - (intOf i).toNat)
  case atStart => exact ⟨0, by omega, rfl, B1.out, B2.out, B3.out, BEL.out⟩
  case round =>
    clear B1 B2 B3 BEL
    obtain ⟨t, ht, rfl, k1, k2, k3, hbel⟩ := hrel
    have K1 := Lib.hid k1
    have K2 := Lib.hid k2
    have K3 := Lib.hid k3
    clear k1 k2 k3
    by_cases h5 : t < 32
    · as_aux_lemma =>
      have hti : (t : Int) < 32 := by omega
      have HSET := Lib.hid (fill_tell (fun i => dgt 256 x (31 - i)) 32 t h5)
      obtain ⟨p, hp⟩ : ∃ p, p = 31 - t := ⟨_, rfl⟩
      have e1 : 31 - (t : Int) = (p : Int) := by omega
      have HPL := Lib.hid (fun w => placeOf_any p w (by omega))
      obtain ⟨j, hj⟩ : ∃ j, j = p / 8 := ⟨_, rfl⟩
      obtain ⟨s, hs⟩ : ∃ s, s = 8 * (p % 8) := ⟨_, rfl⟩
      have HBW := Lib.hid (byte_word x j (p % 8) (by omega))
      rw [show 8 * j + p % 8 = 31 - t by omega, ← hs] at HBW
      rw [← hj, ← hs] at HPL
      have hj4 : j < 4 := by omega
      have hji : (j : Int) < 4 := by omega
      have hs64 : s < 57 := by omega
      clear hj hs hp
      have c1 := K1.out.nat j (by rw [LA.out]; exact hj4)
      rw [AA.out j hj4] at c1
      have c3 := K3.out.nat t (by simp [tell_length, zeros]; omega)
      have f3 := K3.out.free t
      generalize dgt (2 ^ 64) x j = d at *
      obtain ⟨q, hq⟩ : ∃ q, q = d / 2 ^ s := ⟨_, rfl⟩
      rw [← hq] at HBW
      have r1 : (d : Int) / 2 ^ s = (q : Int) := by rw [hq]; simp
      obtain ⟨nv, hnv⟩ : ∃ nv, nv = q % 256 := ⟨_, rfl⟩
      rw [← hnv] at HBW
      have r2 : IntKind.u8.wrap (q : Int) = (nv : Int) := by rw [IntKind.wrap_u8]; omega
      have r2b : (q : Int) % 256 = (nv : Int) := by omega
      clear hq hnv
      go_wp2_with fail
      refine (HPL.out _).mono ?_
      rintro e w1 ⟨rfl, rfl⟩
      go_wp2_with fail
      clear r1 r2 r2b c1 c3 f3 e1
      have n1 := K1.out.other ⟨w.heap.size + 1 + 1, t, none⟩ (.int .u8 (nv : Nat)) (by simp; omega)
      have n2 := K2.out.other ⟨w.heap.size + 1 + 1, t, none⟩ (.int .u8 (nv : Nat)) (by simp)
      have n3 := K3.out.natSet t nv
      have hb2 := hbel.setCell (p := ⟨w.heap.size + 1 + 1, t, none⟩) (by simp; omega) (.int .u8 (nv : Nat))
      rw [HBW.out, HSET.out] at n3
      rw [HBW.out] at n1 n2 hb2
      go_roundw
      case rel => exact ⟨t + 1, by omega, by go_num, by rw [HBW.out]; exact n1, by rw [HBW.out]; exact n2, by rw [HBW.out]; exact n3, by rw [HBW.out]; exact hb2⟩
      case measure => simp [intOf] <;> omega
    · obtain rfl : t = 32 := by omega
      rw [show ((32 : Nat) : Int) = 32 from rfl]
      have LE := Lib.hid (show tell (fun i => dgt 256 x (31 - i)) 32 ++ zeros (32 - 32) = ls by rw [HS.out]; simp [zeros])
      rw [LE.out] at K3
      have j2 := K2.out.setRow (natsV .u8 ls)
      have hb2 := below_setRow' hbel (show w.heap.size ≤ w.heap.size + 1 by omega) (natsV .u8 ls).toArray
      go_wp2_with (first | (refine ld90 rfl (.tmp 3) rfl (w.heap.size + 1 + 1) rfl ls K3.out LS.out ?_) | (refine st90 rfl (.tmp 2) (.tmp 25) rfl (w.heap.size + 1) rfl ls rfl LS.out (zeros 32) K2.out rfl ?_))
      refine bodyPost_ret (v := .agg (natsV .u8 ls).toArray) ?_ rfl ⟨rfl, hb2⟩
      exact results_cell_row Try.results68 _ _ (w.heap.size + 1) 90 _ (0, 0) _ rfl j2 Try.underlying90 rfl (by rw [info90, size_nats, LS.out])
end Go.Proofs.Ytfffmoolkgheaaa
