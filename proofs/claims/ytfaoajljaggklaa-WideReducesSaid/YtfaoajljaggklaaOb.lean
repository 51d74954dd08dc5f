/- The project makes numbers of bytes, and bytes of numbers. Condition: no more than 32 bytes. -/
import Derived.Test.YtfaoajljaggklaaBm
namespace Go.Proofs.Ytfaoajljaggklaa
open Go.RowKit
set_option linter.unusedVariables false
set_option linter.unusedSimpArgs false
theorem num_zero0 : wds 4 0 = zeros 4 := by decide +kernel
theorem placeOf_any (n : Nat) (w : World) (hn : n < 256) : Calls Try.prog 73 #[.int .i64 (n : Nat)] w fun e w' => e = .returned (.tuple #[.int .i64 (n / 8 : Nat), .int .i64 (8 * (n % 8) : Nat)]) ∧ w = w' := by
  go_enter Try.func73, Try.ntmps73
  go_wp2_with fail
  go_ret2
  exact ⟨by simp, rfl⟩
set_option maxRecDepth 100000 in
set_option maxHeartbeats 1600000 in
theorem numberOf_any (A : Option Addr) (n c : Nat) (l : List Nat) (w : World) (hn : n ≤ 32) (h : BIn w A n c l) :
    Calls Try.prog 50 #[.slice A n c] w fun e w' => e = .returned (.agg (natsV .u64 (wds 4 (be l))).toArray) ∧ Below w.heap.size w w' := by
  have HIN := Lib.hid h
  have HLEN := Lib.hid h.1.1
  have HLT := Lib.hid h.1.2.2.1
  clear h
  have LS := Lib.hid (wds_len 4 (be l))
  have HU0 := Lib.hid (show tell (dgt (2 ^ 64) (upTo l 0)) 4 = zeros 4 by rw [upTo_zero]; rfl)
  have HU1 := Lib.hid (show tell (dgt (2 ^ 64) (upTo l n)) 4 = wds 4 (be l) by rw [← HLEN.out, upTo_all]; rfl)
  have HUS := Lib.hid (fun t (ht : t < n) (hv : l.getD t 0 < 256) => upTo_word l t (by rw [HLEN.out]; exact ht) hv (by rw [HLEN.out]; exact hn))
  rw [HLEN.out] at HUS
  generalize wds 4 (be l) = ls at *
  have B1 := Lib.hid ((Blk.new w 24 (natsV .u64 (zeros 4))).alloc (.cells (natsV .u64 (zeros 4)).toArray 24))
  have B2 := Lib.hid (Blk.new2 w (.cells (natsV .u64 (zeros 4)).toArray 24) 24 (natsV .u64 (zeros 4)))
  have BEL := Lib.hid (((Below.refl w.heap.size w).alloc (Nat.le_refl _) (.cells (natsV .u64 (zeros 4)).toArray 24)).alloc (by simp) (.cells (natsV .u64 (zeros 4)).toArray 24))
  go_enter Try.func50, Try.ntmps50
  go_wp2_with fail
  go_loopw [10] (fun i wr => ∃ t : Nat, t ≤ n ∧ i = .int .i64 t ∧ Blk wr w.heap.size 24 (natsV .u64 (zeros 4)) ∧ Blk wr (w.heap.size + 1) 24 (natsV .u64 (tell (dgt (2 ^ 64) (upTo l t)) 4)) ∧ Below w.heap.size w wr) (fun i _ => n - (intOf i).toNat)
  case atStart => exact ⟨0, by omega, rfl, B1.out, by rw [HU0.out]; exact B2.out, BEL.out⟩
  case round =>
    clear B1 B2 BEL HU0
    obtain ⟨t, ht, rfl, k1, k2, hbel⟩ := hrel
    have K1 := Lib.hid k1
    have K2 := Lib.hid k2
    clear k1 k2
    by_cases h5 : t < n
    · as_aux_lemma =>
      have hti : (t : Int) < (n : Int) := by omega
      obtain ⟨b0, o0, rfl, hc⟩ := HIN.out.1.2.2.2.resolve_left (by omega)
      have c0 := (hbel.cell (World.block_lt_of_cell? w _ (hc t h5))).trans (hc t h5)
      have hlt := getD_lt HLT.out t
      have HUT := Lib.hid (HUS.out t h5 hlt)
      clear hc
      obtain ⟨p, hp⟩ : ∃ p, p = n - 1 - t := ⟨_, rfl⟩
      rw [← hp] at HUT
      have e1 : IntKind.i64.wrap ((n : Int) - 1) = (n : Int) - 1 := IntWalk.i64_in _ (by omega)
      have e2 : (n : Int) - 1 - (t : Int) = (p : Int) := by omega
      have HPL := Lib.hid (fun w => placeOf_any p w (by omega))
      obtain ⟨j, hj⟩ : ∃ j, j = p / 8 := ⟨_, rfl⟩
      obtain ⟨s, hs⟩ : ∃ s, s = 8 * (p % 8) := ⟨_, rfl⟩
      rw [← hj, ← hs] at HPL HUT
      have hj4 : j < 4 := by omega
      have hji : (j : Int) < 4 := by omega
      have hs64 : s < 57 := by omega
      clear hj hs hp e1
      generalize l.getD t 0 = v at *
      have c1 := K2.out.nat j (by rw [tell_length]; exact hj4)
      have f1 := K2.out.free j
      rw [tell_getD _ _ _ hj4] at c1
      have HD := dgt_lt (B := 2 ^ 64) (by decide) (upTo l t) j
      obtain ⟨d, hd⟩ : ∃ d, d = dgt (2 ^ 64) (upTo l t) j := ⟨_, rfl⟩
      rw [← hd] at c1 HD HUT
      have HDD := Lib.hid hd
      clear hd
      obtain ⟨u, hu⟩ : ∃ u, u = v * 2 ^ s := ⟨_, rfl⟩
      rw [← hu] at HUT
      have hul : u < 2 ^ 64 := by
        rw [hu]
        have h1 : v * 2 ^ s < 2 ^ 8 * 2 ^ s := Nat.mul_lt_mul_of_pos_right hlt (Nat.two_pow_pos s)
        rw [← Nat.pow_add] at h1
        exact Nat.lt_of_lt_of_le h1 (Nat.pow_le_pow_right (by decide) (by omega))
      have r1 : IntKind.u64.wrap ((v : Int) * 2 ^ s) = (u : Int) := by rw [cast_pow, ← Int.natCast_mul, ← hu, u64_cut, Nat.mod_eq_of_lt hul]
      have r1b : IntKind.u64.wrap (v : Int) = (v : Int) := by rw [u64_cut, Nat.mod_eq_of_lt (by omega)]
      obtain ⟨nv, hnv⟩ : ∃ nv, nv = d ||| u := ⟨_, rfl⟩
      rw [← hnv] at HUT
      have r2 : bits .or .u64 (d : Int) (u : Int) = (nv : Int) := by rw [hnv]; exact u64_or_nat d u HD hul
      clear hu hnv hul
      go_wp2_with fail
      refine (HPL.out _).mono ?_
      rintro e w1 ⟨rfl, rfl⟩
      go_wp2_with fail
      go_region
      all_goals
        clear r1 r1b r2 c1 f1 c0 e2
        have n1 := K1.out.other ⟨w.heap.size + 1, j, none⟩ (.int .u64 (nv : Nat)) (by simp)
        have n2 := K2.out.natSet j nv
        have hb2 := hbel.setCell (p := ⟨w.heap.size + 1, j, none⟩) (by simp) (.int .u64 (nv : Nat))
        rw [HUT.out] at n2
        have N1 := Lib.hid n1.drew
        have N2 := Lib.hid n2.drew
        have hb3 := hb2.drew
        clear n1 n2 K1 K2 hb2 hbel
        go_wp2_with fail
        go_roundw
        case rel => exact ⟨t + 1, by omega, by go_num, N1.out, N2.out, hb3⟩
        case measure => simp [intOf] <;> omega
    · obtain rfl : t = n := by omega
      rw [HU1.out] at K2
      have j2 := K1.out.setRow (natsV .u64 ls)
      have hb2 := below_setRow' hbel (Nat.le_refl _) (natsV .u64 ls).toArray
      go_wp2_with (first | (refine ld24 rfl (.tmp 3) rfl (w.heap.size + 1) rfl ls K2.out LS.out ?_) | (refine st24 rfl (.tmp 2) (.tmp 34) rfl w.heap.size rfl ls rfl LS.out (zeros 4) K1.out rfl ?_))
      refine bodyPost_ret (v := .agg (natsV .u64 ls).toArray) ?_ rfl ⟨rfl, hb2⟩
      exact ret24 Try.results50 _ _ w.heap.size ls rfl j2 LS.out
end Go.Proofs.Ytfaoajljaggklaa
