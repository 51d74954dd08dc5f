/- Keccak-f[1600]'s second to fourth steps: the project's functions answer the plain ones. Condition: 25 words of 64 bits. -/
import Derived.Test.YtidnlaibfkjgpaaDoorKTheta
namespace Go.Proofs.YtidnlaibfkjgpaaDoor
open Go.RowKit
set_option linter.unusedVariables false
def posX : List Nat := [1, 0, 2, 1, 2, 3, 3, 0, 1, 3, 1, 4, 4, 0, 3, 4, 3, 2, 2, 0, 4, 2, 4, 1, 1]
def posY : List Nat := [0, 2, 1, 2, 3, 3, 0, 1, 3, 1, 4, 4, 0, 3, 4, 3, 2, 2, 0, 4, 2, 4, 1, 1, 0]
def stepT : List Nat := [24, 23, 17, 5, 11, 6, 22, 1, 8, 21, 0, 2, 16, 15, 19, 12, 7, 3, 4, 14, 18, 9, 20, 13, 10]
theorem pos_facts : ∀ t, t < 24 → posX.getD t 0 < 5 ∧ posY.getD t 0 < 5 ∧ posX.getD (t + 1) 0 = posY.getD t 0 ∧ posY.getD (t + 1) 0 = (2 * posX.getD t 0 + 3 * posY.getD t 0) % 5 ∧ posY.getD (t + 1) 0 < 5 ∧
    srcT.getD (posX.getD (t + 1) 0 + 5 * posY.getD (t + 1) 0) 0 = posX.getD t 0 + 5 * posY.getD t 0 ∧ offT.getD (posX.getD (t + 1) 0 + 5 * posY.getD (t + 1) 0) 0 = (t + 1) * (t + 2) / 2 % 64 := by decide +kernel
theorem step_facts : ∀ t, t < 24 → ∀ i, i < 25 → (stepT.getD i 0 < t + 1 ↔ stepT.getD i 0 < t ∨ i = posX.getD (t + 1) 0 + 5 * posY.getD (t + 1) 0) := by decide +kernel
theorem step_none : ∀ i, i < 25 → ¬ stepT.getD i 0 < 0 := by decide +kernel
theorem step_last : ∀ i, i < 25 → stepT.getD i 0 < 24 ∨ i = 0 := by decide +kernel
theorem mul_facts : ∀ t, t < 24 → (t + 1) * (t + 2) < 1000 := by decide +kernel
theorem move_all (s : List Nat) (hs : Good s) : tell (fun i => if stepT.getD i 0 < 24 then moveAt s i else s.getD i 0) 25 = move s := by
  refine tell_congr fun i hi => ?_
  rcases step_last i hi with h | rfl
  · rw [if_pos h]
  · rw [if_neg (by decide)]
    have h0 := hs.at 0
    unfold moveAt
    show s.getD 0 0 = rl 0 (s.getD 0 0)
    unfold rl
    rw [Nat.mod_eq_of_lt (by simpa using h0), Nat.div_eq_of_lt (by simpa using h0)]; omega
set_option maxRecDepth 100000 in
set_option maxHeartbeats 4000000 in
theorem turnAndMove_any (s : List Nat) (w : World) (hs : Good s) : Calls Tryd.prog 27 #[.agg (natsV .u64 s).toArray] w (WordsIs (move s) w) := by
  have HS := Lib.hid hs
  have B1 := Lib.hid ((((Blk.new w 23 (natsV .u64 s)).alloc (.cells (natsV .u64 (zeros 25)).toArray 23))))
  have B2 := Lib.hid ((Blk.new2 w (.cells (natsV .u64 s).toArray 23) 23 (natsV .u64 (zeros 25))))
  have BEL := Lib.hid ((((Below.refl w.heap.size w).alloc (Nat.le_refl _) (.cells (natsV .u64 s).toArray 23)).alloc (by simp) (.cells (natsV .u64 (zeros 25)).toArray 23)))
  have B3 := Lib.hid (Blk.new3 w (.cells (natsV .u64 s).toArray 23) (.cells (natsV .u64 (zeros 25)).toArray 23) 23 (natsV .u64 (zeros 25)))
  clear hs
  go_enter Tryd.func27, Tryd.ntmps27
  go_wp2_with (first | (refine wpList_load_row rfl 23 (.tmp 1) rfl w.heap.size rfl 23 (natsV .u64 s).toArray (0, 0) _ B1.out Tryd.underlying23 rfl (by rw [info23, size_nats, HS.out.1]) ?_) | (refine wpList_store_row rfl 23 (.tmp 3) (.tmp 8) rfl (w.heap.size + 1 + 1) (natsV .u64 s).toArray rfl rfl 23 (natsV .u64 (zeros 25)).toArray B3.out (by rw [info23, size_nats, HS.out.1]) (by rw [size_nats, size_nats, HS.out.1]; rfl) (all_nats _ _) ?_))
  have B4 := Lib.hid (B3.out.setRow (natsV .u64 s))
  have B1' := Lib.hid ((B1.out.alloc (.cells (natsV .u64 (zeros 25)).toArray 23)).of (setRow_other _ (w.heap.size + 1 + 1) w.heap.size (natsV .u64 s).toArray (by omega)))
  have B2' := Lib.hid ((B2.out.alloc (.cells (natsV .u64 (zeros 25)).toArray 23)).of (setRow_other _ (w.heap.size + 1 + 1) (w.heap.size + 1) (natsV .u64 s).toArray (by omega)))
  have BEL' := Lib.hid (below_setRow' (BEL.out.alloc (by simp; omega) (.cells (natsV .u64 (zeros 25)).toArray 23)) (show w.heap.size ≤ w.heap.size + 1 + 1 by omega) (natsV .u64 s).toArray)
  clear B1 B2 B3 BEL
  go_loopw [4, 5, 9] (fun x y i wr => ∃ t : Nat, t ≤ 24 ∧ i = .int .i64 t ∧ x = .int .i64 (posX.getD t 0 : Nat) ∧ y = .int .i64 (posY.getD t 0 : Nat) ∧ Blk wr w.heap.size 23 (natsV .u64 s) ∧ Blk wr (w.heap.size + 1) 23 (natsV .u64 (zeros 25)) ∧ Blk wr (w.heap.size + 1 + 1) 23 (natsV .u64 (tell (fun i => if stepT.getD i 0 < t then moveAt s i else s.getD i 0) 25)) ∧ Below w.heap.size w wr) (fun _ _ i _ => 24 - (intOf i).toNat)
  case atStart => exact ⟨0, by omega, rfl, rfl, rfl, B1'.out, B2'.out, by rw [upd_none _ _ _ _ HS.out.1 step_none]; exact B4.out, BEL'.out⟩
  case round =>
    clear B1' B2' B4 BEL'
    obtain ⟨t, ht, rfl, rfl, rfl, k1, k2, k3, hbel⟩ := hrel
    have K1 := Lib.hid k1
    have K2 := Lib.hid k2
    have K3 := Lib.hid k3
    clear k1 k2 k3
    by_cases h24 : t < 24
    · as_aux_lemma =>
      have hti : (t : Int) < 24 := by omega
      obtain ⟨hX, hY, f1, f2, f3, f4, f5⟩ := pos_facts t h24
      have HU := Lib.hid (step_facts t h24)
      have HXX := Lib.hid f1
      have hm := mul_facts t h24
      rw [f1] at HU f4 f5
      clear f1
      generalize posX.getD t 0 = X at *
      generalize posY.getD t 0 = Y at *
      generalize hY2 : posY.getD (t + 1) 0 = Y2 at *
      have HY2 := Lib.hid hY2
      clear hY2
      have HSET := Lib.hid (upd_step (fun i => stepT.getD i 0 < t) (fun i => stepT.getD i 0 < t + 1) (moveAt s) (fun i => s.getD i 0) 25 (Y + 5 * Y2) (rl ((t + 1) * (t + 2) / 2 % 64) (s.getD (X + 5 * Y) 0)) (by omega) (by unfold moveAt; rw [f4, f5]) HU.out)
      have c1 := K1.out.nat (X + 5 * Y) (by rw [HS.out.1]; omega)
      have c3 := K3.out.nat (Y + 5 * Y2) (by rw [tell_length]; omega)
      have hf := K3.out.free (Y + 5 * Y2)
      have hv := HS.out.at (X + 5 * Y)
      have HT := Lib.hid (fun w => kturn_any (s.getD (X + 5 * Y) 0) ((t + 1) * (t + 2) / 2 % 64) (by omega) hv w)
      have d1 : (X : Int) + 5 * (Y : Int) = ((X + 5 * Y : Nat) : Int) := by omega
      have d2 : (2 * (X : Int) + 3 * (Y : Int)) % 5 = (Y2 : Int) := by omega
      have d3 : (Y : Int) + 5 * (Y2 : Int) = ((Y + 5 * Y2 : Nat) : Int) := by omega
      have m1 : ((t : Int) + 1) * ((t : Int) + 2) = (((t + 1) * (t + 2) : Nat) : Int) := by simp
      have m2 : IntKind.i64.wrap (((t : Int) + 1) * ((t : Int) + 2)) = (((t + 1) * (t + 2) : Nat) : Int) := by rw [m1]; exact IntWalk.i64_in _ (by omega)
      have m3 : (((t + 1) * (t + 2) : Nat) : Int) / 2 % 64 = (((t + 1) * (t + 2) / 2 % 64 : Nat) : Int) := by omega
      have m4 : ((((t + 1) * (t + 2) : Nat) : Int).tdiv 2).tmod 64 = (((t + 1) * (t + 2) / 2 % 64 : Nat) : Int) := by rw [Int.tdiv_eq_ediv_of_nonneg (by omega), Int.tmod_eq_emod_of_nonneg (by omega)]; exact m3
      have i1 : ((X + 5 * Y : Nat) : Int) < 25 := by omega
      have i3 : ((Y + 5 * Y2 : Nat) : Int) < 25 := by omega
      have ho : (t + 1) * (t + 2) / 2 % 64 < 64 := Nat.mod_lt _ (by decide)
      clear f2 f4 f5 HU hv
      generalize s.getD (X + 5 * Y) 0 = v at *
      generalize (t + 1) * (t + 2) / 2 % 64 = o at *
      generalize (t + 1) * (t + 2) = m at *
      generalize X + 5 * Y = p at *
      generalize Y + 5 * Y2 = p2 at *
      generalize rl o v = z at *
      go_wp2_with fail
      refine (HT.out _).mono ?_
      rintro e w' ⟨rfl, q, rfl⟩
      clear m1 m2 m3 m4
      go_wp2_with fail
      have k3 := (K3.out.drewN q).natSet p2 z
      rw [HSET.out] at k3
      have k1 := (K1.out.drewN q).other ⟨w.heap.size + 1 + 1, p2, none⟩ (.int .u64 (z : Nat)) (by simp; omega)
      have k2 := (K2.out.drewN q).other ⟨w.heap.size + 1 + 1, p2, none⟩ (.int .u64 (z : Nat)) (by simp)
      have hb2 := (below_drewN hbel q).setCell (p := ⟨w.heap.size + 1 + 1, p2, none⟩) (by simp; omega) (.int .u64 (z : Nat))
      go_roundw
      case rel => exact ⟨t + 1, by omega, by go_num, by rw [HXX.out], by rw [HY2.out, d2], k1, k2, k3, hb2⟩
      case measure => simp [intOf]; omega
    · obtain rfl : t = 24 := by omega
      rw [show ((24 : Nat) : Int) = 24 from rfl]
      have J3 := Lib.hid (show Blk wr (w.heap.size + 1 + 1) 23 (natsV .u64 (move s)) from by have := K3.out; rwa [move_all s HS.out] at this)
      have HL := Lib.hid (move_good HS.out).1
      clear K3
      generalize move s = m at *
      go_wp2_with (first | (refine wpList_load_row rfl 23 (.tmp 3) rfl (w.heap.size + 1 + 1) rfl 23 (natsV .u64 m).toArray (0, 0) _ J3.out Tryd.underlying23 rfl (by rw [info23, size_nats, HL.out]) ?_) | (refine wpList_store_row rfl 23 (.tmp 2) (.tmp 40) rfl (w.heap.size + 1) (natsV .u64 m).toArray rfl rfl 23 (natsV .u64 (zeros 25)).toArray K2.out (by rw [info23, size_nats, HL.out]) (by rw [size_nats, size_nats, HL.out]; rfl) (all_nats _ _) ?_))
      have j2 := K2.out.setRow (natsV .u64 m)
      have hb2 := below_setRow' hbel (show w.heap.size ≤ w.heap.size + 1 by omega) (natsV .u64 m).toArray
      refine bodyPost_ret (v := .agg (natsV .u64 m).toArray) ?_ rfl ⟨rfl, hb2⟩
      exact results_cell_row Tryd.results27 _ _ (w.heap.size + 1) 23 _ (0, 0) _ rfl j2 Tryd.underlying23 rfl (by rw [info23, size_nats, HL.out])
/-- a row's words are mixed up to here -/
theorem chi_k (s : List Nat) (y k : Nat) (hk : k < 5) : chiAt s (5 * y + k) = xo (s.getD (5 * y + k) 0) (an (no (s.getD (5 * y + (k + 1) % 5) 0)) (s.getD (5 * y + (k + 2) % 5) 0)) := by
  unfold chiAt
  rw [show (5 * y + k) % 5 = k by omega, show (5 * y + k) / 5 = y by omega, Nat.add_comm _ (5 * y), Nat.add_comm _ (5 * y)]
set_option maxRecDepth 100000 in
set_option maxHeartbeats 4000000 in
theorem mixRows_any (s : List Nat) (w : World) (hs : Good s) : Calls Tryd.prog 28 #[.agg (natsV .u64 s).toArray] w (WordsIs (chi s) w) := by
  have HS := Lib.hid hs
  have B1 := Lib.hid ((((Blk.new w 23 (natsV .u64 s)).alloc (.cells (natsV .u64 (zeros 25)).toArray 23))))
  have B2 := Lib.hid ((Blk.new2 w (.cells (natsV .u64 s).toArray 23) 23 (natsV .u64 (zeros 25))))
  have BEL := Lib.hid ((((Below.refl w.heap.size w).alloc (Nat.le_refl _) (.cells (natsV .u64 s).toArray 23)).alloc (by simp) (.cells (natsV .u64 (zeros 25)).toArray 23)))
  clear hs
  go_enter Tryd.func28, Tryd.ntmps28
  go_wp2_with fail
  go_loopw [9] (fun i wr => ∃ y : Nat, y ≤ 5 ∧ i = .int .i64 y ∧ Blk wr w.heap.size 23 (natsV .u64 (tell (fun i => if i / 5 < y then chiAt s i else s.getD i 0) 25)) ∧ Blk wr (w.heap.size + 1) 23 (natsV .u64 (zeros 25)) ∧ Below w.heap.size w wr) (fun i _ => 5 - (intOf i).toNat)
  case atStart => exact ⟨0, by omega, rfl, by rw [upd_none _ _ _ _ HS.out.1 (by omega)]; exact B1.out, B2.out, BEL.out⟩
  case round =>
    clear B1 B2 BEL
    obtain ⟨y, hy, rfl, k1, k2, hbel⟩ := hrel
    have K1 := Lib.hid k1
    have K2 := Lib.hid k2
    clear k1 k2
    by_cases h5 : y < 5
    · as_aux_lemma =>
      have hyi : (y : Int) < 5 := by omega
      have cells : ∀ k, k < 5 → wr.cell? ⟨w.heap.size, 5 * y + k, none⟩ = some (.int .u64 (s.getD (5 * y + k) 0 : Nat)) := by
        intro k hk
        have := K1.out.nat (5 * y + k) (by rw [tell_length]; omega)
        rwa [upd_get _ _ _ _ _ (by omega) (by omega)] at this
      have c0 := cells 0 (by decide)
      have c1 := cells 1 (by decide)
      have c2 := cells 2 (by decide)
      have c3 := cells 3 (by decide)
      have c4 := cells 4 (by decide)
      clear cells
      have v0 := chi_k s y 0 (by decide)
      have v1 := chi_k s y 1 (by decide)
      have v2 := chi_k s y 2 (by decide)
      have v3 := chi_k s y 3 (by decide)
      have v4 := chi_k s y 4 (by decide)
      simp only [Nat.reduceAdd, Nat.reduceMod, Nat.add_zero] at c0 v0 v1 v2 v3 v4
      have S := fun (k : Nat) (hk : k < 5) (v : Nat) (hv : v = chiAt s (5 * y + k)) => upd_step (fun i => i / 5 < y ∨ (i / 5 = y ∧ i % 5 < k)) (fun i => i / 5 < y ∨ (i / 5 = y ∧ i % 5 < k + 1)) (chiAt s) (fun i => s.getD i 0) 25 (5 * y + k) v (by omega) hv (by omega)
      have HS0 := Lib.hid (S 0 (by decide) _ v0.symm)
      have HS1 := Lib.hid (S 1 (by decide) _ v1.symm)
      have HS2 := Lib.hid (S 2 (by decide) _ v2.symm)
      have HS3 := Lib.hid (S 3 (by decide) _ v3.symm)
      have HS4 := Lib.hid (S 4 (by decide) _ v4.symm)
      clear S v0 v1 v2 v3 v4
      have HI := Lib.hid (upd_iff (fun i => i / 5 < y) (fun i => i / 5 < y ∨ (i / 5 = y ∧ i % 5 < 0)) (chiAt s) (fun i => s.getD i 0) 25 (by omega))
      have HO := Lib.hid (upd_iff (fun i => i / 5 < y ∨ (i / 5 = y ∧ i % 5 < 4 + 1)) (fun i => i / 5 < y + 1) (chiAt s) (fun i => s.getD i 0) 25 (by omega))
      have K1' := Lib.hid (show Blk wr w.heap.size 23 (natsV .u64 (tell (fun i => if i / 5 < y ∨ (i / 5 = y ∧ i % 5 < 0) then chiAt s i else s.getD i 0) 25)) from by rw [← HI.out]; exact K1.out)
      clear K1 HI
      simp only [Nat.add_zero] at HS0
      generalize s.getD (5 * y) 0 = a at *
      generalize s.getD (5 * y + 1) 0 = b at *
      generalize s.getD (5 * y + 2) 0 = c at *
      generalize s.getD (5 * y + 3) 0 = d at *
      generalize s.getD (5 * y + 4) 0 = e at *
      obtain ⟨p0, hp0⟩ : ∃ p0, p0 = 5 * y := ⟨_, rfl⟩
      obtain ⟨p1, hp1⟩ : ∃ p1, p1 = 5 * y + 1 := ⟨_, rfl⟩
      obtain ⟨p2, hp2⟩ : ∃ p2, p2 = 5 * y + 2 := ⟨_, rfl⟩
      obtain ⟨p3, hp3⟩ : ∃ p3, p3 = 5 * y + 3 := ⟨_, rfl⟩
      obtain ⟨p4, hp4⟩ : ∃ p4, p4 = 5 * y + 4 := ⟨_, rfl⟩
      rw [← hp0] at c0 HS0
      rw [← hp1] at c1 HS1
      rw [← hp2] at c2 HS2
      rw [← hp3] at c3 HS3
      rw [← hp4] at c4 HS4
      have w0 : IntKind.i64.wrap (5 * (y : Int)) = (p0 : Int) := by rw [IntWalk.i64_in _ (by omega)]; omega
      have w1 : IntKind.i64.wrap ((p0 : Int) + 1) = (p1 : Int) := by rw [IntWalk.i64_in _ (by omega)]; omega
      have w2 : IntKind.i64.wrap ((p0 : Int) + 2) = (p2 : Int) := by rw [IntWalk.i64_in _ (by omega)]; omega
      have w3 : IntKind.i64.wrap ((p0 : Int) + 3) = (p3 : Int) := by rw [IntWalk.i64_in _ (by omega)]; omega
      have w4 : IntKind.i64.wrap ((p0 : Int) + 4) = (p4 : Int) := by rw [IntWalk.i64_in _ (by omega)]; omega
      have d0 : 5 * (y : Int) = (p0 : Int) := by omega
      have d1 : (p0 : Int) + 1 = (p1 : Int) := by omega
      have d2 : (p0 : Int) + 2 = (p2 : Int) := by omega
      have d3 : (p0 : Int) + 3 = (p3 : Int) := by omega
      have d4 : (p0 : Int) + 4 = (p4 : Int) := by omega
      have i0 : (p0 : Int) < 25 := by omega
      have i1 : (p1 : Int) < 25 := by omega
      have i2 : (p2 : Int) < 25 := by omega
      have i3 : (p3 : Int) < 25 := by omega
      have i4 : (p4 : Int) < 25 := by omega
      have i0n : p0 < 25 := by omega
      have i1n : p1 < 25 := by omega
      have i2n : p2 < 25 := by omega
      have i3n : p3 < 25 := by omega
      have i4n : p4 < 25 := by omega
      clear hp0 hp1 hp2 hp3 hp4
      go_wp2_with fail
      go_quiet (fail)
      obtain ⟨W5, hW5⟩ : ∃ W5 : World, wr.drewN nq = W5 := ⟨_, rfl⟩
      rw [hW5]
      have J0 := Lib.hid (show Blk W5 w.heap.size 23 (natsV .u64 (tell (fun i => if i / 5 < y ∨ (i / 5 = y ∧ i % 5 < 0) then chiAt s i else s.getD i 0) 25)) from by rw [← hW5]; exact K1'.out)
      have K2' := Lib.hid (show Blk W5 (w.heap.size + 1) 23 (natsV .u64 (zeros 25)) from by rw [← hW5]; exact K2.out)
      have hbel5 : Below w.heap.size w W5 := by rw [← hW5]; exact below_drewN hbel nq
      clear hW5 hbel K1' K2 c0 c1 c2 c3 c4 w0 w1 w2 w3 w4
      have rx := u64_xo
      have rd := u64_an
      have rn := u64_no
      have rs : (if IntKind.u64.signed = true then (-1 : Int) else IntKind.u64.max) = IntKind.u64.max := rfl
      have g0 := J0.out.nat p0 (by rw [tell_length]; exact i0n)
      have f0 := J0.out.free p0
      have j1 := J0.out.natSet p0 (xo a (an (no b) c))
      rw [HS0.out] at j1
      have J1 := Lib.hid j1
      have g1 := J1.out.nat p1 (by rw [tell_length]; exact i1n)
      have f1 := J1.out.free p1
      have j2 := J1.out.natSet p1 (xo b (an (no c) d))
      rw [HS1.out] at j2
      have J2 := Lib.hid j2
      have g2 := J2.out.nat p2 (by rw [tell_length]; exact i2n)
      have f2 := J2.out.free p2
      have j3 := J2.out.natSet p2 (xo c (an (no d) e))
      rw [HS2.out] at j3
      have J3 := Lib.hid j3
      have g3 := J3.out.nat p3 (by rw [tell_length]; exact i3n)
      have f3 := J3.out.free p3
      have j4 := J3.out.natSet p3 (xo d (an (no e) a))
      rw [HS3.out] at j4
      have J4 := Lib.hid j4
      have g4 := J4.out.nat p4 (by rw [tell_length]; exact i4n)
      have f4 := J4.out.free p4
      have j5 := J4.out.natSet p4 (xo e (an (no a) b))
      rw [HS4.out, HO.out] at j5
      have J5 := Lib.hid j5
      have M2 := Lib.hid (((((K2'.out.other ⟨w.heap.size, p0, none⟩ (.int .u64 (xo a (an (no b) c) : Nat)) (by simp)).other ⟨w.heap.size, p1, none⟩ (.int .u64 (xo b (an (no c) d) : Nat)) (by simp)).other ⟨w.heap.size, p2, none⟩ (.int .u64 (xo c (an (no d) e) : Nat)) (by simp)).other ⟨w.heap.size, p3, none⟩ (.int .u64 (xo d (an (no e) a) : Nat)) (by simp)).other ⟨w.heap.size, p4, none⟩ (.int .u64 (xo e (an (no a) b) : Nat)) (by simp))
      have MB := Lib.hid (((((hbel5.setCell (p := ⟨w.heap.size, p0, none⟩) (Nat.le_refl _) (.int .u64 (xo a (an (no b) c) : Nat))).setCell (p := ⟨w.heap.size, p1, none⟩) (Nat.le_refl _) (.int .u64 (xo b (an (no c) d) : Nat))).setCell (p := ⟨w.heap.size, p2, none⟩) (Nat.le_refl _) (.int .u64 (xo c (an (no d) e) : Nat))).setCell (p := ⟨w.heap.size, p3, none⟩) (Nat.le_refl _) (.int .u64 (xo d (an (no e) a) : Nat))).setCell (p := ⟨w.heap.size, p4, none⟩) (Nat.le_refl _) (.int .u64 (xo e (an (no a) b) : Nat)))
      clear j1 j2 j3 j4 j5 J0 J1 J2 J3 J4 K2' hbel5 HS0 HS1 HS2 HS3 HS4 HO
      go_wp2_with fail
      go_roundw
      case rel => exact ⟨y + 1, by omega, by go_num, J5.out, M2.out, MB.out⟩
      case measure => simp [intOf]; omega
    · obtain rfl : y = 5 := by omega
      rw [show ((5 : Nat) : Int) = 5 from rfl]
      have J1 := Lib.hid (show Blk wr w.heap.size 23 (natsV .u64 (chi s)) from by
        have := K1.out
        rwa [upd_all _ _ _ _ (by omega)] at this)
      have HL := Lib.hid (chi_good s).1
      clear K1
      generalize chi s = m at *
      go_wp2_with (first | (refine wpList_load_row rfl 23 (.tmp 1) rfl w.heap.size rfl 23 (natsV .u64 m).toArray (0, 0) _ J1.out Tryd.underlying23 rfl (by rw [info23, size_nats, HL.out]) ?_) | (refine wpList_store_row rfl 23 (.tmp 2) (.tmp 86) rfl (w.heap.size + 1) (natsV .u64 m).toArray rfl rfl 23 (natsV .u64 (zeros 25)).toArray K2.out (by rw [info23, size_nats, HL.out]) (by rw [size_nats, size_nats, HL.out]; rfl) (all_nats _ _) ?_))
      have j2 := K2.out.setRow (natsV .u64 m)
      have hb2 := below_setRow' hbel (show w.heap.size ≤ w.heap.size + 1 by omega) (natsV .u64 m).toArray
      refine bodyPost_ret (v := .agg (natsV .u64 m).toArray) ?_ rfl ⟨rfl, hb2⟩
      exact results_cell_row Tryd.results28 _ _ (w.heap.size + 1) 23 _ (0, 0) _ rfl j2 Tryd.underlying23 rfl (by rw [info23, size_nats, HL.out])
end Go.Proofs.YtidnlaibfkjgpaaDoor
