/- Keccak-f[1600]: the project's function answers the plain one. Condition: 25 words of 64 bits; the table of constants. -/
import Derived.Test.YtidnlaibfkjgpaaDoorKM
import Derived.Deep.RegionWith
import Derived.Deep.Cut
import Derived.StillTailTactics
namespace Go.Proofs.YtidnlaibfkjgpaaDoor
open Go.RowKit
set_option linter.unusedVariables false
theorem flipC {P : Program} {f : FuncId} {args : Array Value} {w : World} {v : Value} (h : Calls P f args w fun e w' => e = .returned v ∧ w = w') : Calls P f args w fun e w' => e = .returned v ∧ w' = w :=
  h.mono fun _ _ ⟨a, b⟩ => ⟨a, b.symm⟩
theorem info23 : (Tryd.prog.info? 23).map (·.size) = some 25 := by kernel_rfl
theorem info77 : (Tryd.prog.info? 77).map (·.size) = some 5 := by kernel_rfl
/-- what a call answers that gives an array of words -/
def WordsIs (l : List Nat) (w : World) (e : Ending) (w' : World) : Prop := e = .returned (.agg (natsV .u64 l).toArray) ∧ Below w.heap.size w w'
/-- the table of constants holds what the text says -/
def Tabs (w : World) : Prop := ∀ i, i < 24 → w.cell? ⟨0, i, none⟩ = some (.int .u64 (rcT.getD i 0 : Nat))
theorem Tabs.below {w w' : World} (h : Tabs w) (hb : Below w.heap.size w w') : Tabs w' := fun i hi => (hb.cell (World.block_lt_of_cell? w _ (h i hi))).trans (h i hi)
theorem Tabs.size {w : World} (h : Tabs w) : 1 ≤ w.heap.size := World.block_lt_of_cell? w _ (h 0 (by decide))
theorem Tabs.of {B : Nat} {w w' : World} (h : Tabs w) (hb : Below B w w') (hB : 1 ≤ B) : Tabs w' := fun i hi => (hb.cell (show 0 < B by omega)).trans (h i hi)
theorem Tabs.grown {w w' : World} {g : Nat} (h : Tabs w) (hb : w.grownBy w' (some g)) (hg : 1 ≤ g) : Tabs w' := fun i hi => hb.cell (h i hi) (fun e => by injection e with e; simp at e; omega)
theorem u64_xo (a b : Nat) : bits .xor .u64 (a : Int) (b : Int) = ((xo a b : Nat) : Int) := u64_bx a b
theorem u64_an (a b : Nat) : bits .and .u64 (a : Int) (b : Int) = ((an a b : Nat) : Int) := u64_ba a b
theorem u64_no (a : Nat) : bits .xor .u64 IntKind.u64.max (a : Int) = ((no a : Nat) : Int) := u64_bn a
theorem upd_step (P Q : Nat → Prop) [DecidablePred P] [DecidablePred Q] (f g : Nat → Nat) (n p v : Nat) (hp : p < n) (hv : v = f p) (h : ∀ i, i < n → (Q i ↔ P i ∨ i = p)) :
    (tell (fun i => if P i then f i else g i) n).set p v = tell (fun i => if Q i then f i else g i) n := by
  rw [tell_set]
  refine tell_congr fun i hi => ?_
  by_cases hip : i = p
  · subst hip
    rw [if_pos rfl, if_pos ((h i hi).2 (.inr rfl)), hv]
  · rw [if_neg hip]
    by_cases hP : P i
    · rw [if_pos hP, if_pos ((h i hi).2 (.inl hP))]
    · rw [if_neg hP, if_neg (fun hq => ((h i hi).1 hq).elim hP hip)]
theorem upd_none (P : Nat → Prop) [DecidablePred P] (f : Nat → Nat) (s : List Nat) (n : Nat) (hs : s.length = n) (h : ∀ i, i < n → ¬ P i) : tell (fun i => if P i then f i else s.getD i 0) n = s := by
  conv => rhs; rw [← tell_self s n hs]
  exact tell_congr fun i hi => if_neg (h i hi)
theorem upd_all (P : Nat → Prop) [DecidablePred P] (f g : Nat → Nat) (n : Nat) (h : ∀ i, i < n → P i) : tell (fun i => if P i then f i else g i) n = tell f n := tell_congr fun i hi => if_pos (h i hi)
theorem upd_iff (P Q : Nat → Prop) [DecidablePred P] [DecidablePred Q] (f g : Nat → Nat) (n : Nat) (h : ∀ i, i < n → (P i ↔ Q i)) : tell (fun i => if P i then f i else g i) n = tell (fun i => if Q i then f i else g i) n :=
  tell_congr fun i hi => by
    by_cases hP : P i
    · rw [if_pos hP, if_pos ((h i hi).1 hP)]
    · rw [if_neg hP, if_neg (fun hq => hP ((h i hi).2 hq))]
theorem upd_get (P : Nat → Prop) [DecidablePred P] (f g : Nat → Nat) (n p : Nat) (hp : p < n) (h : ¬ P p) : (tell (fun i => if P i then f i else g i) n).getD p 0 = g p := by
  rw [tell_get _ _ _ hp, if_neg h]
set_option maxHeartbeats 400000 in
theorem kturn_any (x n : Nat) (hn : n ≤ 64) (hx : x < 2 ^ 64) (w : World) :
    Calls Tryd.prog 40 #[.int .u64 (x : Nat), .int .i64 (n : Nat)] w fun e w' => e = .returned (.int .u64 (rl n x : Nat)) ∧ ∃ q, w' = w.drewN q := by
  have e1 : IntKind.i64.wrap (64 - (n : Int)) = ((64 - n : Nat) : Int) := by rw [IntWalk.i64_in _ (by omega)]; omega
  have e2 : min n 64 = n := by omega
  have e3 : min (64 - n) 64 = 64 - n := by omega
  have hr := rl_or hn hx
  have he := u64_or_nat (x * 2 ^ n % 2 ^ 64) (x / 2 ^ (64 - n)) (Nat.mod_lt _ (by decide)) (Nat.lt_of_le_of_lt (Nat.div_le_self _ _) hx)
  rw [hr] at he
  have HE := Lib.hid he
  clear hr he
  generalize 64 - n = m at *
  go_enter Tryd.func40, Tryd.ntmps40
  go_wp2_with fail
  go_quiet (fail)
  go_wp2_with fail
  go_ret
  refine ⟨ret1 ?_, _, rfl⟩
  rw [← HE.out]
  congr 1 <;> simp
theorem kturn_lit (x : Nat) (m : Int) (n : Nat) (w : World) (hm : m = (n : Int)) (hn : n ≤ 64) (hx : x < 2 ^ 64) :
    Calls Tryd.prog 40 #[.int .u64 (x : Nat), .int .i64 m] w fun e w' => e = .returned (.int .u64 (rl n x : Nat)) ∧ ∃ q, w' = w.drewN q := hm ▸ kturn_any x n hn hx w
set_option maxRecDepth 100000 in
set_option maxHeartbeats 4000000 in
theorem mixColumns_any (s : List Nat) (w : World) (hs : Good s) : Calls Tryd.prog 26 #[.agg (natsV .u64 s).toArray] w (WordsIs (theta s) w) := by
  have HS := Lib.hid hs
  have B1 := Lib.hid ((((Blk.new w 23 (natsV .u64 s)).alloc (.cells (natsV .u64 (zeros 25)).toArray 23))).alloc (.cells (natsV .u64 (zeros 5)).toArray 77))
  have B2 := Lib.hid ((Blk.new2 w (.cells (natsV .u64 s).toArray 23) 23 (natsV .u64 (zeros 25))).alloc (.cells (natsV .u64 (zeros 5)).toArray 77))
  have B3 := Lib.hid (Blk.new3 w (.cells (natsV .u64 s).toArray 23) (.cells (natsV .u64 (zeros 25)).toArray 23) 77 (natsV .u64 (zeros 5)))
  have BEL := Lib.hid ((((Below.refl w.heap.size w).alloc (Nat.le_refl _) (.cells (natsV .u64 s).toArray 23)).alloc (by simp) (.cells (natsV .u64 (zeros 25)).toArray 23)).alloc (by simp; omega) (.cells (natsV .u64 (zeros 5)).toArray 77))
  clear hs
  go_enter Tryd.func26, Tryd.ntmps26
  go_wp2_with fail
  go_loopw [8] (fun i wr => ∃ t : Nat, t ≤ 5 ∧ i = .int .i64 t ∧ Blk wr w.heap.size 23 (natsV .u64 s) ∧ Blk wr (w.heap.size + 1) 23 (natsV .u64 (zeros 25)) ∧ Blk wr (w.heap.size + 1 + 1) 77 (natsV .u64 (tell (colS s) t ++ zeros (5 - t))) ∧ Below w.heap.size w wr) (fun i _ => 5 - (intOf i).toNat)
  case atStart => exact ⟨0, by omega, rfl, B1.out, B2.out, B3.out, BEL.out⟩
  case round =>
    clear B1 B2 B3 BEL
    obtain ⟨t, ht, rfl, k1, k2, k3, hbel⟩ := hrel
    have K1 := Lib.hid k1
    have K2 := Lib.hid k2
    have K3 := Lib.hid k3
    clear k1 k2 k3
    by_cases h5 : t < 5
    · as_aux_lemma =>
      have hti : (t : Int) < 5 := by omega
      have c0 := K1.out.nat t (by rw [HS.out.1]; omega)
      have c1 := K1.out.nat (t + 5) (by rw [HS.out.1]; omega)
      have c2 := K1.out.nat (t + 10) (by rw [HS.out.1]; omega)
      have c3 := K1.out.nat (t + 15) (by rw [HS.out.1]; omega)
      have c4 := K1.out.nat (t + 20) (by rw [HS.out.1]; omega)
      have hc := K3.out.nat t (by simp [tell_length, zeros]; omega)
      have hf := K3.out.free t
      have HF := Lib.hid (fill_tell (colS s) 5 t h5)
      have HV := Lib.hid (show colS s t = xo (xo (xo (xo (s.getD t 0) (s.getD (t + 5) 0)) (s.getD (t + 10) 0)) (s.getD (t + 15) 0)) (s.getD (t + 20) 0) from rfl)
      have e1 : IntKind.i64.wrap ((t : Int) + 5) = ((t + 5 : Nat) : Int) := by rw [IntWalk.i64_in _ (by omega)]; omega
      have e2 : IntKind.i64.wrap ((t : Int) + 10) = ((t + 10 : Nat) : Int) := by rw [IntWalk.i64_in _ (by omega)]; omega
      have e3 : IntKind.i64.wrap ((t : Int) + 15) = ((t + 15 : Nat) : Int) := by rw [IntWalk.i64_in _ (by omega)]; omega
      have e4 : IntKind.i64.wrap ((t : Int) + 20) = ((t + 20 : Nat) : Int) := by rw [IntWalk.i64_in _ (by omega)]; omega
      have i1 : ((t + 5 : Nat) : Int) < 25 := by omega
      have i2 : ((t + 10 : Nat) : Int) < 25 := by omega
      have i3 : ((t + 15 : Nat) : Int) < 25 := by omega
      have i4 : ((t + 20 : Nat) : Int) < 25 := by omega
      have i0 : (t : Int) < 25 := by omega
      generalize s.getD t 0 = x0 at *
      generalize s.getD (t + 5) 0 = x1 at *
      generalize s.getD (t + 10) 0 = x2 at *
      generalize s.getD (t + 15) 0 = x3 at *
      generalize s.getD (t + 20) 0 = x4 at *
      generalize t + 5 = t5 at *
      generalize t + 10 = t10 at *
      generalize t + 15 = t15 at *
      generalize t + 20 = t20 at *
      have rx := u64_xo
      go_wp2_with fail
      go_region
      all_goals
        have k3 := K3.out.natSet t (xo (xo (xo (xo x0 x1) x2) x3) x4)
        rw [← HV.out, HF.out] at k3
        have k1 := K1.out.other ⟨w.heap.size + 1 + 1, t, none⟩ (.int .u64 (colS s t : Nat)) (by simp; omega)
        have k2 := K2.out.other ⟨w.heap.size + 1 + 1, t, none⟩ (.int .u64 (colS s t : Nat)) (by simp)
        have hb2 := hbel.setCell (p := ⟨w.heap.size + 1 + 1, t, none⟩) (by simp; omega) (.int .u64 (colS s t : Nat))
        rw [← HV.out]
        clear rx e1 e2 e3 e4
        generalize colS s t = z at *
        go_wp2_with fail
        go_roundw
        case rel => exact ⟨t + 1, by omega, by go_num, k1, k2, k3, hb2.drew⟩
        case measure => simp [intOf]; omega
    · obtain rfl : t = 5 := by omega
      rw [show ((5 : Nat) : Int) = 5 from rfl]
      have K4 := Lib.hid (show Blk wr (w.heap.size + 1 + 1) 77 (natsV .u64 (tell (colS s) 5)) from by have := K3.out; simpa [zeros] using this)
      have K1' := Lib.hid (show Blk wr w.heap.size 23 (natsV .u64 (tell (fun i => if i % 5 < 0 then thetaAt s i else s.getD i 0) 25)) from by rw [upd_none _ _ _ _ HS.out.1 (by omega)]; exact K1.out)
      clear K3 K1 h5
      go_wp2_with fail
      go_loopw [37] (fun i wr => ∃ x : Nat, x ≤ 5 ∧ i = .int .i64 x ∧ Blk wr w.heap.size 23 (natsV .u64 (tell (fun i => if i % 5 < x then thetaAt s i else s.getD i 0) 25)) ∧ Blk wr (w.heap.size + 1) 23 (natsV .u64 (zeros 25)) ∧ Blk wr (w.heap.size + 1 + 1) 77 (natsV .u64 (tell (colS s) 5)) ∧ Below w.heap.size w wr) (fun i _ => 5 - (intOf i).toNat)
      case atStart => exact ⟨0, by omega, rfl, K1'.out, K2.out, K4.out, hbel⟩
      case round =>
        clear hbel K1' K2 K4
        obtain ⟨x, hx5, rfl, k1, k2, k3, hbel⟩ := hrel
        have K1 := Lib.hid k1
        have K2 := Lib.hid k2
        have K3 := Lib.hid k3
        clear k1 k2 k3
        by_cases h5 : x < 5
        · as_aux_lemma =>
          have hxi : (x : Int) < 5 := by omega
          have c4 := K3.out.nat ((x + 4) % 5) (by rw [tell_length]; omega)
          have c1 := K3.out.nat ((x + 1) % 5) (by rw [tell_length]; omega)
          rw [tell_get _ _ _ (by omega)] at c4 c1
          have HD := Lib.hid (show colD s x = xo (colS s ((x + 4) % 5)) (rl 1 (colS s ((x + 1) % 5))) from rfl)
          have HT := Lib.hid (fun w => kturn_lit (colS s ((x + 1) % 5)) 1 1 w rfl (by decide) (colS_lt s _))
          have K1' := Lib.hid (show Blk wr w.heap.size 23 (natsV .u64 (tell (fun i => if i % 5 < x ∨ (i % 5 = x ∧ i / 5 < 0) then thetaAt s i else s.getD i 0) 25)) from by
            rw [← upd_iff (fun i => i % 5 < x) _ _ _ _ (by omega)]; exact K1.out)
          clear K1
          have e1 : IntKind.i64.wrap ((x : Int) + 4) = ((x + 4 : Nat) : Int) := by rw [IntWalk.i64_in _ (by omega)]; omega
          obtain ⟨x1, hx1⟩ : ∃ x1, x1 = x + 1 := ⟨_, rfl⟩
          have e2 : IntKind.i64.wrap ((x : Int) + 1) = (x1 : Int) := by rw [IntWalk.i64_in _ (by omega)]; omega
          have m1 : ((x + 4 : Nat) : Int).tmod 5 = (((x + 4) % 5 : Nat) : Int) := by rw [Int.tmod_eq_emod_of_nonneg (by omega)]; omega
          have m2 : (x1 : Int).tmod 5 = (((x + 1) % 5 : Nat) : Int) := by rw [Int.tmod_eq_emod_of_nonneg (by omega)]; omega
          have i1 : (((x + 4) % 5 : Nat) : Int) < 5 := by omega
          have i2 : (((x + 1) % 5 : Nat) : Int) < 5 := by omega
          generalize colS s ((x + 4) % 5) = y4 at *
          generalize colS s ((x + 1) % 5) = y1 at *
          generalize rl 1 y1 = z1 at *
          generalize (x + 4) % 5 = q4 at *
          generalize (x + 1) % 5 = q1 at *
          generalize x + 4 = x4 at *
          have HX1 := Lib.hid hx1
          clear hx1
          have rx := u64_xo
          go_wp2_with fail
          go_quiet ((go_at_call 40; exact Calls.quiet_of (HT.out _)))
          rw [← HD.out]
          clear rx e1 e2 m1 m2 c4 c1 i1 i2 HT HD
          obtain ⟨W5, hW5⟩ : ∃ W5 : World, wr.drewN nq = W5 := ⟨_, rfl⟩
          rw [hW5]
          have J1 := Lib.hid (show Blk W5 w.heap.size 23 _ from by rw [← hW5]; exact K1'.out)
          have J2 := Lib.hid (show Blk W5 (w.heap.size + 1) 23 (natsV .u64 (zeros 25)) from by rw [← hW5]; exact K2.out)
          have J3 := Lib.hid (show Blk W5 (w.heap.size + 1 + 1) 77 (natsV .u64 (tell (colS s) 5)) from by rw [← hW5]; exact K3.out)
          have hbel5 : Below w.heap.size w W5 := by rw [← hW5]; exact below_drewN hbel nq
          clear hW5 hbel K1' K2 K3
          go_wp2_with fail
          go_loopw [52] (fun i wr => ∃ y : Nat, y ≤ 5 ∧ i = .int .i64 y ∧ Blk wr w.heap.size 23 (natsV .u64 (tell (fun i => if i % 5 < x ∨ (i % 5 = x ∧ i / 5 < y) then thetaAt s i else s.getD i 0) 25)) ∧ Blk wr (w.heap.size + 1) 23 (natsV .u64 (zeros 25)) ∧ Blk wr (w.heap.size + 1 + 1) 77 (natsV .u64 (tell (colS s) 5)) ∧ Below w.heap.size w wr) (fun i _ => 5 - (intOf i).toNat)
          case atStart => exact ⟨0, by omega, rfl, J1.out, J2.out, J3.out, hbel5⟩
          case round =>
            clear hbel5 J1 J2 J3
            obtain ⟨y, hy5, rfl, k1, k2, k3, hbel⟩ := hrel
            have K1 := Lib.hid k1
            have K2 := Lib.hid k2
            have K3 := Lib.hid k3
            clear k1 k2 k3
            by_cases h5y : y < 5
            · have hyi : (y : Int) < 5 := by omega
              have hc := K1.out.nat (x + 5 * y) (by rw [tell_length]; omega)
              rw [upd_get _ _ _ _ _ (by omega) (by omega)] at hc
              have hf := K1.out.free (x + 5 * y)
              have HSET := Lib.hid (upd_step (fun i => i % 5 < x ∨ (i % 5 = x ∧ i / 5 < y)) (fun i => i % 5 < x ∨ (i % 5 = x ∧ i / 5 < y + 1)) (thetaAt s) (fun i => s.getD i 0) 25 (x + 5 * y) (xo (s.getD (x + 5 * y) 0) (colD s x)) (by omega) (by unfold thetaAt; rw [show (x + 5 * y) % 5 = x by omega]) (by omega))
              have d1 : (x : Int) + 5 * (y : Int) = ((x + 5 * y : Nat) : Int) := by omega
              have i1 : ((x + 5 * y : Nat) : Int) < 25 := by omega
              generalize s.getD (x + 5 * y) 0 = v at *
              generalize x + 5 * y = p at *
              generalize colD s x = cd at *
              have rx := u64_xo
              go_wp2_with fail
              have k1 := K1.out.natSet p (xo v cd)
              rw [HSET.out] at k1
              have k2 := K2.out.other ⟨w.heap.size, p, none⟩ (.int .u64 (xo v cd : Nat)) (by simp)
              have k3 := K3.out.other ⟨w.heap.size, p, none⟩ (.int .u64 (xo v cd : Nat)) (by simp; omega)
              have hb2 := hbel.setCell (p := ⟨w.heap.size, p, none⟩) (Nat.le_refl _) (.int .u64 (xo v cd : Nat))
              go_roundw
              case rel => exact ⟨y + 1, by omega, by go_num, k1, k2, k3, hb2⟩
              case measure => simp [intOf]; omega
            · obtain rfl : y = 5 := by omega
              have k1 : Blk wr w.heap.size 23 (natsV .u64 (tell (fun i => if i % 5 < x + 1 then thetaAt s i else s.getD i 0) 25)) := by
                rw [← upd_iff (fun i => i % 5 < x ∨ (i % 5 = x ∧ i / 5 < 5)) _ _ _ _ (by omega)]; exact K1.out
              have K1' := Lib.hid k1
              clear k1 K1
              rw [show ((5 : Nat) : Int) = 5 from rfl]
              go_wp2_with fail
              go_roundw
              case rel => exact ⟨x + 1, by omega, by go_num, K1'.out, K2.out, K3.out, hbel⟩
              case measure => simp [intOf]; omega
        · obtain rfl : x = 5 := by omega
          rw [show ((5 : Nat) : Int) = 5 from rfl]
          have J1 := Lib.hid (show Blk wr w.heap.size 23 (natsV .u64 (theta s)) from by
            have := K1.out
            rwa [upd_all _ _ _ _ (by omega)] at this)
          have HL := Lib.hid (theta_good s).1
          clear K1
          generalize theta s = m at *
          go_wp2_with (first | (refine wpList_load_row rfl 23 (.tmp 1) rfl w.heap.size rfl 23 (natsV .u64 m).toArray (0, 0) _ J1.out Tryd.underlying23 rfl (by rw [info23, size_nats, HL.out]) ?_) | (refine wpList_store_row rfl 23 (.tmp 2) (.tmp 66) rfl (w.heap.size + 1) (natsV .u64 m).toArray rfl rfl 23 (natsV .u64 (zeros 25)).toArray K2.out (by rw [info23, size_nats, HL.out]) (by rw [size_nats, size_nats, HL.out]; rfl) (all_nats _ _) ?_))
          have j2 := K2.out.setRow (natsV .u64 m)
          have hb2 := below_setRow' hbel (show w.heap.size ≤ w.heap.size + 1 by omega) (natsV .u64 m).toArray
          refine bodyPost_ret (v := .agg (natsV .u64 m).toArray) ?_ rfl ⟨rfl, hb2⟩
          exact results_cell_row Tryd.results26 _ _ (w.heap.size + 1) 23 _ (0, 0) _ rfl j2 Tryd.underlying23 rfl (by rw [info23, size_nats, HL.out])
end Go.Proofs.YtidnlaibfkjgpaaDoor
