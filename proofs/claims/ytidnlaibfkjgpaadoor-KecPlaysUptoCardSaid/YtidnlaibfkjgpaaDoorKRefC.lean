/- The document's turn, offsets and constants. No condition but on the word. -/
import Derived.Test.YtidnlaibfkjgpaaDoorKPerm
namespace Go.Proofs.YtidnlaibfkjgpaaDoor
open Go.RowKit
set_option linter.unusedVariables false
theorem u64_cast (p : Nat) (h : p < 2 ^ 64) : IntKind.u64.wrap (p : Int) = (p : Int) := by rw [IntKind.wrap_u64]; omega
theorem zeros_get (n i : Nat) : (zeros n).getD i 0 = 0 := by
  unfold zeros; rw [List.getD_eq_getElem?_getD, List.getElem?_replicate]; split <;> rfl
theorem rl_zero {x : Nat} (hx : x < 2 ^ 64) : rl 0 x = x := by
  unfold rl; rw [Nat.mod_eq_of_lt (by simpa using hx), Nat.div_eq_of_lt (by simpa using hx)]; omega
set_option maxHeartbeats 400000 in
theorem left_any (x n : Nat) (hn : n < 64) (hx : x < 2 ^ 64) (w : World) :
    Calls Tryd.prog 31 #[.int .u64 (x : Nat), .int .i64 (n : Nat)] w fun e w' => e = .returned (.int .u64 (rl n x : Nat)) ∧ w = w' := by
  by_cases h0 : n = 0
  · subst h0
    rw [rl_zero hx]
    go_enter Tryd.func31, Tryd.ntmps31
    go_wp2_with fail
    go_ret
    exact ⟨rfl, rfl⟩
  · have hb : ((n : Int) == 0) = false := by simp; omega
    have hr := rl_add hx (show n ≤ 64 by omega)
    have hrl : rl n x < 2 ^ 64 := rl_lt (by omega) hx
    have e0 : IntKind.u64.wrap (n : Int) = (n : Int) := u64_cast _ (by omega)
    have e1 : (64 : Int) - (n : Int) = ((64 - n : Nat) : Int) := by omega
    have e2 : IntKind.u64.wrap ((64 - n : Nat) : Int) = ((64 - n : Nat) : Int) := u64_cast _ (by omega)
    have e3 : min n 64 = n := by omega
    have e4 : min (64 - n) 64 = 64 - n := by omega
    have s1 : IntKind.u64.wrap ((x : Int) * 2 ^ n) = ((x * 2 ^ n % 2 ^ 64 : Nat) : Int) := by rw [cast_pow, ← Int.natCast_mul, IntKind.wrap_u64]; omega
    have d1 : (x : Int) / 2 ^ (64 - n) = ((x / 2 ^ (64 - n) : Nat) : Int) := by rw [cast_pow, ← Int.natCast_ediv]
    generalize x * 2 ^ n % 2 ^ 64 = a at *
    generalize x / 2 ^ (64 - n) = b at *
    have s2 : IntKind.u64.wrap ((a : Int) + (b : Int)) = ((rl n x : Nat) : Int) := by rw [← Int.natCast_add, hr]; exact u64_cast _ hrl
    have s3 : (a : Int) + (b : Int) = ((rl n x : Nat) : Int) := by omega
    have HR := Lib.hid hr
    clear hr
    generalize rl n x = r at *
    have hm : (64 - n : Nat) ≤ 64 := by omega
    generalize 64 - n = m at *
    go_enter Tryd.func31, Tryd.ntmps31
    go_wp2_with fail
    go_ret
    first | exact ⟨rfl, rfl⟩ | (refine ⟨ret1 ?_, rfl⟩; simp [s1, d1, s2, s3])
theorem left_lit (x : Nat) (m : Int) (n : Nat) (hm : m = (n : Int)) (hn : n < 64) (hx : x < 2 ^ 64) (w : World) :
    Calls Tryd.prog 31 #[.int .u64 (x : Nat), .int .i64 m] w fun e w' => e = .returned (.int .u64 (rl n x : Nat)) ∧ w = w' := hm ▸ left_any x n hn hx w
def offS : List Nat := [0, 1, 62, 28, 27, 36, 44, 6, 55, 20, 3, 10, 43, 25, 39, 41, 45, 15, 21, 8, 18, 2, 61, 56, 14]
def stepS : List Nat := [24, 0, 18, 6, 12, 7, 23, 2, 9, 22, 1, 3, 17, 16, 20, 13, 8, 4, 5, 15, 19, 10, 21, 14, 11]
theorem posS_facts : ∀ t, t < 24 → posX.getD t 0 < 5 ∧ posY.getD t 0 < 5 ∧ posX.getD (t + 1) 0 = posY.getD t 0 ∧ posY.getD (t + 1) 0 = (2 * posX.getD t 0 + 3 * posY.getD t 0) % 5 ∧
    offS.getD (posX.getD t 0 + 5 * posY.getD t 0) 0 = (t + 1) * (t + 2) / 2 % 64 := by decide +kernel
theorem stepS_facts : ∀ t, t < 24 → ∀ i, i < 25 → (stepS.getD i 0 < t + 1 ↔ stepS.getD i 0 < t ∨ i = posX.getD t 0 + 5 * posY.getD t 0) := by decide +kernel
theorem stepS_none : ∀ i, i < 25 → ¬ stepS.getD i 0 < 0 := by decide +kernel
theorem offS_all : tell (fun i => if stepS.getD i 0 < 24 then offS.getD i 0 else (zeros 25).getD i 0) 25 = offS := by decide +kernel
theorem info62 : (Tryd.prog.info? 62).map (·.size) = some 25 := by kernel_rfl
theorem info61 : (Tryd.prog.info? 61).map (·.size) = some 24 := by kernel_rfl
/-- what a call answers that gives an array of numbers -/
def NumsIs (k : IntKind) (l : List Nat) (w : World) (e : Ending) (w' : World) : Prop := e = .returned (.agg (natsV k l).toArray) ∧ Below w.heap.size w w'
set_option maxRecDepth 100000 in
set_option maxHeartbeats 4000000 in
theorem offsets_any (w : World) : Calls Tryd.prog 29 #[] w (NumsIs .i64 offS w) := by
  have B1 := Lib.hid ((((Blk.new w 62 (natsV .i64 (zeros 25))).alloc (.cells (natsV .i64 (zeros 25)).toArray 62))))
  have B2 := Lib.hid ((Blk.new2 w (.cells (natsV .i64 (zeros 25)).toArray 62) 62 (natsV .i64 (zeros 25))))
  have BEL := Lib.hid ((((Below.refl w.heap.size w).alloc (Nat.le_refl _) (.cells (natsV .i64 (zeros 25)).toArray 62)).alloc (by simp) (.cells (natsV .i64 (zeros 25)).toArray 62)))
  go_enter Tryd.func29, Tryd.ntmps29
  go_wp2_with fail
  go_loopw [2, 3, 4] (fun x y i wr => ∃ t : Nat, t ≤ 24 ∧ i = .int .i64 t ∧ x = .int .i64 (posX.getD t 0 : Nat) ∧ y = .int .i64 (posY.getD t 0 : Nat) ∧ Blk wr w.heap.size 62 (natsV .i64 (zeros 25)) ∧ Blk wr (w.heap.size + 1) 62 (natsV .i64 (tell (fun i => if stepS.getD i 0 < t then offS.getD i 0 else (zeros 25).getD i 0) 25)) ∧ Below w.heap.size w wr) (fun _ _ i _ => 24 - (intOf i).toNat)
  case atStart => exact ⟨0, by omega, rfl, rfl, rfl, B1.out, by rw [upd_none _ _ (zeros 25) 25 rfl stepS_none]; exact B2.out, BEL.out⟩
  case round =>
    clear B1 B2 BEL
    obtain ⟨t, ht, rfl, rfl, rfl, k1, k3, hbel⟩ := hrel
    have K1 := Lib.hid k1
    have K3 := Lib.hid k3
    clear k1 k3
    by_cases h24 : t < 24
    · have hti : (t : Int) < 24 := by omega
      obtain ⟨hX, hY, f1, f2, f5⟩ := posS_facts t h24
      have HU := Lib.hid (stepS_facts t h24)
      have HXX := Lib.hid f1
      have HY2 := Lib.hid f2
      have hm := mul_facts t h24
      clear f1 f2
      generalize posX.getD t 0 = X at *
      generalize posY.getD t 0 = Y at *
      have HSET := Lib.hid (upd_step (fun i => stepS.getD i 0 < t) (fun i => stepS.getD i 0 < t + 1) (fun i => offS.getD i 0) (fun i => (zeros 25).getD i 0) 25 (X + 5 * Y) ((t + 1) * (t + 2) / 2 % 64) (by omega) f5.symm HU.out)
      have c3 := K3.out.nat (X + 5 * Y) (by rw [tell_length]; omega)
      have hf := K3.out.free (X + 5 * Y)
      have d1 : (X : Int) + 5 * (Y : Int) = ((X + 5 * Y : Nat) : Int) := by omega
      have d2 : (2 * (X : Int) + 3 * (Y : Int)) % 5 = (((2 * X + 3 * Y) % 5 : Nat) : Int) := by omega
      have m1 : ((t : Int) + 1) * ((t : Int) + 2) = (((t + 1) * (t + 2) : Nat) : Int) := by simp
      have m2 : IntKind.i64.wrap (((t : Int) + 1) * ((t : Int) + 2)) = (((t + 1) * (t + 2) : Nat) : Int) := by rw [m1]; exact IntWalk.i64_in _ (by omega)
      have m3 : (((t + 1) * (t + 2) : Nat) : Int) / 2 % 64 = (((t + 1) * (t + 2) / 2 % 64 : Nat) : Int) := by omega
      have i1 : ((X + 5 * Y : Nat) : Int) < 25 := by omega
      have ho : (t + 1) * (t + 2) / 2 % 64 < 64 := Nat.mod_lt _ (by decide)
      clear f5 HU
      generalize (t + 1) * (t + 2) / 2 % 64 = o at *
      generalize (t + 1) * (t + 2) = m at *
      generalize X + 5 * Y = p at *
      generalize (2 * X + 3 * Y) % 5 = Y2 at *
      go_wp2_with fail
      have k3 := K3.out.natSet p o
      rw [HSET.out] at k3
      have k1 := K1.out.other ⟨w.heap.size + 1, p, none⟩ (.int .i64 (o : Nat)) (by simp)
      have hb2 := hbel.setCell (p := ⟨w.heap.size + 1, p, none⟩) (by simp) (.int .i64 (o : Nat))
      go_roundw
      case rel => exact ⟨t + 1, by omega, by go_num, by rw [HXX.out], (by rw [HY2.out]; first | rfl | rw [d2]), k1, k3, hb2⟩
      case measure => simp [intOf]; omega
    · obtain rfl : t = 24 := by omega
      rw [show ((24 : Nat) : Int) = 24 from rfl]
      have J3 := Lib.hid (show Blk wr (w.heap.size + 1) 62 (natsV .i64 offS) from by have := K3.out; rwa [offS_all] at this)
      have HL := Lib.hid (show offS.length = 25 from rfl)
      clear K3
      generalize offS = m at *
      go_wp2_with (first | (refine wpList_load_row rfl 62 (.tmp 1) rfl (w.heap.size + 1) rfl 62 (natsV .i64 m).toArray (0, 0) _ J3.out Tryd.underlying62 rfl (by rw [info62, size_nats, HL.out]) ?_) | (refine wpList_store_row rfl 62 (.tmp 0) (.tmp 30) rfl w.heap.size (natsV .i64 m).toArray rfl rfl 62 (natsV .i64 (zeros 25)).toArray K1.out (by rw [info62, size_nats, HL.out]) (by rw [size_nats, size_nats, HL.out]; rfl) (all_nats _ _) ?_))
      have j2 := K1.out.setRow (natsV .i64 m)
      have hb2 := below_setRow' hbel (Nat.le_refl _) (natsV .i64 m).toArray
      refine bodyPost_ret (v := .agg (natsV .i64 m).toArray) ?_ rfl ⟨rfl, hb2⟩
      exact results_cell_row Tryd.results29 _ _ w.heap.size 62 _ (0, 0) _ rfl j2 Tryd.underlying62 rfl (by rw [info62, size_nats, HL.out])
def nAt : List Nat := [1, 2, 4, 8, 16, 32, 64, 128, 113, 226, 181, 27, 54, 108, 216, 193, 243, 151, 95, 190, 13, 26, 52, 104, 208, 209, 211, 215, 223, 207, 239, 175, 47, 94, 188, 9, 18, 36, 72, 144, 81, 162, 53, 106, 212, 217, 195, 247, 159, 79, 158, 77, 154, 69, 138, 101, 202, 229, 187, 7, 14, 28, 56, 112, 224, 177, 19, 38, 76, 152, 65, 130, 117, 234, 165, 59, 118, 236, 169, 35, 70, 140, 105, 210, 213, 219, 199, 255, 143, 111, 222, 205, 235, 167, 63, 126, 252, 137, 99, 198, 253, 139, 103, 206, 237, 171, 39, 78, 156, 73, 146, 85, 170, 37, 74, 148, 89, 178, 21, 42, 84, 168, 33, 66, 132, 121, 242, 149, 91, 182, 29, 58, 116, 232, 161, 51, 102, 204, 233, 163, 55, 110, 220, 201, 227, 183, 31, 62, 124, 248, 129, 115, 230, 189, 11, 22, 44, 88, 176, 17, 34, 68, 136, 97, 194, 245, 155, 71, 142]
/-- a constant's bits up to the j-th -/
def partC (t : Nat) : Nat → Nat
  | 0 => 0
  | j + 1 => partC t j + nAt.getD (7 * t + j) 0 % 2 * 2 ^ (2 ^ j - 1)
theorem partC_facts : ∀ t, t < 24 → partC t 7 = rcT.getD t 0 ∧ ∀ j, j < 7 → partC t j + nAt.getD (7 * t + j) 0 % 2 * 2 ^ (2 ^ j - 1) < 2 ^ 64 := by decide +kernel
theorem nAt_lo : ∀ k, k < 168 → 2 * nAt.getD k 0 ≤ 255 → nAt.getD (k + 1) 0 = 2 * nAt.getD k 0 := by decide +kernel
theorem nAt_hi : ∀ k, k < 168 → 255 < 2 * nAt.getD k 0 → bits .xor .i64 ((2 * nAt.getD k 0 - 256 : Nat) : Int) 113 = ((nAt.getD (k + 1) 0 : Nat) : Int) := by decide +kernel
theorem nAt_lt : ∀ k, k < 168 → nAt.getD k 0 < 256 := by decide +kernel
theorem pow_facts : ∀ j, j < 7 → 1 ≤ 2 ^ j ∧ 2 ^ j ≤ 64 ∧ 2 ^ (j + 1) = 2 * 2 ^ j := by decide
set_option maxRecDepth 100000 in
set_option maxHeartbeats 4000000 in
theorem constants_any (w : World) : Calls Tryd.prog 30 #[] w (NumsIs .u64 rcT w) := by
  have B1 := Lib.hid ((((Blk.new w 61 (natsV .u64 (zeros 24))).alloc (.cells (natsV .u64 (zeros 24)).toArray 61))))
  have B2 := Lib.hid ((Blk.new2 w (.cells (natsV .u64 (zeros 24)).toArray 61) 61 (natsV .u64 (zeros 24))))
  have BEL := Lib.hid ((((Below.refl w.heap.size w).alloc (Nat.le_refl _) (.cells (natsV .u64 (zeros 24)).toArray 61)).alloc (by simp) (.cells (natsV .u64 (zeros 24)).toArray 61)))
  go_enter Tryd.func30, Tryd.ntmps30
  go_wp2_with fail
  go_loopw [2, 3] (fun n i wr => ∃ t : Nat, t ≤ 24 ∧ i = .int .i64 t ∧ n = .int .i64 (nAt.getD (7 * t) 0 : Nat) ∧ Blk wr w.heap.size 61 (natsV .u64 (zeros 24)) ∧ Blk wr (w.heap.size + 1) 61 (natsV .u64 (tell (fun i => if i < t then rcT.getD i 0 else (zeros 24).getD i 0) 24)) ∧ Below w.heap.size w wr) (fun _ i _ => 24 - (intOf i).toNat)
  case atStart => exact ⟨0, by omega, rfl, rfl, B1.out, by rw [upd_none _ _ (zeros 24) 24 rfl (by omega)]; exact B2.out, BEL.out⟩
  case round =>
    clear B1 B2 BEL
    obtain ⟨t, ht, rfl, rfl, k1, k3, hbel⟩ := hrel
    have K1 := Lib.hid k1
    have K3 := Lib.hid k3
    clear k1 k3
    by_cases h24 : t < 24
    · have hti : (t : Int) < 24 := by omega
      have HPF := Lib.hid (partC_facts t h24)
      have HEND := Lib.hid (upd_step (fun i => i < t) (fun i => i < t + 1) (fun i => rcT.getD i 0) (fun i => (zeros 24).getD i 0) 24 t (rcT.getD t 0) h24 rfl (by omega))
      have HLEN := Lib.hid (show (tell (fun i => if i < t then rcT.getD i 0 else (zeros 24).getD i 0) 24).length = 24 from tell_length _ _)
      have h0 : (tell (fun i => if i < t then rcT.getD i 0 else (zeros 24).getD i 0) 24).set t 0 = tell (fun i => if i < t then rcT.getD i 0 else (zeros 24).getD i 0) 24 := by
        rw [tell_set]
        refine tell_congr fun i hi => ?_
        by_cases hit : i = t
        · subst hit; rw [if_pos rfl, if_neg (by omega), zeros_get]
        · rw [if_neg hit]
      have K3' := Lib.hid (show Blk wr (w.heap.size + 1) 61 (natsV .u64 ((tell (fun i => if i < t then rcT.getD i 0 else (zeros 24).getD i 0) 24).set t (partC t 0))) from by
        rw [show partC t 0 = 0 from rfl, h0]; exact K3.out)
      clear K3 h0
      generalize tell (fun i => if i < t then rcT.getD i 0 else (zeros 24).getD i 0) 24 = Z at *
      go_wp2_with fail
      go_loopw [2, 4, 5] (fun n p i wr => ∃ j : Nat, j ≤ 7 ∧ i = .int .i64 j ∧ n = .int .i64 (nAt.getD (7 * t + j) 0 : Nat) ∧ p = .int .i64 (2 ^ j : Nat) ∧ Blk wr w.heap.size 61 (natsV .u64 (zeros 24)) ∧ Blk wr (w.heap.size + 1) 61 (natsV .u64 (Z.set t (partC t j))) ∧ Below w.heap.size w wr) (fun _ _ i _ => 7 - (intOf i).toNat)
      case atStart => exact ⟨0, by omega, rfl, rfl, rfl, K1.out, K3'.out, hbel⟩
      case round =>
        clear hbel K1 K3'
        obtain ⟨j, hj, rfl, rfl, rfl, k1, k3, hbel⟩ := hrel
        have K1 := Lib.hid k1
        have K3 := Lib.hid k3
        clear k1 k3
        by_cases hj7 : j < 7
        · have hji : (j : Int) < 7 := by omega
          have HNL := Lib.hid (nAt_lo (7 * t + j) (by omega))
          have HNH := Lib.hid (nAt_hi (7 * t + j) (by omega))
          have hn := nAt_lt (7 * t + j) (by omega)
          obtain ⟨hp1, hp2, hp3⟩ := pow_facts j hj7
          have hov := HPF.out.2 j hj7
          have HPS := Lib.hid (show partC t (j + 1) = partC t j + nAt.getD (7 * t + j) 0 % 2 * 2 ^ (2 ^ j - 1) from rfl)
          have HP3 := Lib.hid hp3
          have hc := K3.out.nat t (by rw [List.length_set, HLEN.out]; exact h24)
          rw [show (Z.set t (partC t j)).getD t 0 = partC t j from by rw [List.getD_eq_getElem?_getD, List.getElem?_set_self (by rw [HLEN.out]; exact h24)]; rfl] at hc
          have hf := K3.out.free t
          clear hp3
          rw [show 7 * t + j + 1 = 7 * t + (j + 1) from rfl] at HNL HNH
          generalize hN2 : nAt.getD (7 * t + (j + 1)) 0 = n2 at *
          have HN2 := Lib.hid hN2
          clear hN2
          generalize nAt.getD (7 * t + j) 0 = n at *
          generalize partC t j = P at *
          generalize 2 ^ j = q at *
          have e1 : IntKind.u64.wrap ((n : Int) % 2) = ((n % 2 : Nat) : Int) := by rw [IntKind.wrap_u64]; omega
          have e1' : (n : Int) % 2 = ((n % 2 : Nat) : Int) := by omega
          have e2 : (q : Int) - 1 = ((q - 1 : Nat) : Int) := by omega
          have e3 : IntKind.u64.wrap ((q - 1 : Nat) : Int) = ((q - 1 : Nat) : Int) := u64_cast _ (by omega)
          have e4 : min (q - 1) 64 = q - 1 := by omega
          have hb2 : n % 2 * 2 ^ (q - 1) < 2 ^ 64 := by omega
          have e5 : IntKind.u64.wrap (((n % 2 : Nat) : Int) * 2 ^ (q - 1)) = ((n % 2 * 2 ^ (q - 1) : Nat) : Int) := by rw [cast_pow, ← Int.natCast_mul]; exact u64_cast _ hb2
          have e6 : IntKind.u64.wrap ((P : Int) + ((n % 2 * 2 ^ (q - 1) : Nat) : Int)) = ((P + n % 2 * 2 ^ (q - 1) : Nat) : Int) := by rw [← Int.natCast_add]; exact u64_cast _ hov
          have e6' : (P : Int) + ((n % 2 * 2 ^ (q - 1) : Nat) : Int) = ((P + n % 2 * 2 ^ (q - 1) : Nat) : Int) := by omega
          have hmod : n % 2 < 2 := Nat.mod_lt _ (by decide)
          generalize P + n % 2 * 2 ^ (q - 1) = S at *
          generalize n % 2 * 2 ^ (q - 1) = sh at *
          generalize n % 2 = bt at *
          have hq1 : q - 1 ≤ 63 := by omega
          generalize q - 1 = q1 at *
          by_cases hgt : 255 < 2 * n
          · have hx := HNH.out hgt
            have g1 : decide ((255 : Int) < 2 * (n : Int)) = true := by simp; omega
            have e8 : 2 * (n : Int) - 256 = ((2 * n - 256 : Nat) : Int) := by omega
            generalize 2 * n - 256 = m at *
            clear HNL HNH
            go_wp2_with fail
            have k3 := K3.out.natSet t S
            rw [List.set_set] at k3
            have k1 := K1.out.other ⟨w.heap.size + 1, t, none⟩ (.int .u64 (S : Nat)) (by simp)
            have hb3 := hbel.setCell (p := ⟨w.heap.size + 1, t, none⟩) (by simp) (.int .u64 (S : Nat))
            go_roundw
            case rel => exact ⟨j + 1, by omega, by go_num, by rw [HN2.out], by rw [HP3.out]; go_num, k1, by rw [HPS.out]; exact k3, hb3⟩
            case measure => simp [intOf]; omega
          · have hx := HNL.out (by omega)
            have g1 : decide ((255 : Int) < 2 * (n : Int)) = false := by simp; omega
            have e8 : 2 * (n : Int) = (n2 : Int) := by omega
            have HX := Lib.hid hx
            clear HNL HNH hx
            go_wp2_with fail
            have k3 := K3.out.natSet t S
            rw [List.set_set] at k3
            have k1 := K1.out.other ⟨w.heap.size + 1, t, none⟩ (.int .u64 (S : Nat)) (by simp)
            have hb3 := hbel.setCell (p := ⟨w.heap.size + 1, t, none⟩) (by simp) (.int .u64 (S : Nat))
            go_roundw
            case rel => exact ⟨j + 1, by omega, by go_num, by rw [HN2.out], by rw [HP3.out]; go_num, k1, by rw [HPS.out]; exact k3, hb3⟩
            case measure => simp [intOf]; omega
        · obtain rfl : j = 7 := by omega
          rw [show ((7 : Nat) : Int) = 7 from rfl]
          have K3' := Lib.hid (show Blk wr (w.heap.size + 1) 61 (natsV .u64 (tell (fun i => if i < t + 1 then rcT.getD i 0 else (zeros 24).getD i 0) 24)) from by
            rw [← HEND.out, ← HPF.out.1]; exact K3.out)
          clear K3 HEND HPF
          rw [show 7 * t + 7 = 7 * (t + 1) from by omega]
          generalize hN2 : nAt.getD (7 * (t + 1)) 0 = n2 at *
          have HN2 := Lib.hid hN2
          clear hN2
          go_wp2_with fail
          go_roundw
          case rel => exact ⟨t + 1, by omega, by go_num, by rw [HN2.out], K1.out, K3'.out, hbel⟩
          case measure => simp [intOf]; omega
    · obtain rfl : t = 24 := by omega
      rw [show ((24 : Nat) : Int) = 24 from rfl]
      have J3 := Lib.hid (show Blk wr (w.heap.size + 1) 61 (natsV .u64 rcT) from by
        have := K3.out
        rw [upd_all _ _ _ _ (by omega), tell_self rcT 24 rfl] at this; exact this)
      have HL := Lib.hid (show rcT.length = 24 from rfl)
      clear K3
      generalize nAt.getD (7 * 24) 0 = n at *
      generalize rcT = m at *
      go_wp2_with (first | (refine wpList_load_row rfl 61 (.tmp 1) rfl (w.heap.size + 1) rfl 61 (natsV .u64 m).toArray (0, 0) _ J3.out Tryd.underlying61 rfl (by rw [info61, size_nats, HL.out]) ?_) | (refine wpList_store_row rfl 61 (.tmp 0) (.tmp 36) rfl w.heap.size (natsV .u64 m).toArray rfl rfl 61 (natsV .u64 (zeros 24)).toArray K1.out (by rw [info61, size_nats, HL.out]) (by rw [size_nats, size_nats, HL.out]; rfl) (all_nats _ _) ?_))
      have j2 := K1.out.setRow (natsV .u64 m)
      have hb2 := below_setRow' hbel (Nat.le_refl _) (natsV .u64 m).toArray
      refine bodyPost_ret (v := .agg (natsV .u64 m).toArray) ?_ rfl ⟨rfl, hb2⟩
      exact results_cell_row Tryd.results30 _ _ w.heap.size 61 _ (0, 0) _ rfl j2 Tryd.underlying61 rfl (by rw [info61, size_nats, HL.out])
end Go.Proofs.YtidnlaibfkjgpaaDoor
