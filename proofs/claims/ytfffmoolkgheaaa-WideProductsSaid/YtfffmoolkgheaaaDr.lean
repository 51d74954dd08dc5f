/- DivRem, where the divisor is not 0. Condition: that, and the sizes of the arguments. -/
import Derived.Test.YtfffmoolkgheaaaDv
import Derived.Test.YtfffmoolkgheaaaAw
namespace Go.Proofs.Ytfffmoolkgheaaa
open Go.RowKit
set_option linter.unusedVariables false
set_option linter.unusedSimpArgs false
theorem results_three {P : Program} {fn : Func} {p q r : Tmp} {ty ty2 : TypeId} (h : fn.results = #[.cell p ty, .cell q ty2, .tmp r]) (tmps : Array Value) (w : World) (g g2 : Nat) (t t2 : TypeId) (cs cs2 : Array Value) (fr fr2 : Nat × Nat) (d d2 : TypeDesc) (v : Value)
    (hp : tmps.getD p undef = .pointer (some ⟨g, 0, none⟩)) (hq : tmps.getD q undef = .pointer (some ⟨g2, 0, none⟩)) (hr : tmps.getD r undef = v) (hg : w.heap[g]? = some (.cells cs t fr)) (hg2 : w.heap[g2]? = some (.cells cs2 t2 fr2))
    (hu : P.underlying ty = some d) (hd : (match d with | .struct _ | .array _ _ => true | _ => false) = true) (hi : (P.info? ty).map (·.size) = some cs.size)
    (hu2 : P.underlying ty2 = some d2) (hd2 : (match d2 with | .struct _ | .array _ _ => true | _ => false) = true) (hi2 : (P.info? ty2).map (·.size) = some cs2.size) :
    (results fn tmps).run P w = .ok (.tuple #[.agg cs, .agg cs2, v]) w := by
  have hp' : tmps[p]?.getD undef = .pointer (some ⟨g, 0, none⟩) := by simpa using hp
  have hq' : tmps[q]?.getD undef = .pointer (some ⟨g2, 0, none⟩) := by simpa using hq
  have hr' : tmps[r]?.getD undef = v := by simpa using hr
  simp [results, h, hp', hq', hr', asAddr, run_loadVar_row w g t ty cs fr d hg hu hd hi, run_loadVar_row w g2 t2 ty2 cs2 fr2 d2 hg2 hu2 hd2 hi2]
set_option maxRecDepth 100000 in
set_option maxHeartbeats 1600000 in
theorem DivRem_any (L U m : Nat) (w : World) (hL : L < 2 ^ 256) (hU : U < 2 ^ 256) (hm : m < 2 ^ 256) (h0 : m ≠ 0) :
    Calls Try.prog 12 #[.agg (natsV .u64 (wds 8 (L + 2 ^ 256 * U))).toArray, .agg (natsV .u64 (wds 4 m)).toArray] w fun e w' => e = .returned (.tuple #[.agg (natsV .u64 (wds 8 ((L + 2 ^ 256 * U) / m))).toArray, .agg (natsV .u64 (wds 4 ((L + 2 ^ 256 * U) % m))).toArray, .int .i64 0]) ∧ Below w.heap.size w w' := by
  have HC := Lib.hid (fun w => divide_any L U m w hL hU hm h0)
  have Q := Lib.hid (fun w => show (binOp .eql 24 (.agg (natsV .u64 (wds 4 m)).toArray) (.agg #[.int .u64 0, .int .u64 0, .int .u64 0, .int .u64 0])).run Try.prog w = .ok (.bool false) w from by
    rw [num_lit0, eql24 _ _ (wds_len 4 m) (wds_len 4 0), wds_inj 4 m 0 (by exact hm) (by decide), decide_eq_false h0])
  have LX := Lib.hid (wds_len 8 (L + 2 ^ 256 * U))
  have Lm := Lib.hid (wds_len 4 m)
  have LQ := Lib.hid (wds_len 8 ((L + 2 ^ 256 * U) / m))
  have LR := Lib.hid (wds_len 4 ((L + 2 ^ 256 * U) % m))
  generalize wds 8 ((L + 2 ^ 256 * U) / m) = lQ at *
  generalize wds 4 ((L + 2 ^ 256 * U) % m) = lR at *
  generalize wds 8 (L + 2 ^ 256 * U) = lx at *
  generalize wds 4 m = lm at *
  clear hL hU hm h0
  have i42 : (Try.prog.info? 26).map (·.size) = some (natsV .u64 lQ).length := by rw [info26, natsV_length, LQ.out]
  have i25 : (Try.prog.info? 24).map (·.size) = some (natsV .u64 lR).length := by rw [info24, natsV_length, LR.out]
  have B1 := Lib.hid ((((Blk.new w 26 (natsV .u64 lx)).alloc (.cells (natsV .u64 lm).toArray 24)).alloc (.cells (natsV .u64 (zeros 8)).toArray 26)).alloc (.cells (natsV .u64 (zeros 4)).toArray 24))
  have B2 := Lib.hid (((Blk.new2 w (.cells (natsV .u64 lx).toArray 26) 24 (natsV .u64 lm)).alloc (.cells (natsV .u64 (zeros 8)).toArray 26)).alloc (.cells (natsV .u64 (zeros 4)).toArray 24))
  have B3 := Lib.hid ((Blk.new3 w (.cells (natsV .u64 lx).toArray 26) (.cells (natsV .u64 lm).toArray 24) 26 (natsV .u64 (zeros 8))).alloc (.cells (natsV .u64 (zeros 4)).toArray 24))
  have B4 := Lib.hid (Blk.new4 w (.cells (natsV .u64 lx).toArray 26) (.cells (natsV .u64 lm).toArray 24) (.cells (natsV .u64 (zeros 8)).toArray 26) 24 (natsV .u64 (zeros 4)))
  have BEL := Lib.hid (((((Below.refl w.heap.size w).alloc (Nat.le_refl _) (.cells (natsV .u64 lx).toArray 26)).alloc (by simp) (.cells (natsV .u64 lm).toArray 24)).alloc (by simp; omega) (.cells (natsV .u64 (zeros 8)).toArray 26)).alloc (by simp; omega) (.cells (natsV .u64 (zeros 4)).toArray 24))
  have q := Q.out
  go_enter Try.func12, Try.ntmps12
  go_wp2_with (first | (refine ld24 rfl (.tmp 3) rfl (w.heap.size + 1) rfl lm B2.out Lm.out ?_) | (refine ld26 rfl (.tmp 2) rfl w.heap.size rfl lx B1.out LX.out ?_))
  clear q Q
  refine (HC.out _).mono ?_
  rintro e w1 ⟨rfl, hb1⟩
  have C3 := Lib.hid (B3.out.below' hb1)
  have C4 := Lib.hid (B4.out.below' hb1)
  have bel1 := BEL.out.trans (hb1.mono BEL.out.size)
  have hlt := C4.out.lt
  clear B1 B2 B3 B4 BEL hb1 HC
  have D3 := Lib.hid ((C3.out.alloc (.cells (natsV .u64 (zeros 8)).toArray 26)).alloc (.cells (natsV .u64 (zeros 4)).toArray 24))
  have D4 := Lib.hid ((C4.out.alloc (.cells (natsV .u64 (zeros 8)).toArray 26)).alloc (.cells (natsV .u64 (zeros 4)).toArray 24))
  have D7 := Lib.hid ((Blk.new w1 26 (natsV .u64 (zeros 8))).alloc (.cells (natsV .u64 (zeros 4)).toArray 24))
  have D8 := Lib.hid (Blk.new2 w1 (.cells (natsV .u64 (zeros 8)).toArray 26) 24 (natsV .u64 (zeros 4)))
  have bel2 := (bel1.alloc bel1.size (.cells (natsV .u64 (zeros 8)).toArray 26)).alloc (by have := bel1.size; simp; omega) (.cells (natsV .u64 (zeros 4)).toArray 24)
  have E8 := Lib.hid (D8.out.row (natsV .u64 lQ).toArray (show w1.heap.size + 1 ≠ w1.heap.size by omega))
  have F3 := Lib.hid ((D3.out.row (natsV .u64 lQ).toArray (show w.heap.size + 1 + 1 ≠ w1.heap.size by omega)).row (natsV .u64 lR).toArray (show w.heap.size + 1 + 1 ≠ w1.heap.size + 1 by omega))
  have F4 := Lib.hid ((D4.out.row (natsV .u64 lQ).toArray (show w.heap.size + 1 + 1 + 1 ≠ w1.heap.size by omega)).row (natsV .u64 lR).toArray (show w.heap.size + 1 + 1 + 1 ≠ w1.heap.size + 1 by omega))
  have F7 := Lib.hid ((D7.out.setRow (natsV .u64 lQ)).row (natsV .u64 lR).toArray (show w1.heap.size ≠ w1.heap.size + 1 by omega))
  have F8 := Lib.hid (E8.out.setRow (natsV .u64 lR))
  have bel3 := below_setRow' (below_setRow' bel2 (show w.heap.size ≤ w1.heap.size by omega) (natsV .u64 lQ).toArray) (show w.heap.size ≤ w1.heap.size + 1 by omega) (natsV .u64 lR).toArray
  clear C3 C4 D3 D4 bel1 bel2
  go_wp2_with (first | (refine st26 rfl (.tmp 7) (.tmp 18) rfl w1.heap.size rfl lQ rfl LQ.out (zeros 8) D7.out rfl ?_) | (refine st24 rfl (.tmp 8) (.tmp 19) rfl (w1.heap.size + 1) rfl lR rfl LR.out (zeros 4) E8.out rfl ?_))
  clear D7 D8 E8
  refine wp_region_held_drew (S := (fun w' => w'.rangeAt w1.heap.size 0 (natsV .u64 lQ) ∧ w'.rangeAt (w1.heap.size + 1) 0 (natsV .u64 lR))) (by kernel_rfl) ⟨blk_rangeV F7.out.drew, blk_rangeV F8.out.drew⟩ (fun hHeld => ?_)
  refine wpAnyH_take (i := 0) (oi := _) (v := _) rfl (by kernel_rfl) (by kernel_rfl) (by kernel_rfl) (fun _ _ _ h => h) (yieldsIf_load_mid (by rfl) _ _ rfl _ _ rfl _ _ (by intro w hSw; exact hSw.1) Try.underlying26 rfl i42) hHeld ?_
  try simp only [Act.put, List.getElem_toArray, List.getElem_cons_succ, List.getElem_cons_zero, List.setIfInBounds_toArray, List.set_cons_zero, List.set_cons_succ]
  refine wpAnyH_take (i := 1) (oi := _) (v := _) rfl (by kernel_rfl) (by kernel_rfl) (by kernel_rfl) (fun _ _ _ h => h) (yieldsIf_load_mid (by rfl) _ _ rfl _ _ rfl _ _ (by intro w hSw; exact hSw.2) Try.underlying24 rfl i25) hHeld ?_
  try simp only [Act.put, List.getElem_toArray, List.getElem_cons_succ, List.getElem_cons_zero, List.setIfInBounds_toArray, List.set_cons_zero, List.set_cons_succ]
  refine wpAnyH_ready (rs := [2]) (by kernel_rfl) (by simp) ?_
  refine AllReadyH.cons (o := _) rfl (fun K hK => ?_) AllReadyH.nil
  rw [if_pos (by rfl)]
  refine wst26 (.tmp 4) (.tmp 20) rfl (w.heap.size + 1 + 1) rfl lQ rfl LQ.out (zeros 8) F3.out.drew rfl ?_
  refine hK.out _ _ (⟨blk_rangeV (F7.out.drew.row (natsV .u64 lQ).toArray (show w1.heap.size ≠ w.heap.size + 1 + 1 by omega)), blk_rangeV (F8.out.drew.row (natsV .u64 lQ).toArray (show w1.heap.size + 1 ≠ w.heap.size + 1 + 1 by omega))⟩) (fun hHeld2 => ?_)
  clear hK K hHeld
  have hHeld := hHeld2
  clear hHeld2
  try simp only [Act.put, List.getElem_toArray, List.getElem_cons_succ, List.getElem_cons_zero, List.setIfInBounds_toArray, List.set_cons_zero, List.set_cons_succ]
  have G4 := Lib.hid (F4.out.drew.row (natsV .u64 lQ).toArray (show w.heap.size + 1 + 1 + 1 ≠ w.heap.size + 1 + 1 by omega))
  have G7 := Lib.hid (F7.out.drew.row (natsV .u64 lQ).toArray (show w1.heap.size ≠ w.heap.size + 1 + 1 by omega))
  have G8 := Lib.hid (F8.out.drew.row (natsV .u64 lQ).toArray (show w1.heap.size + 1 ≠ w.heap.size + 1 + 1 by omega))
  have G3 := Lib.hid (F3.out.drew.setRow (natsV .u64 lQ))
  have bel4 := below_setRow' bel3.drew (show w.heap.size ≤ w.heap.size + 1 + 1 by omega) (natsV .u64 lQ).toArray
  refine wpAnyH_ready (rs := [3]) (by kernel_rfl) (by simp) ?_
  refine AllReadyH.cons (o := _) rfl (fun K hK => ?_) AllReadyH.nil
  rw [if_pos (by rfl)]
  refine wst24 (.tmp 5) (.tmp 21) rfl (w.heap.size + 1 + 1 + 1) rfl lR rfl LR.out (zeros 4) G4.out rfl ?_
  refine hK.out _ _ (⟨blk_rangeV (G7.out.row (natsV .u64 lR).toArray (show w1.heap.size ≠ w.heap.size + 1 + 1 + 1 by omega)), blk_rangeV (G8.out.row (natsV .u64 lR).toArray (show w1.heap.size + 1 ≠ w.heap.size + 1 + 1 + 1 by omega))⟩) (fun hHeld2 => ?_)
  clear hK K hHeld
  have hHeld := hHeld2
  clear hHeld2
  try simp only [Act.put, List.getElem_toArray, List.getElem_cons_succ, List.getElem_cons_zero, List.setIfInBounds_toArray, List.set_cons_zero, List.set_cons_succ]
  refine wpAnyH_take (i := 4) (oi := _) (v := _) rfl (by kernel_rfl) (by kernel_rfl) (by kernel_rfl) (fun _ _ _ h => h) (Or.inl ⟨by rfl, by intro w hSw; (try dsimp only at hSw); go_simp; first | done | with_reducible rfl⟩) hHeld ?_
  try simp only [Act.put, List.getElem_toArray, List.getElem_cons_succ, List.getElem_cons_zero, List.setIfInBounds_toArray, List.set_cons_zero, List.set_cons_succ]
  refine wpAnyH_done (by kernel_rfl) ?_ _
  have j5 := G4.out.setRow (natsV .u64 lR)
  have j4 := G3.out.row (natsV .u64 lR).toArray (show w.heap.size + 1 + 1 ≠ w.heap.size + 1 + 1 + 1 by omega)
  have hb2 := below_setRow' bel4 (show w.heap.size ≤ w.heap.size + 1 + 1 + 1 by omega) (natsV .u64 lR).toArray
  go_wp2_with fail
  refine bodyPost_ret (v := .tuple #[.agg (natsV .u64 lQ).toArray, .agg (natsV .u64 lR).toArray, .int .i64 0]) ?_ rfl ⟨rfl, hb2⟩
  exact results_three Try.results12 _ _ (w.heap.size + 1 + 1) (w.heap.size + 1 + 1 + 1) 26 24 _ _ (0, 0) (0, 0) _ _ _ rfl rfl rfl j4 j5 Try.underlying26 rfl (by rw [info26, size_nats, LQ.out]) Try.underlying24 rfl (by rw [info24, size_nats, LR.out])
end Go.Proofs.Ytfffmoolkgheaaa
