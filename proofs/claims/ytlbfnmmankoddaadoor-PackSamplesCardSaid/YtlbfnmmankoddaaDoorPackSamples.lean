/- PackSamples answers true for every seed: what the project draws is what the document draws. Condition of the row: the table of constants, which the card ties; the size. -/
import Derived.Test.YtlbfnmmankoddaaDoorLaid
import Derived.Test.YtlbfnmmankoddaaDoorTie
import Derived.Test.YtlbfnmmankoddaaDoorCards
import Derived.SevenTiedAt
import Derived.Test.YtlbfnmmankoddaaDoorDs9
import Derived.Test.YtlbfnmmankoddaaDoorDb9
import Derived.Laws.StructEq
namespace Go.Proofs.YtlbfnmmankoddaaDoor
open Go.RowKit
set_option linter.unusedVariables false
set_option linter.unusedSimpArgs false
theorem unP_l (L : List Nat) : (unP L).length = 256 := by
  unfold unP; split
  · exact fiP_len _
  · exact zerI_length
theorem smP_l (L : List Nat) : (smP L).length = 256 := by
  unfold smP; split
  · exact fiP_len _
  · exact zerI_length
theorem baP_l (L : List Nat) : (baP L).length = 256 := by
  unfold baP; split
  · exact blP_len 5 L
  · exact zerI_length
theorem eqS (l : List Int) (h : l.length = 256) (w : World) : (binOp .eql 25 (.agg (iv l).toArray) (.agg (iv l).toArray)).run Tryd.prog w = .ok (.bool true) w := (eql23 l l h h w).trans (by simp)
theorem k23 {l : List Int} (h : l.length = 256) : (Tryd.prog.info? 25).map (·.size) = some (iv l).length := by rw [info23, iv_length, h]
theorem eqg : Tryd.prog.eqGuardType Tryd.prog.depth 25 = false := by kernel_rfl
/-- a guarded comparison, where the guard lets it -/
theorem eqM {w : World} {ops : Array Oper} {rest : List Oper} {o : Oper} {a : Act} {Q : Exit → Act → World → Prop} (ty : TypeId) (x y : Operand) (ho : o.op = .binOp .eql ty x y ty) (u v : Array Value) (hx : a.eval x = .agg u) (hy : a.eval y = .agg v) (hm : Tryd.prog.eqGuardType Tryd.prog.depth ty = false) (c : Bool) (hrun : (binOp .eql ty (.agg u) (.agg v)).run Tryd.prog w = .ok (.bool c) w)
    (j : Nat) (sg : Bool) (hgd : o.guard = some (j, sg)) (dt : Tmp) (hdt : (ops[j]?).bind (·.dst) = some dt) (hv : a.tmps[dt]? = some (.bool sg))
    (h : wpList Tryd.prog ops Q rest (a.put o.dst (.bool c)) w) : wpList Tryd.prog ops Q (o :: rest) a w := by
  have hw : Region.wanted o (yielded ops a.tmps) = true := by simp [Region.wanted, hgd, yielded, hdt, hv]
  refine wpList_yield hw ?_ h
  unfold execOp
  simp only [ho, hx, hy]
  simp [run_eqGuard_agg (hm := hm), hrun]
set_option maxRecDepth 100000 in
set_option maxHeartbeats 8000000 in
theorem samples_walk (A : Option Addr) (n cp : Nat) (L : List Nat) (w : World) (hb : BIn w A n cp L) (htab : Tabs w) :
    Calls Tryd.prog 3 #[.slice A n cp] w fun e w' => e = .returned (.bool true) ∧ Below w.heap.size w w' := by
  have HA := Lib.hid (fun w => awake_any w)
  have HB := Lib.hid hb
  have HT := Lib.hid htab
  have HC1 := Lib.hid (fun W h t => Uniform_any A n cp L W h t)
  have HC2 := Lib.hid (fun W h t => Small_any A n cp L W h t)
  have HC3 := Lib.hid (fun W h t => Ball_any A n cp L W h t)
  have HC4 := Lib.hid (fun W (h : BIn W A n cp L) (_ : Tabs W) => dUniform_any A n cp L W h)
  have HC5 := Lib.hid (fun W (h : BIn W A n cp L) (_ : Tabs W) => dSmall_any A n cp L W h)
  have HC6 := Lib.hid (fun W (h : BIn W A n cp L) (_ : Tabs W) => dBall_any A n cp L W h)
  have L1 := Lib.hid (unP_l L)
  have L2 := Lib.hid (smP_l L)
  have L3 := Lib.hid (baP_l L)
  generalize unP L = p1 at *
  generalize unE L = e1 at *
  generalize smP L = p2 at *
  generalize smE L = e2 at *
  generalize baP L = p3 at *
  generalize baE L = e3 at *
  have heq1 := fun w => eqS p1 L1.out w
  have heq2 := fun w => eqS p2 L2.out w
  have heq3 := fun w => eqS p3 L3.out w
  have z23 := zero23
  have LZ := Lib.hid zerI_length
  generalize zerI = Z at *
  clear hb htab
  go_enter Tryd.func3, Tryd.ntmps3
  go_wp2_with fail
  refine (HA.out _).mono ?_
  rintro e w0 ⟨rfl, hb0⟩
  have bel0 := Lib.hid hb0
  clear hb0 HA
  go_wp2_with fail
  refine (HC1.out w0 (HB.out.below bel0.out) (HT.out.below bel0.out)).mono ?_
  rintro e w1 ⟨rfl, hb1⟩
  have bel1 := Lib.hid (bel0.out.trans (hb1.mono bel0.out.size))
  clear hb1 bel0 HC1 
  go_wp2_with (first | (refine wpList_store_row rfl 25 (.tmp 4) (.tmp 20) rfl w1.heap.size (iv p1).toArray rfl rfl 25 (iv Z).toArray (Blk.new w1 25 (iv Z)) (j23 L1.out) (by rw [iv_size, iv_size, LZ.out, L1.out]) (iv_all _) ?_; generalize hW : World.setRow _ _ _ = w2; obtain ⟨hg2, hD2⟩ := newfacts hW; clear hW; have bel2 := Lib.hid (bel1.out.trans (Below.mono hg2 bel1.out.size)); have Q0_2 := Lib.hid hD2; clear hg2 hD2 bel1 ; generalize w1.heap.size = G0 at *))
  refine (HC2.out w2 (HB.out.below bel2.out) (HT.out.below bel2.out)).mono ?_
  rintro e w3 ⟨rfl, hb3⟩
  have bel3 := Lib.hid (bel2.out.trans (hb3.mono bel2.out.size))
  have Q0_3 := Lib.hid (Q0_2.out.below' hb3)
  clear hb3 bel2 HC2 Q0_2
  go_wp2_with (first | (refine wpList_store_row rfl 25 (.tmp 6) (.tmp 25) rfl w3.heap.size (iv p2).toArray rfl rfl 25 (iv Z).toArray (Blk.new w3 25 (iv Z)) (j23 L2.out) (by rw [iv_size, iv_size, LZ.out, L2.out]) (iv_all _) ?_; generalize hW : World.setRow _ _ _ = w4; obtain ⟨hg4, hD4⟩ := newfacts hW; clear hW; have bel4 := Lib.hid (bel3.out.trans (Below.mono hg4 bel3.out.size)); have Q0_4 := Lib.hid (Q0_3.out.gr hg4); have Q1_4 := Lib.hid hD4; clear hg4 hD4 bel3 Q0_3; generalize w3.heap.size = G1 at *))
  refine (HC3.out w4 (HB.out.below bel4.out) (HT.out.below bel4.out)).mono ?_
  rintro e w5 ⟨rfl, hb5⟩
  have bel5 := Lib.hid (bel4.out.trans (hb5.mono bel4.out.size))
  have Q0_5 := Lib.hid (Q0_4.out.below' hb5)
  have Q1_5 := Lib.hid (Q1_4.out.below' hb5)
  clear hb5 bel4 HC3 Q0_4 Q1_4
  go_wp2_with (first | (refine wpList_store_row rfl 25 (.tmp 8) (.tmp 30) rfl w5.heap.size (iv p3).toArray rfl rfl 25 (iv Z).toArray (Blk.new w5 25 (iv Z)) (j23 L3.out) (by rw [iv_size, iv_size, LZ.out, L3.out]) (iv_all _) ?_; generalize hW : World.setRow _ _ _ = w6; obtain ⟨hg6, hD6⟩ := newfacts hW; clear hW; have bel6 := Lib.hid (bel5.out.trans (Below.mono hg6 bel5.out.size)); have Q0_6 := Lib.hid (Q0_5.out.gr hg6); have Q1_6 := Lib.hid (Q1_5.out.gr hg6); have Q2_6 := Lib.hid hD6; clear hg6 hD6 bel5 Q0_5 Q1_5; generalize w5.heap.size = G2 at *))
  refine (HC4.out w6 (HB.out.below bel6.out) (HT.out.below bel6.out)).mono ?_
  rintro e w7 ⟨rfl, hb7⟩
  have bel7 := Lib.hid (bel6.out.trans (hb7.mono bel6.out.size))
  have Q0_7 := Lib.hid (Q0_6.out.below' hb7)
  have Q1_7 := Lib.hid (Q1_6.out.below' hb7)
  have Q2_7 := Lib.hid (Q2_6.out.below' hb7)
  clear hb7 bel6 HC4 Q0_6 Q1_6 Q2_6
  go_wp2_with (first | (refine wpList_store_row rfl 25 (.tmp 10) (.tmp 35) rfl w7.heap.size (iv p1).toArray rfl rfl 25 (iv Z).toArray (Blk.new w7 25 (iv Z)) (j23 L1.out) (by rw [iv_size, iv_size, LZ.out, L1.out]) (iv_all _) ?_; generalize hW : World.setRow _ _ _ = w8; obtain ⟨hg8, hD8⟩ := newfacts hW; clear hW; have bel8 := Lib.hid (bel7.out.trans (Below.mono hg8 bel7.out.size)); have Q0_8 := Lib.hid (Q0_7.out.gr hg8); have Q1_8 := Lib.hid (Q1_7.out.gr hg8); have Q2_8 := Lib.hid (Q2_7.out.gr hg8); have Q3_8 := Lib.hid hD8; clear hg8 hD8 bel7 Q0_7 Q1_7 Q2_7; generalize w7.heap.size = G3 at *))
  refine (HC5.out w8 (HB.out.below bel8.out) (HT.out.below bel8.out)).mono ?_
  rintro e w9 ⟨rfl, hb9⟩
  have bel9 := Lib.hid (bel8.out.trans (hb9.mono bel8.out.size))
  have Q0_9 := Lib.hid (Q0_8.out.below' hb9)
  have Q1_9 := Lib.hid (Q1_8.out.below' hb9)
  have Q2_9 := Lib.hid (Q2_8.out.below' hb9)
  have Q3_9 := Lib.hid (Q3_8.out.below' hb9)
  clear hb9 bel8 HC5 Q0_8 Q1_8 Q2_8 Q3_8
  go_wp2_with (first | (refine wpList_store_row rfl 25 (.tmp 12) (.tmp 40) rfl w9.heap.size (iv p2).toArray rfl rfl 25 (iv Z).toArray (Blk.new w9 25 (iv Z)) (j23 L2.out) (by rw [iv_size, iv_size, LZ.out, L2.out]) (iv_all _) ?_; generalize hW : World.setRow _ _ _ = w10; obtain ⟨hg10, hD10⟩ := newfacts hW; clear hW; have bel10 := Lib.hid (bel9.out.trans (Below.mono hg10 bel9.out.size)); have Q0_10 := Lib.hid (Q0_9.out.gr hg10); have Q1_10 := Lib.hid (Q1_9.out.gr hg10); have Q2_10 := Lib.hid (Q2_9.out.gr hg10); have Q3_10 := Lib.hid (Q3_9.out.gr hg10); have Q4_10 := Lib.hid hD10; clear hg10 hD10 bel9 Q0_9 Q1_9 Q2_9 Q3_9; generalize w9.heap.size = G4 at *))
  refine (HC6.out w10 (HB.out.below bel10.out) (HT.out.below bel10.out)).mono ?_
  rintro e w11 ⟨rfl, hb11⟩
  have bel11 := Lib.hid (bel10.out.trans (hb11.mono bel10.out.size))
  have Q0_11 := Lib.hid (Q0_10.out.below' hb11)
  have Q1_11 := Lib.hid (Q1_10.out.below' hb11)
  have Q2_11 := Lib.hid (Q2_10.out.below' hb11)
  have Q3_11 := Lib.hid (Q3_10.out.below' hb11)
  have Q4_11 := Lib.hid (Q4_10.out.below' hb11)
  clear hb11 bel10 HC6 Q0_10 Q1_10 Q2_10 Q3_10 Q4_10
  go_wp2_with (first | (refine wpList_store_row rfl 25 (.tmp 14) (.tmp 45) rfl w11.heap.size (iv p3).toArray rfl rfl 25 (iv Z).toArray (Blk.new w11 25 (iv Z)) (j23 L3.out) (by rw [iv_size, iv_size, LZ.out, L3.out]) (iv_all _) ?_; generalize hW : World.setRow _ _ _ = w12; obtain ⟨hg12, hD12⟩ := newfacts hW; clear hW; have bel12 := Lib.hid (bel11.out.trans (Below.mono hg12 bel11.out.size)); have Q0_12 := Lib.hid (Q0_11.out.gr hg12); have Q1_12 := Lib.hid (Q1_11.out.gr hg12); have Q2_12 := Lib.hid (Q2_11.out.gr hg12); have Q3_12 := Lib.hid (Q3_11.out.gr hg12); have Q4_12 := Lib.hid (Q4_11.out.gr hg12); have Q5_12 := Lib.hid hD12; clear hg12 hD12 bel11 Q0_11 Q1_11 Q2_11 Q3_11 Q4_11; generalize w11.heap.size = G5 at *) | (refine ldwM 25 (.tmp 4) rfl G0 0 rfl (iv p1) _ (blk_all Q0_12.out) Tryd.underlying25 rfl (k23 L1.out) 1 true rfl 48 rfl rfl ?_) | (refine ldwM 25 (.tmp 10) rfl G3 0 rfl (iv p1) _ (blk_all Q3_12.out) Tryd.underlying25 rfl (k23 L1.out) 1 true rfl 48 rfl rfl ?_) | (refine ldwM 25 (.tmp 6) rfl G1 0 rfl (iv p2) _ (blk_all Q1_12.out) Tryd.underlying25 rfl (k23 L2.out) 6 true rfl 53 rfl rfl ?_) | (refine ldwM 25 (.tmp 12) rfl G4 0 rfl (iv p2) _ (blk_all Q4_12.out) Tryd.underlying25 rfl (k23 L2.out) 6 true rfl 53 rfl rfl ?_) | (refine ldwM 25 (.tmp 8) rfl G2 0 rfl (iv p3) _ (blk_all Q2_12.out) Tryd.underlying25 rfl (k23 L3.out) 11 true rfl 58 rfl rfl ?_) | (refine ldwM 25 (.tmp 14) rfl G5 0 rfl (iv p3) _ (blk_all Q5_12.out) Tryd.underlying25 rfl (k23 L3.out) 11 true rfl 58 rfl rfl ?_) | (refine eqM 25 (.tmp 49) (.tmp 50) rfl _ _ rfl rfl eqg true (heq1 _) 1 true rfl 48 rfl rfl ?_) | (refine eqM 25 (.tmp 54) (.tmp 55) rfl _ _ rfl rfl eqg true (heq2 _) 6 true rfl 53 rfl rfl ?_) | (refine eqM 25 (.tmp 59) (.tmp 60) rfl _ _ rfl rfl eqg true (heq3 _) 11 true rfl 58 rfl rfl ?_))
  go_ret
  exact ⟨rfl, bel12.out⟩
end Go.Proofs.YtlbfnmmankoddaaDoor
namespace Go.Proofs.YtlbfnmmankoddaaDoor.packSamples
open Go.ChangeShapes Go.WideShapes Go.ChangeAt Go.RowKit
set_option linter.unusedVariables false
set_option maxRecDepth 100000 in
theorem lifted (os : Os) (started : os.Started) (H : Type) (enc : TypeId × Value → H) :
    ReturnsInHanded {} Tryd.checked os 3 .any (fun w args => (Rows.packSamplesSpec.pre enc Tryd.prog Tryd.f3 [] false w args ∧ laidMetH Tryd.prog laid1 w) ∧ sizedMet enc Tryd.prog Tryd.f3 (OpenSpec.ofChange Rows.packSamplesSpec) false w args)
      (Rows.packSamplesSpec.post enc Tryd.prog Tryd.f3 false true false false) := by
  refine returnsInHanded_of_change_and (C := Tryd.checked) (X := fun w _ => laidMetH Tryd.prog laid1 w) (fun _ _ _ hh h => h.of_heap hh) own started (by kernel_rfl) Tryd.func3
    (ChangeSpec.witness_shaped (enc := enc) (C := Tryd.checked) (os := os) (X := fun w _ => laidMetH Tryd.prog laid1 w) false (World.doorLaid Tryd.prog 400 os) #[.slice none 0 0] 8 rfl (World.shaped_of_RefB (by kernel_rfl) (by kernel_rfl)) (by kernel_rfl) (by kernel_rfl) (by kernel_rfl) (door_met os _)) ?_
  intro W base args ds gs before hval0 hW hcnd hsz0 hL _
  have hval : ∀ (j : Nat) t v, Tryd.f3.params[j]? = some t → args[j]? = some v → Value.okWide Tryd.prog W .any base t v := hval0
  have hW' := hW
  obtain ⟨p, q, hA0, hV, rfl, hfz, hnd⟩ := hW
  have hA : DataW.TrodAll enc Tryd.prog W 0 (fun _ => true) true Tryd.f3.params.toList args.toList ds p := hA0
  rw [Tryd.params3] at hA hval
  obtain ⟨v0, vs0, d0, ds0, p0, q0, hargs, rfl, rfl, h0, r0⟩ := trodAll_cons hA
  obtain ⟨rfl, rfl, rfl⟩ := trodAll_nil r0
  obtain rfl : args = #[v0] := by cases args; simp_all
  obtain ⟨rfl, rfl⟩ := trodVars_none hV
  obtain ⟨a0, len0, cap0, rfl⟩ := okWide_slice Tryd.underlying22 (hval 0 22 v0 rfl rfl)
  have hsz : (DataW.weightsEach Tryd.prog (Tryd.f3.params.toList ++ Rows.packSamplesSpec.plain.varTypes Tryd.prog) (d0 :: [] ++ [])).all (· ≤ reachBytes) = true := hsz0
  rw [Tryd.params3] at hsz
  obtain ⟨l0, hin0, hreach0⟩ : ∃ l, BIn W a0 len0 cap0 l ∧ len0 ≤ 140737488351232 := by
    obtain ⟨fu, hf⟩ := h0
    have hf2 : DataW.trod enc Tryd.prog W 0 (fun _ => true) true fu 22 [Value.slice a0 len0 cap0] = some (d0, p0) := hf
    have hw : ∀ k ∈ DataW.weights Tryd.prog 22 (d0, p0).1, k ≤ reachBytes := fun k hk => by
      have := List.all_eq_true.1 hsz k (DataW.weights_mem_each (j := 0) rfl rfl k hk)
      simpa using this
    obtain ⟨a, n, c, l, he, h1, h2⟩ := bin_in hf2 hw
    simp only [Value.slice.injEq] at he
    obtain ⟨rfl, rfl, rfl⟩ := he
    exact ⟨l, h1, h2⟩
  have k0 := h0
  have lt0 : ∀ x ∈ p0, x.block < W.heap.size := by obtain ⟨m, hm⟩ := k0; exact DataW.trod_lt m _ _ _ hm
  have htab := tabs_of_laid hL
  clear hA0 hval0
  refine (samples_walk a0 len0 cap0 l0 W hin0 htab).mono fun e W' ⟨he, bel⟩ => ?_
  subst he
  exact ⟨_, rfl, _, _, _, [], _, [], hW', trodAll_mk1 (shut_bool Tryd.underlying4 _), (trodAll_cons_mk (Below.trod laidOut (by kernel_rfl) (of_decide_eq_true (by kernel_rfl)) k0 bel lt0) trodAll_mk0), rfl, bel.frame _, fun h => by cases h⟩
theorem over : Rows.packSamplesRow.holds Tryd.pinned (OpenSpec.ofChange Rows.packSamplesSpec) :=
  OpenClaim.holds_of_wide 3 Tryd.f3 rfl rfl rfl rfl rfl rfl rfl ⟨rfl, rfl, rfl, rfl, rfl⟩ rfl rfl rfl rfl rfl (by kernel_rfl) Tryd.func3 (by kernel_rfl)
    (of_decide_eq_true (by kernel_rfl)) (by unfold Func.isWrapper; first | (rw [if_pos (by decide +kernel)]; kernel_rfl) | (rw [if_neg (by decide +kernel)]; exact ⟨rfl, rfl⟩))
    (fun os started H enc _ => lifted os started H enc)
/-- The statement: the card. -/
theorem proved : Rows.PackSamplesCardSaid :=
  Claim7.holds_tied_plain_at .later [] [.data] _ _ _
    over (fun _ h => by cases h) (by kernel_rfl) (fun _ h => by cases h) packSamples_row_tie rfl ⟨rfl, rfl⟩ (by kernel_rfl) rfl
    (fun f fn hf hfn => by
      obtain rfl : f = 3 := Option.some.inj ((show Tryd.prog.funcNamed "barbican/barbicanlaw09.PackSamples" = some 3 by kernel_rfl).symm.trans hf) |>.symm
      obtain rfl : fn = Tryd.f3 := (Option.some.inj (Tryd.func3.symm.trans hfn)).symm
      exact ⟨by kernel_rfl, fun j t ht => by
        rw [Tryd.params3] at ht
        have hm : t ∈ [22] := by simpa using Array.mem_of_getElem? ht
        have hall : ([22].all fun u => !Tryd.prog.wantsStandIn u) = true := by kernel_rfl
        exact (show Tryd.prog.wantsStandIn t = false by simpa using List.all_eq_true.1 hall t hm)⟩)
    (by kernel_rfl)
#print axioms proved
end Go.Proofs.YtlbfnmmankoddaaDoor.packSamples
