/- CertWrites holds, in its second form. The condition is that form's own. -/
import Derived.Deep.CondSized
import Derived.Test.YtbabpmncdphnjaaGreatQ32
import Derived.Test.YtbabpmncdphnjaaGreatQ34
namespace Go.Proofs.YtbabpmncdphnjaaGreat.certWrites
open Go.ChangeShapes Go.WideShapes Go.ChangeAt Go.RowKit
set_option linter.unusedVariables false
set_option maxRecDepth 100000
set_option linter.unusedSimpArgs false
set_option maxRecDepth 100000 in
theorem lifted (os : Os) (started : os.Started) (H : Type) (enc : TypeId × Value → H) (F : Stop.Interp) :
    ReturnsInHanded {} Tryz.checked os 4 .any ((Rows.OpenSpec.upto Rows.certWritesSpec).pre6 enc Tryz.prog Tryz.f4 Rows.certWritesUptoRow.domain false) (((Rows.OpenSpec.upto Rows.certWritesSpec).at F).post enc Tryz.prog Tryz.f4 false true false false) := by
  refine returnsInHanded_of_cond_sized (C := Tryz.checked) (s := Rows.OpenSpec.upto Rows.certWritesSpec) (k := Rows.uptoSmall) rfl own started (by kernel_rfl) Tryz.func4
    (OpenSpec.witness (enc := enc) (C := Tryz.checked) (s := Rows.OpenSpec.upto Rows.certWritesSpec) (k := Rows.uptoSmall) rfl false ⟨#[], #[.agg #[.int .u64 0, .string { data := #[] }, .string { data := #[] }, .slice none 0 0, .slice none 0 0, .slice none 0 0, .bool false, .slice none 0 0, .slice none 0 0]], []⟩ 8 (by kernel_rfl) (by kernel_rfl) (by kernel_rfl)
      (x := ([.agg [.agg [.lit (.int .u64 0), .lit (.string []), .lit (.string []), .nil, .nil, .nil], .lit (.bool false), .nil, .nil]], [], [])) (by kernel_rfl) rfl (by kernel_rfl)) ?_
  intro W base args ds gs before hval0 hW _ hkk hsz0 _
  have hsz : (DataW.weightsEach Tryz.prog (Tryz.f4.params.toList ++ Rows.certWritesSpec.plain.varTypes Tryz.prog) (ds ++ gs)).all (· ≤ reachBytes) = true := hsz0
  have hval : ∀ (j : Nat) t v, Tryz.f4.params[j]? = some t → args[j]? = some v → Value.okWide Tryz.prog W .any base t v := hval0
  have hW' := hW
  obtain ⟨p, q, hA0, hV, rfl, hfz, hnd⟩ := hW
  have hA : DataW.TrodAll enc Tryz.prog W 0 (fun _ => true) true Tryz.f4.params.toList args.toList ds p := hA0
  rw [Tryz.params4] at hA hval hsz
  obtain ⟨v0, vs0, d0, ds0, p0, q0, hargs, rfl, rfl, h0, r0⟩ := trodAll_cons hA
  obtain ⟨rfl, rfl, rfl⟩ := trodAll_nil r0
  obtain rfl : args = #[v0] := by cases args; simp_all
  obtain ⟨rfl, rfl⟩ := trodVars_none hV
  have k0 := h0
  have lt0 : ∀ x ∈ p0, x.block < W.heap.size := by obtain ⟨m, hm⟩ := k0; exact DataW.trod_lt m _ _ _ hm
  have hbk : Rows.uptoBulk d0 ≤ 1048576 := by
    have h := of_decide_eq_true hkk
    simp only [List.append_nil, Rows.uptoBulkAll] at h
    omega
  obtain ⟨sn0, is0, su0, ka0, kn0, kc0, xa0, xn0, xc0, sa0, sl0, sc0, ya0, yn0, yc0, ga0, gn0, gc0, raw0, kb0, xs0, sb0, yb0, gb0, rfl, hsn0, his0, hsu0, hk0, hx0, hs0, hy0, hg0, hb0, hb1, hb2, hb3⟩ := whole_inU (hval 0 37 v0 rfl rfl) h0 (by
      intro k hk
      have := List.all_eq_true.1 hsz k (DataW.weights_mem_each (j := 0) rfl rfl k hk)
      simpa using this)
  obtain ⟨sn1, rfl⟩ := Int.eq_ofNat_of_zero_le hsn0.1
  have hv : ∀ y ∈ xs0, y.2.2.length ≤ 1048576 := fun y hy => Nat.le_trans (hb2 y hy) hbk
  have hsn1 : sn1 < 18446744073709551616 := by have := hsn0.2; omega
  obtain ⟨KB, hKB⟩ : ∃ K, (if raw0 then kb0 else padK 2017 yb0) = K := ⟨_, rfl⟩
  obtain ⟨SG, hSG⟩ : ∃ S, (if raw0 then sb0 else padK 3373 gb0) = S := ⟨_, rfl⟩
  have hsl : SG.length ≤ 140737488351232 := by
    rw [← hSG]
    cases raw0
    · simp only [Bool.false_eq_true, if_false]; rw [padK_len]; omega
    · have h1 : sb0.length = sl0 := hs0.1.1
      simp only [if_true]; omega
  clear hA0 hval0
  refine (writes_any W sn1 hsn1 is0 su0 (by omega) (by omega) ka0 kn0 kc0 kb0 hk0 xa0 xn0 xc0 xs0 hx0 (by omega) sa0 sl0 sc0 sb0 hs0 raw0 ya0 yn0 yc0 yb0 hy0 ga0 gn0 gc0 gb0 hg0 KB SG hKB hSG hsl
    (fun h => by have := tbs_sz (sn := sn1) h rfl hsn1 hv; omega) (fun h h2 => by have := crt_sz (sn := sn1) h rfl h2 hsn1 hv; omega)).mono fun e W' ⟨he, bel⟩ => ?_
  subst he
  exact ⟨_, rfl, _, _, _, [], _, [], hW', trodAll_mk1 (shut_bool Tryz.underlying4 _), (trodAll_cons_mk (Below.trod laidOut (by kernel_rfl) (of_decide_eq_true (by kernel_rfl)) k0 bel lt0) trodAll_mk0), rfl, bel.frame _, fun h => by cases h⟩
theorem over : Rows.certWritesUptoRow.holds Tryz.pinned (Rows.OpenSpec.upto Rows.certWritesSpec) :=
  OpenClaim.holds_of_cond 4 Tryz.f4 rfl rfl rfl rfl rfl rfl rfl ⟨rfl, rfl, rfl, rfl, rfl⟩ rfl rfl rfl rfl rfl (by kernel_rfl) Tryz.func4 (by kernel_rfl)
    (of_decide_eq_true (by kernel_rfl)) (by unfold Func.isWrapper; first | (rw [if_pos (by decide +kernel)]; kernel_rfl) | (rw [if_neg (by decide +kernel)]; exact ⟨rfl, rfl⟩))
    (fun os started H enc _ F => lifted os started H enc F)
/-- The statement, in its second form. -/
theorem proved : Rows.CertWritesUptoSaid := over
#print axioms proved
end Go.Proofs.YtbabpmncdphnjaaGreat.certWrites
