/- slices.Insert at a row of regions that is full. No condition. -/
import Derived.Test.YtelfhpmbnficfaaIb
namespace Go.Proofs.Ytelfhpmbnficfaa
open Go.RowKit
set_option linter.unusedVariables false
set_option maxRecDepth 100000
set_option linter.unusedSimpArgs false
theorem cut3 (Z : List Value) (q k r : Nat) (h : Z.length = 7 + q + r) : ∃ F O R, Z = F ++ (O ++ R) ∧ F.length = 7 ∧ O.length = q ∧ R.length = r :=
  ⟨Z.take 7, (Z.drop 7).take q, (Z.drop 7).drop q, by rw [List.take_append_drop, List.take_append_drop], by rw [List.length_take]; omega, by rw [List.length_take, List.length_drop]; omega, by rw [List.length_drop, List.length_drop]; omega⟩
set_option maxHeartbeats 3200000 in
theorem ins_grow (base n vb g i : Nat) (t : List Reg) (x : Reg) (w : World) (hn : t.length = n) (hi : i < n) (h15 : n ≤ 15) (hg : Blk w g 67 (cellsP t)) (hv : Blk w vb 67 (regP x)) (hb : base ≤ w.heap.size) :
    Calls Try.prog 39 #[.slice (some ⟨g, 0, none⟩) n n, .int .i64 (i : Nat), .slice (some ⟨vb, 0, none⟩) 1 1] w (InsIs base (n + 1) (t.take i ++ (x :: t.drop i)) (some g) w) := by
  obtain ⟨i0, hi0, hz0, hz1, hz2⟩ := info_parts info67z
  have hP := ptake_length t i (by omega)
  have hX := pdrop_length t i
  rw [hn] at hX
  have hold : (Builtin.firstCells i0.size i (.slice (some ⟨g, 0, none⟩) i n)).run Try.prog w.drew = .ok (cellsP (t.take i)).toArray w.drew := by
    rw [hz1]
    exact run_firstCells_some w.drew 7 i ⟨g, 0, none⟩ i n (cellsP (t.take i)) hP (fun j v hj => by
      rw [Addr.add_mid, Nat.zero_add, (Blk.drew hg).cell]
      rw [← cellsP_take, List.getElem?_take] at hj
      split at hj
      · exact hj
      · cases hj)
  obtain ⟨G, hG⟩ : ∃ G, grownCap w (n + 1) n 67 = G := ⟨_, rfl⟩
  have hGn : n + 1 ≤ G := by rw [← hG]; exact grownCap_ge w _ _ _
  have hGm : G ≤ maxLen := by rw [← hG]; exact grownCap_le_maxLen w (n + 1) n 67 (by unfold maxLen; omega)
  have hik : i + (n + 1 - i) = n + 1 := by omega
  have hkk : (n : Int) + 1 - (i : Int) = ((n + 1 - i : Nat) : Int) := by omega
  obtain ⟨ROW, hROW, hRl⟩ : ∃ ROW : List Value, (∀ ty, (Builtin.append_ #[59, 3] ty #[.slice (some ⟨g, 0, none⟩) i n, .int .i64 ((n : Int) + 1 - (i : Int))]).run Try.prog w = .ok (.slice (some ⟨w.heap.size, 0, none⟩) (n + 1) G) (w.drew.alloc (.cells (cellsP (t.take i) ++ ROW).toArray 67))) ∧ ROW.length = 7 + (n - i) * 7 + (G - (n + 1)) * 7 := by
    refine ⟨(Builtin.zeroCells (Value.agg #[.int .u64 0, .int .u64 0, .bool false, .bool false, .bool false, .bool false, .bool false]).cells (n + 1 - i)).toList ++ (Builtin.zeroCells (Value.agg #[.int .u64 0, .int .u64 0, .bool false, .bool false, .bool false, .bool false, .bool false]).cells (G - (n + 1))).toList, fun ty => ?_, ?_⟩
    · have h := Lib.run_append_grow_zeros w 59 3 ty 67 i0 _ .i64 .i64 Try.underlying59 Try.underlying3 hi0 hz0 (some ⟨g, 0, none⟩) i n (cellsP (t.take i)) hold (n + 1 - i) (by omega) (by omega) (by omega) (by omega) (by rw [hz2]; omega) (by rw [hz2, hik]; exact growslice_fits (by omega) (by omega))
      rw [hik, hG] at h
      rw [hkk, h]
      congr 3
      apply Array.ext'
      simp only [Array.toList_append, List.append_assoc, List.toList_toArray]
    · rw [List.length_append, Array.length_toList, Array.length_toList, size_zeroCells, size_zeroCells]
      show (n + 1 - i) * 7 + (G - (n + 1)) * 7 = _
      omega
  obtain ⟨F, O, R, rfl, hF, hO, hR⟩ := cut3 ROW ((n - i) * 7) 0 _ hRl
  obtain ⟨N, hN⟩ : ∃ N, w.heap.size = N := ⟨_, rfl⟩
  obtain ⟨W1, hW1⟩ : ∃ W1, w.drew.alloc (.cells (cellsP (t.take i) ++ (F ++ (O ++ R))).toArray 67) = W1 := ⟨_, rfl⟩
  have hgr : Gr w W1 := by rw [← hW1]; exact (Gr.drew w).trans (Gr.alloc _ _)
  have hblk : Blk W1 N 67 (cellsP (t.take i) ++ (F ++ (O ++ R))) := by rw [← hW1, ← hN]; exact Blk.new w.drew _ _
  rw [hW1, hN] at hROW
  have hgN : g ≠ N := by have := hg.lt; omega
  have hvN : vb ≠ N := by have := hv.lt; omega
  have hb2 : ∀ W : World, Blk W N 67 (cellsP (t.take i) ++ (F ++ (O ++ R))) → Blk (W.setCells N (i * 7) (regP x)) N 67 (cellsP (t.take i) ++ (regP x ++ (O ++ R))) := fun W hb => by
    have := setCells_blk N 67 (regP x) (i * 7) W _ hb
    rwa [setL_at hP (hF.trans rfl)] at this
  have hcp1 : ∀ (W : World) ty dc, Blk W N 67 (cellsP (t.take i) ++ (F ++ (O ++ R))) → Blk W vb 67 (regP x) → (Builtin.copy_ #[59, 59] ty #[.slice (some ⟨N, i * 7, none⟩) (n + 1 - i) dc, .slice (some ⟨vb, 0, none⟩) 1 1]).run Try.prog W = .ok (goInt ((1 : Nat) : Int)) (W.setCells N (i * 7) (regP x)) := fun W ty dc hb hx => by
    refine run_copy_k W _ _ ty 67 7 N (i * 7) (n + 1 - i) dc ⟨vb, 0, none⟩ 1 1 1 (regP x) Try.underlying59 info67 (by simp only [Nat.min_def]; split <;> omega) rfl (fun j v hj => ?_) (fun j hj => (hb.there _ ?_).1) (fun j hj => (hb.there _ ?_).2) (regP_one _)
    · rw [Addr.add_mid, Nat.zero_add, hx.cell]; exact hj
    · have hj7 : j < 7 := hj
      rw [List.length_append, List.length_append, hP, hF]; omega
    · have hj7 : j < 7 := hj
      rw [List.length_append, List.length_append, hP, hF]; omega
  have hcp2 : ∀ (W : World) ty dc sc, Blk W N 67 (cellsP (t.take i) ++ (regP x ++ (O ++ R))) → Blk W g 67 (cellsP t) → (Builtin.copy_ #[59, 59] ty #[.slice (some ⟨N, (i + 1) * 7, none⟩) (n - i) dc, .slice (some ⟨g, i * 7, none⟩) (n - i) sc]).run Try.prog W = .ok (goInt ((n - i : Nat) : Int)) (W.setCells N ((i + 1) * 7) (cellsP (t.drop i))) := fun W ty dc sc hb hx => by
    refine run_copy_k W _ _ ty 67 7 N ((i + 1) * 7) (n - i) dc ⟨g, i * 7, none⟩ (n - i) sc (n - i) (cellsP (t.drop i)) Try.underlying59 info67 (by simp only [Nat.min_def]; split <;> omega) hX (fun j v hj => ?_) (fun j hj => (hb.there _ ?_).1) (fun j hj => (hb.there _ ?_).2) (cellsP_one _)
    · rw [Addr.add_mid, hx.cell]
      rw [← cellsP_drop, List.getElem?_drop] at hj
      exact hj
    · rw [hX] at hj; rw [List.length_append, List.length_append, List.length_append, hP, hO, show (regP x).length = 7 from rfl]; omega
    · rw [hX] at hj; rw [List.length_append, List.length_append, List.length_append, hP, hO, show (regP x).length = 7 from rfl]; omega
  have hIl : (cellsP (t.take i ++ (x :: t.drop i))).length = (n + 1) * 7 := by rw [cellsP_ins, List.length_append, List.length_append, hP, hX, show (regP x).length = 7 from rfl]; omega
  have hb3 : ∀ W : World, Blk W N 67 (cellsP (t.take i) ++ (regP x ++ (O ++ R))) → (W.setCells N ((i + 1) * 7) (cellsP (t.drop i))).ownsRow base 67 7 (.slice (some ⟨N, 0, none⟩) (n + 1) G) (n + 1) (cellsP (t.take i ++ (x :: t.drop i))) := fun W hb' => by
    have := setCells_blk N 67 (cellsP (t.drop i)) ((i + 1) * 7) W _ hb'
    rw [← List.append_assoc, setL_at (by rw [List.length_append, hP, show (regP x).length = 7 from rfl]; omega) (hO.trans hX.symm), List.append_assoc, ← List.append_assoc (regP x), ← List.append_assoc, ← cellsP_ins] at this
    exact own_of_blk this hIl (by rw [hR]; omega) (by omega) hGn hGm
  have hw1 : IntKind.i64.wrap ((n : Int) + 1) = (n : Int) + 1 := IntWalk.i64_in _ (by omega)
  have hin : (i : Int) ≤ (n : Int) := by omega
  have hni : ¬ ((i : Int) = (n : Int)) := by omega
  have hnc : (n : Int) < (n : Int) + 1 := by omega
  have hi15 : (i : Int) ≤ 15 := by omega
  have hn15 : (n : Int) ≤ 15 := by omega
  have hd1 : decide ((n : Int) < (n : Int) + 1) = true := decide_eq_true (by omega)
  have hGi : ¬ (G = i) := by omega
  have hGi1 : ¬ (G = i + 1) := by omega
  have hni2 : ¬ (n = i) := by omega
  have HCP1 := Lib.hid hcp1
  have HCP2 := Lib.hid hcp2
  have HB2 := Lib.hid hb2
  have HB3 := Lib.hid hb3
  have HBLK := Lib.hid hblk
  have HV := Lib.hid (hv.gr hgr)
  have HGG := Lib.hid (hg.gr hgr)
  have HGR := Lib.hid hgr
  have HROW := Lib.hid hROW
  have HNE := Lib.hid (show g ≠ N ∧ vb ≠ N from ⟨hgN, hvN⟩)
  have HNS := Lib.hid hN
  unfold maxLen at hGm
  clear hcp1 hcp2 hb2 hb3 hblk hv hF hO hP hX hR hRl hg hgr hROW hW1 hgN hvN hold hG hik hkk hIl hi0 hz0 hz1 hz2 hw1
  go_enter Try.func39, Try.ntmps39
  go_wp2_with (first
    | (at_builtin; refine wpList_run rfl (exec_append rfl rfl rfl (HROW.out _)) ?_)
    | (refine wpList_run rfl (exec_copy rfl rfl rfl (HCP1.out _ _ _ HBLK.out HV.out)) ?_))
  have hq1 : IntKind.i64.wrap ((i : Int) + 1) = (i : Int) + 1 := IntWalk.i64_in _ (by omega)
  have hq2 : (0 : Int) ≤ (i : Int) + 1 := by omega
  have hq3 : ((i : Int) + 1).toNat = i + 1 := by omega
  have hq4 : (i : Int) ≤ (n : Int) + 1 := by omega
  have hq5 : (i : Int) + 1 ≤ (n : Int) + 1 := by omega
  refine wp_region_L (fun _ => True) [] [] (by kernel_rfl) trivial ?_
  refine wpAnyL_take (oi := _) (v := _) (fun _ _ _ _ => trivial) (i := 0) rfl (by kernel_rfl) (fun _ _ _ h => h) (pureG (by rfl) (by intro w; go_simp; first | done | with_reducible rfl)) ?_
  try simp only [Act.put, List.getElem_toArray, List.getElem_cons_succ, List.getElem_cons_zero, List.setIfInBounds_toArray, List.set_cons_zero, List.set_cons_succ]
  refine wpAnyL_take (oi := _) (v := _) (fun _ _ _ _ => trivial) (i := 1) rfl (by kernel_rfl) (fun _ _ _ h => h) (pureG (by rfl) (by intro w; go_simp; first | done | with_reducible rfl)) ?_
  try simp only [Act.put, List.getElem_toArray, List.getElem_cons_succ, List.getElem_cons_zero, List.setIfInBounds_toArray, List.set_cons_zero, List.set_cons_succ]
  refine wpAnyL_take (oi := _) (v := _) (fun _ _ _ _ => trivial) (i := 2) rfl (by kernel_rfl) (fun _ _ _ h => h) (pureG (by rfl) (by intro w; go_simp; first | done | with_reducible rfl)) ?_
  try simp only [Act.put, List.getElem_toArray, List.getElem_cons_succ, List.getElem_cons_zero, List.setIfInBounds_toArray, List.set_cons_zero, List.set_cons_succ]
  refine wpAnyL_take (oi := _) (v := _) (fun _ _ _ _ => trivial) (i := 3) rfl (by kernel_rfl) (fun _ _ _ h => h) (pureG (by rfl) (by intro w; go_simp; first | done | with_reducible rfl)) ?_
  try simp only [Act.put, List.getElem_toArray, List.getElem_cons_succ, List.getElem_cons_zero, List.setIfInBounds_toArray, List.set_cons_zero, List.set_cons_succ]
  refine wpAnyL_take (oi := _) (v := _) (fun _ _ _ _ => trivial) (i := 4) rfl (by kernel_rfl) (fun _ _ _ h => h) (pureG (by rfl) (by intro w; go_simp; first | done | with_reducible rfl)) ?_
  try simp only [Act.put, List.getElem_toArray, List.getElem_cons_succ, List.getElem_cons_zero, List.setIfInBounds_toArray, List.set_cons_zero, List.set_cons_succ]
  refine wpAnyL_take (oi := _) (v := _) (fun _ _ _ _ => trivial) (i := 5) rfl (by kernel_rfl) (fun _ _ _ h => h) (pureG (by rfl) (by intro w; go_simp; first | done | with_reducible rfl)) ?_
  try simp only [Act.put, List.getElem_toArray, List.getElem_cons_succ, List.getElem_cons_zero, List.setIfInBounds_toArray, List.set_cons_zero, List.set_cons_succ]
  refine wpAnyL_take (oi := _) (v := _) (fun _ _ _ _ => trivial) (i := 6) rfl (by kernel_rfl) (fun _ _ _ h => h) (pureG (by rfl) (by intro w; go_simp; first | done | with_reducible rfl)) ?_
  try simp only [Act.put, List.getElem_toArray, List.getElem_cons_succ, List.getElem_cons_zero, List.setIfInBounds_toArray, List.set_cons_zero, List.set_cons_succ]
  refine wpAnyL_take (oi := _) (v := _) (fun _ _ _ _ => trivial) (i := 7) rfl (by kernel_rfl) (fun _ _ _ h => h) (pureG (by rfl) (by intro w; go_simp; first | done | with_reducible rfl)) ?_
  try simp only [Act.put, List.getElem_toArray, List.getElem_cons_succ, List.getElem_cons_zero, List.setIfInBounds_toArray, List.set_cons_zero, List.set_cons_succ]
  clear hq1 hq2 hq3 hq4 hq5
  refine wpAnyL_one (i := 8) (by kernel_rfl) rfl (fun W2 hW2 _ => ?_)
  have hG1 : Gr (W1.setCells N (i * 7) (regP x)) W2 := (Gr.drew _).trans hW2
  have hk1 := (HB2.out W1 HBLK.out).gr hG1
  have hgr1 : W1.grownBy W2 (some N) := grown_trans (grown_setCells N _ _ _) (grown_below hG1 _)
  have hk2 := HGG.out.grown hgr1 (fun e => by injection e with e; exact HNE.out.1 e)
  refine wpOp_run (oi := _) rfl (by rfl) (exec_copy rfl rfl rfl (HCP2.out W2 _ _ _ hk1 hk2)) ?_
  refine ⟨trivial, ?_⟩
  try simp only [Act.put, List.getElem_toArray, List.getElem_cons_succ, List.getElem_cons_zero, List.setIfInBounds_toArray, List.set_cons_zero, List.set_cons_succ]
  refine wpAnyL_done (by kernel_rfl) (fun WA hWA => ?_) _
  have HO := Lib.hid (own_below (HB3.out W2 hk1) hWA)
  have HG := Lib.hid (show w.grownBy WA (some g) from by
    have h1 : W1.grownBy WA (some N) := grown_trans (grown_trans hgr1 (grown_setCells N _ _ _)) (grown_below hWA _)
    have h2 : Gr w WA := HGR.out.store h1 (Nat.le_of_eq HNS.out)
    exact grown_below h2 _)
  clear hG1 hgr1 hW2 hWA hk1 hk2
  go_wp2
  go_ret
  exact ⟨_, _, rfl, HO.out, HG.out⟩
end Go.Proofs.Ytelfhpmbnficfaa
