/- slices.Insert at a row of regions. No condition. -/
import Derived.Test.YtelfhpmbnficfaaIa
import Derived.Shelf.RegionOpenPlain
namespace Go.Proofs.Ytelfhpmbnficfaa
open Go.RowKit
set_option linter.unusedVariables false
set_option maxRecDepth 100000
set_option linter.unusedSimpArgs false
theorem setL_at {a old new c : List Value} {k : Nat} (hk : a.length = k) (hl : old.length = new.length) : setL (a ++ (old ++ c)) k new = a ++ (new ++ c) := by
  subst hk; exact setL_mid new old a c hl
/-- the row as it is, cut where the new region goes -/
theorem cut_row (t : List Reg) (sp : List Value) (i : Nat) (hi : i < t.length) (hs : 7 ≤ sp.length) :
    ∃ F O R, cellsP t ++ sp = cellsP (t.take i) ++ (F ++ (O ++ R)) ∧ F.length = 7 ∧ O.length = (cellsP (t.drop i)).length := by
  refine ⟨(cellsP (t.drop i) ++ sp.take 7).take 7, (cellsP (t.drop i) ++ sp.take 7).drop 7, sp.drop 7, ?_, ?_, ?_⟩
  · rw [← List.append_assoc ((cellsP (t.drop i) ++ sp.take 7).take 7), List.take_append_drop, List.append_assoc (cellsP (t.drop i)), List.take_append_drop, ← List.append_assoc, ← cellsP_append, List.take_append_drop]
  · rw [List.length_take, List.length_append, cellsP_length, List.length_take]; omega
  · rw [List.length_drop, List.length_append, cellsP_length, List.length_take]; omega
theorem cellsP_ins (t : List Reg) (x : Reg) (i : Nat) : cellsP (t.take i ++ (x :: t.drop i)) = cellsP (t.take i) ++ (regP x ++ cellsP (t.drop i)) := by
  rw [cellsP_append]; rfl
theorem ptake_length (t : List Reg) (i : Nat) (hi : i ≤ t.length) : (cellsP (t.take i)).length = i * 7 := by rw [cellsP_length, List.length_take, Nat.min_eq_left hi]
theorem pdrop_length (t : List Reg) (i : Nat) : (cellsP (t.drop i)).length = (t.length - i) * 7 := by rw [cellsP_length, List.length_drop]
theorem Blk.shape {w : World} {g t : Nat} {cs : List Value} (h : Blk w g t cs) : w.shape? g = some (t, cs.length) := by
  unfold Blk at h
  unfold World.shape?
  rw [h]; simp
theorem size67 (w : World) : (sizeOf 67).run Try.prog w = .ok 7 w := by kernel_rfl
theorem ov_false (w : World) (vb g o lb cb : Nat) (x : Reg) (cs : List Value) (hv : Blk w vb 67 (regP x)) (hb : Blk w g 67 cs) (hl : 0 < cs.length) (hne : vb ≠ g) :
    (callFunc 50 #[.slice (some ⟨vb, 0, none⟩) 1 1, .slice (some ⟨g, o, none⟩) lb cb]).run Try.prog w = .ok (.value (.bool false)) w := by
  have h := Lib.run_overlaps_apart (P := Try.prog) w 59 4 67 Try.underlying59 7 size67 ⟨vb, 0, none⟩ ⟨g, o, none⟩ 1 1 lb cb hne 67 67 (regP x).length cs.length hv.shape hb.shape (by omega) (hv.free 0) (hv.free _)
  rw [run_callFunc_extern Try.func50 (by kernel_rfl) (by kernel_rfl) (by kernel_rfl) (e := Extern.SlicesOverlaps.overlaps #[59, 59] #[4]) (by kernel_rfl), h]
  rfl
theorem own_of_blk {w : World} {g base n c : Nat} {cs R : List Value} (h : Blk w g 67 (cs ++ R)) (hl : cs.length = (n + 1) * 7) (hR : R.length = (c - n - 1) * 7) (hbg : base ≤ g) (hc : n + 1 ≤ c) (hcm : c ≤ maxLen) :
    w.ownsRow base 67 7 (.slice (some ⟨g, 0, none⟩) (n + 1) c) (n + 1) cs := by
  have hs : (cs ++ R).toArray.size = c * 7 := by rw [List.size_toArray, List.length_append, hl, hR]; omega
  have ht : ((cs ++ R).toArray.toList).take ((n + 1) * 7) = cs := by rw [List.toList_toArray, ← hl]; exact List.take_left
  exact ⟨hl, .inr ⟨g, c, _, rfl, hbg, h, hc, hcm, hs, ht⟩⟩
set_option maxHeartbeats 3200000 in
theorem ins_mid (base n c vb g i : Nat) (t : List Reg) (x : Reg) (w : World) (hn : t.length = n) (hi : i < n) (hc : n + 1 ≤ c) (h15 : n ≤ 15) (hown : w.ownsRow base 67 7 (.slice (some ⟨g, 0, none⟩) n c) n (cellsP t)) (hv : Blk w vb 67 (regP x)) (hne : vb ≠ g) :
    Calls Try.prog 39 #[.slice (some ⟨g, 0, none⟩) n c, .int .i64 (i : Nat), .slice (some ⟨vb, 0, none⟩) 1 1] w (InsIs base (n + 1) (t.take i ++ (x :: t.drop i)) (some g) w) := by
  obtain ⟨sp, hblk, hspl, hbg, hcm⟩ : ∃ sp, Blk w g 67 (cellsP t ++ sp) ∧ sp.length = (c - n) * 7 ∧ base ≤ g ∧ c ≤ maxLen := by
    rcases hown.2 with ⟨h0, h1⟩ | ⟨g', cap, cur, he, hb1, hg, h1, h2, h3, h4⟩
    · omega
    · injection he with e1 e2 e3
      injection e1 with e1
      injection e1 with e1
      subst e1 e3
      refine ⟨cur.toList.drop (n * 7), ?_, ?_, hb1, h2⟩
      · unfold Blk
        rw [hg, ← h4, List.take_append_drop]
      · rw [List.length_drop, Array.length_toList, h3, Nat.sub_mul]
  obtain ⟨F, O, R, hcut, hF, hO⟩ := cut_row t sp i (by rw [hn]; exact hi) (by omega)
  have hP := ptake_length t i (by omega)
  have hX := pdrop_length t i
  rw [hn] at hX
  rw [hcut] at hblk
  have hlen : (cellsP (t.take i) ++ (F ++ (O ++ R))).length = c * 7 := by rw [← hcut, List.length_append, cellsP_length, hspl, hn]; omega
  have hRl : R.length = (c - n - 1) * 7 := by
    rw [List.length_append, List.length_append, List.length_append, hP, hF, hO, hX] at hlen
    omega
  -- the copies
  have hcp1 : ∀ (W : World) ty dc sc, Gr w W → (Builtin.copy_ #[59, 59] ty #[.slice (some ⟨g, (i + 1) * 7, none⟩) (n - i) dc, .slice (some ⟨g, i * 7, none⟩) (n + 1 - i) sc]).run Try.prog W = .ok (goInt ((n - i : Nat) : Int)) (W.setCells g ((i + 1) * 7) (cellsP (t.drop i))) := fun W ty dc sc hW => by
    have hb := hblk.gr hW
    refine run_copy_k W _ _ ty 67 7 g ((i + 1) * 7) (n - i) dc ⟨g, i * 7, none⟩ (n + 1 - i) sc (n - i) (cellsP (t.drop i)) Try.underlying59 info67 (by simp only [Nat.min_def]; split <;> omega) hX (fun j v hj => ?_) (fun j hj => (hb.there _ ?_).1) (fun j hj => (hb.there _ ?_).2) (cellsP_one _)
    · rw [Addr.add_mid, hb.cell, ← hcut]
      have hjl := (List.getElem?_eq_some_iff.1 hj).1
      rw [← cellsP_drop, List.getElem?_drop] at hj
      rw [hX] at hjl
      rw [List.getElem?_append_left (by rw [cellsP_length, hn]; omega)]
      exact hj
    · rw [hX] at hj; rw [hlen]; omega
    · rw [hX] at hj; rw [hlen]; omega
  have hb2 : ∀ W : World, Blk W g 67 (cellsP (t.take i) ++ (F ++ (O ++ R))) → Blk (W.setCells g ((i + 1) * 7) (cellsP (t.drop i))) g 67 (cellsP (t.take i) ++ (F ++ (cellsP (t.drop i) ++ R))) := fun W hb => by
    have := setCells_blk g 67 (cellsP (t.drop i)) ((i + 1) * 7) W _ hb
    rwa [← List.append_assoc, setL_at (by rw [List.length_append, hP, hF]; omega) hO, List.append_assoc] at this
  have hcp2 : ∀ (W : World) ty dc, Blk W g 67 (cellsP (t.take i) ++ (F ++ (cellsP (t.drop i) ++ R))) → Blk W vb 67 (regP x) → (Builtin.copy_ #[59, 59] ty #[.slice (some ⟨g, i * 7, none⟩) (n + 1 - i) dc, .slice (some ⟨vb, 0, none⟩) 1 1]).run Try.prog W = .ok (goInt ((1 : Nat) : Int)) (W.setCells g (i * 7) (regP x)) := fun W ty dc hb hx => by
    refine run_copy_k W _ _ ty 67 7 g (i * 7) (n + 1 - i) dc ⟨vb, 0, none⟩ 1 1 1 (regP x) Try.underlying59 info67 (by simp only [Nat.min_def]; split <;> omega) rfl (fun j v hj => ?_) (fun j hj => (hb.there _ ?_).1) (fun j hj => (hb.there _ ?_).2) (regP_one _)
    · rw [Addr.add_mid, Nat.zero_add, hx.cell]; exact hj
    · have hj7 : j < 7 := hj
      rw [List.length_append, List.length_append, hP, hF]; omega
    · have hj7 : j < 7 := hj
      rw [List.length_append, List.length_append, hP, hF]; omega
  have hIl : (cellsP (t.take i ++ (x :: t.drop i))).length = (n + 1) * 7 := by rw [cellsP_ins, List.length_append, List.length_append, hP, hX, show (regP x).length = 7 from rfl]; omega
  have hb3 : ∀ W : World, Blk W g 67 (cellsP (t.take i) ++ (F ++ (cellsP (t.drop i) ++ R))) → (W.setCells g (i * 7) (regP x)).ownsRow base 67 7 (.slice (some ⟨g, 0, none⟩) (n + 1) c) (n + 1) (cellsP (t.take i ++ (x :: t.drop i))) := fun W hb => by
    have := setCells_blk g 67 (regP x) (i * 7) W _ hb
    rw [setL_at hP (hF.trans rfl), ← List.append_assoc (regP x), ← List.append_assoc, ← cellsP_ins] at this
    exact own_of_blk this hIl hRl hbg hc hcm
  have hov := fun lb cb => ov_false w vb g ((i + 1) * 7) lb cb x _ hv hblk (by simp only [List.length_append, hF]; omega) hne
  have hci1 : ¬ (c = i + 1) := by omega
  have hci : ¬ (c = i) := by omega
  have hin : (i : Int) ≤ (n : Int) := by omega
  have hni : ¬ ((i : Int) = (n : Int)) := by omega
  have hnc : (n : Int) + 1 ≤ (c : Int) := by omega
  have hi15 : (i : Int) ≤ 15 := by omega
  have hn15 : (n : Int) ≤ 15 := by omega
  have hi2 : (i : Int) + 1 ≤ (n : Int) + 1 := by omega
  have HCP1 := Lib.hid hcp1
  have HCP2 := Lib.hid hcp2
  have HB2 := Lib.hid hb2
  have HB3 := Lib.hid hb3
  have HBLK := Lib.hid hblk
  have HV := Lib.hid hv
  have HOV := Lib.hid hov
  unfold maxLen at hcm
  clear hcp1 hcp2 hb2 hb3 hblk hv hov hcut hF hO hlen hP hX hRl hspl hown hn
  go_enter Try.func39, Try.ntmps39
  go_wp2_with (simp only [HOV.out])
  have hw1 : IntKind.i64.wrap ((i : Int) + 1) = (i : Int) + 1 := IntWalk.i64_in _ (by omega)
  have hw2 : (0 : Int) ≤ (i : Int) + 1 := by omega
  have hw3 : ((i : Int) + 1).toNat = i + 1 := by omega
  have hw4 : (i : Int) ≤ (n : Int) + 1 := by omega
  refine wp_region_L (fun _ => True) [] [] (by kernel_rfl) trivial ?_
  refine wpAnyL_take (oi := _) (v := _) (fun _ _ _ _ => trivial) (i := 0) rfl (by kernel_rfl) (fun _ _ _ h => h) (pureG (by rfl) (by intro w; go_simp; first | done | with_reducible rfl)) ?_
  try simp only [Act.put, List.getElem_toArray, List.getElem_cons_succ, List.getElem_cons_zero, List.setIfInBounds_toArray, List.set_cons_zero, List.set_cons_succ]
  refine wpAnyL_take (oi := _) (v := _) (fun _ _ _ _ => trivial) (i := 1) rfl (by kernel_rfl) (fun _ _ _ h => h) (pureG (by rfl) (by intro w; go_simp; first | done | with_reducible rfl)) ?_
  try simp only [Act.put, List.getElem_toArray, List.getElem_cons_succ, List.getElem_cons_zero, List.setIfInBounds_toArray, List.set_cons_zero, List.set_cons_succ]
  refine wpAnyL_take (oi := _) (v := _) (fun _ _ _ _ => trivial) (i := 2) rfl (by kernel_rfl) (fun _ _ _ h => h) (pureG (by rfl) (by intro w; go_simp; first | done | with_reducible rfl)) ?_
  try simp only [Act.put, List.getElem_toArray, List.getElem_cons_succ, List.getElem_cons_zero, List.setIfInBounds_toArray, List.set_cons_zero, List.set_cons_succ]
  refine wpAnyL_take (oi := _) (v := _) (fun _ _ _ _ => trivial) (i := 3) rfl (by kernel_rfl) (fun _ _ _ h => h) (pureG (by rfl) (by intro w; go_simp; first | done | with_reducible rfl)) ?_
  try simp only [Act.put, List.getElem_toArray, List.getElem_cons_succ, List.getElem_cons_zero, List.setIfInBounds_toArray, List.set_cons_zero, List.set_cons_succ]
  refine wpAnyL_take (oi := _) (v := _) (fun _ _ _ _ => trivial) (i := 4) rfl (by kernel_rfl) (fun _ _ _ h => h) (pureG (by rfl) (by intro w; go_simp; first | done | with_reducible rfl)) ?_
  try simp only [Act.put, List.getElem_toArray, List.getElem_cons_succ, List.getElem_cons_zero, List.setIfInBounds_toArray, List.set_cons_zero, List.set_cons_succ]
  refine wpAnyL_take (oi := _) (v := _) (fun _ _ _ _ => trivial) (i := 5) rfl (by kernel_rfl) (fun _ _ _ h => h) (pureG (by rfl) (by intro w; go_simp; first | done | with_reducible rfl)) ?_
  try simp only [Act.put, List.getElem_toArray, List.getElem_cons_succ, List.getElem_cons_zero, List.setIfInBounds_toArray, List.set_cons_zero, List.set_cons_succ]
  refine wpAnyL_take (oi := _) (v := _) (fun _ _ _ _ => trivial) (i := 6) rfl (by kernel_rfl) (fun _ _ _ h => h) (pureG (by rfl) (by intro w; go_simp; first | done | with_reducible rfl)) ?_
  try simp only [Act.put, List.getElem_toArray, List.getElem_cons_succ, List.getElem_cons_zero, List.setIfInBounds_toArray, List.set_cons_zero, List.set_cons_succ]
  refine wpAnyL_take (oi := _) (v := _) (fun _ _ _ _ => trivial) (i := 7) rfl (by kernel_rfl) (fun _ _ _ h => h) (pureG (by rfl) (by intro w; go_simp; first | done | with_reducible rfl)) ?_
  try simp only [Act.put, List.getElem_toArray, List.getElem_cons_succ, List.getElem_cons_zero, List.setIfInBounds_toArray, List.set_cons_zero, List.set_cons_succ]
  clear hw1 hw2 hw3 hw4
  refine wpAnyL_one (i := 8) (by kernel_rfl) rfl (fun W1 hW1 _ => ?_)
  have hG1 : Gr w W1 := (Gr.drew w).trans hW1
  refine wpOp_run (oi := _) rfl (by rfl) (exec_copy rfl rfl rfl (HCP1.out W1 _ _ _ hG1)) ?_
  refine ⟨trivial, ?_⟩
  try simp only [Act.put, List.getElem_toArray, List.getElem_cons_succ, List.getElem_cons_zero, List.setIfInBounds_toArray, List.set_cons_zero, List.set_cons_succ]
  refine wpAnyL_done (by kernel_rfl) (fun WA hWA => ?_) _
  have HB := Lib.hid ((HB2.out W1 (HBLK.out.gr hG1)).gr hWA)
  have hgr1 : w.grownBy (W1.setCells g ((i + 1) * 7) (cellsP (t.drop i))) (some g) := grown_trans (grown_below hG1 _) (grown_setCells g _ _ _)
  have HG := Lib.hid (grown_trans hgr1 (grown_below hWA _))
  have HVA := Lib.hid (HV.out.grown HG.out (fun e => by injection e with e; exact hne e))
  clear hG1 hgr1 hW1 hWA
  go_wp2_with (refine wpList_run rfl (exec_copy rfl rfl rfl (HCP2.out _ _ _ HB.out HVA.out)) ?_)
  go_ret
  exact ⟨_, _, rfl, HB3.out _ HB.out, grown_trans HG.out (grown_setCells g _ _ _)⟩
end Go.Proofs.Ytelfhpmbnficfaa
