/- slices.Delete at a row of regions: one goes. No condition. -/
import Derived.Test.YtelfhpmbnficfaaIb
namespace Go.Proofs.Ytelfhpmbnficfaa
open Go.RowKit
set_option linter.unusedVariables false
set_option maxRecDepth 100000
set_option linter.unusedSimpArgs false
theorem own_of_blk2 {w : World} {g base n c : Nat} {cs R : List Value} (h : Blk w g 67 (cs ++ R)) (hl : cs.length = n * 7) (hR : R.length = (c - n) * 7) (hbg : base ≤ g) (hc : n ≤ c) (hcm : c ≤ maxLen) :
    w.ownsRow base 67 7 (.slice (some ⟨g, 0, none⟩) n c) n cs := by
  have hs : (cs ++ R).toArray.size = c * 7 := by rw [List.size_toArray, List.length_append, hl, hR]; omega
  have ht : ((cs ++ R).toArray.toList).take (n * 7) = cs := by rw [List.toList_toArray, ← hl]; exact List.take_left
  exact ⟨hl, .inr ⟨g, c, _, rfl, hbg, h, hc, hcm, hs, ht⟩⟩
theorem own_blk_of {w : World} {base n c : Nat} {A : Option Addr} {cs : List Value} (hn : 0 < n) (hown : w.ownsRow base 67 7 (.slice A n c) n cs) : ∃ g sp, A = some ⟨g, 0, none⟩ ∧ Blk w g 67 (cs ++ sp) ∧ sp.length = (c - n) * 7 ∧ base ≤ g ∧ n ≤ c ∧ c ≤ maxLen := by
  rcases hown.2 with ⟨h0, h1⟩ | ⟨g, cap, cur, he, hb1, hg, h1, h2, h3, h4⟩
  · omega
  · injection he with e1 e2 e3
    subst e1 e3
    refine ⟨g, cur.toList.drop (n * 7), rfl, ?_, ?_, hb1, h1, h2⟩
    · unfold Blk
      rw [hg, ← h4, List.take_append_drop]
    · rw [List.length_drop, Array.length_toList, h3, Nat.sub_mul]
theorem zeroV67 (w : World) : (zeroValue 67).run Try.prog w = .ok (.agg #[.int .u64 0, .int .u64 0, .bool false, .bool false, .bool false, .bool false, .bool false]) w := by kernel_rfl
def z7 : List Value := regP ⟨0, 0, false, false, false, false⟩
set_option maxHeartbeats 3200000 in
theorem del_any (base n m c g i j : Nat) (t : List Reg) (w : World) (hn : t.length = n) (hj : i + 1 = j) (hi : j ≤ n) (hm : m + 1 = n) (h16 : n ≤ 16) (hown : w.ownsRow base 67 7 (.slice (some ⟨g, 0, none⟩) n c) n (cellsP t)) :
    Calls Try.prog 35 #[.slice (some ⟨g, 0, none⟩) n c, .int .i64 (i : Nat), .int .i64 (j : Nat)] w (InsIs base m (t.take i ++ t.drop j) (some g) w) := by
  obtain ⟨g', sp, he, hblk, hspl, hbg, hnc, hcm⟩ := own_blk_of (by omega) hown
  injection he with he
  injection he with he
  subst he
  have hP := ptake_length t i (by omega)
  have hD := pdrop_length t j
  have hD' := pdrop_length t i
  rw [hn] at hD hD'
  obtain ⟨E, hE⟩ : ∃ E, cellsP (t.drop i) = E := ⟨_, rfl⟩
  have hcut : cellsP t ++ sp = cellsP (t.take i) ++ (E.take ((n - j) * 7) ++ (E.drop ((n - j) * 7) ++ sp)) := by
    rw [← List.append_assoc (E.take _), List.take_append_drop, ← hE, ← List.append_assoc, ← cellsP_append, List.take_append_drop]
  rw [hE] at hD'
  obtain ⟨O, hO⟩ : ∃ O, E.take ((n - j) * 7) = O := ⟨_, rfl⟩
  obtain ⟨F, hF⟩ : ∃ F, E.drop ((n - j) * 7) = F := ⟨_, rfl⟩
  have hOl : O.length = (n - j) * 7 := by rw [← hO, List.length_take]; omega
  have hFl : F.length = 7 := by rw [← hF, List.length_drop]; omega
  rw [hO, hF] at hcut
  rw [hcut] at hblk
  -- the append
  have hsrc : ∀ (W : World), Gr w W → ∀ A, (A = some ⟨g, if c = j then 0 else j * 7, none⟩) → Src Try.prog 7 59 (.slice A (n - j) (c - j)) (n - j) (cellsP (t.drop j)) W := fun W hW A hA => by
    subst hA
    have hb := hblk.gr hW
    refine Src.ofSlice W Try.underlying59 _ _ _ _ hD (fun k u hk => ?_) (cellsP_one _)
    have hkl := (List.getElem?_eq_some_iff.1 hk).1
    rw [hD] at hkl
    by_cases hcj : c = j
    · omega
    · rw [if_neg hcj, Addr.add_mid, hb.cell, ← hcut]
      rw [← cellsP_drop, List.getElem?_drop] at hk
      rw [List.getElem?_append_left (by rw [cellsP_length, hn]; omega)]
      exact hk
  obtain ⟨i0, hi0, hz0, hz1, hz2⟩ := info_parts info67z
  have hap : ∀ (W : World) ty, Gr w W → (Builtin.append_ #[59, 59] ty #[.slice (some ⟨g, 0, none⟩) i c, .slice (if c = j then some ⟨g, 0, none⟩ else some ⟨g, j * 7, none⟩) (n - j) (c - j)]).run Try.prog W = .ok (.slice (some ⟨g, 0, none⟩) m c) (W.setCells g (i * 7) (cellsP (t.drop j))) := fun W ty hW => by
    have hs := hsrc W hW (if c = j then some ⟨g, 0, none⟩ else some ⟨g, j * 7, none⟩) (by split <;> rfl)
    rw [← hz1] at hs
    have hb := hblk.gr hW
    have := run_append_room_src (P := Try.prog) W 59 59 ty 67 i0 Try.underlying59 hi0 g 0 i c _ (n - j) _ hs (by omega) (fun k hk => (hb.there _ (by rw [hD] at hk; rw [hz1, List.length_append, List.length_append, hP, hOl]; omega)).1) (fun k hk => hb.free _)
    rw [hz1, Nat.zero_add, show i + (n - j) = m by omega] at this
    exact this
  have hb2 : ∀ W : World, Blk W g 67 (cellsP (t.take i) ++ (O ++ (F ++ sp))) → Blk (W.setCells g (i * 7) (cellsP (t.drop j))) g 67 ((cellsP (t.take i) ++ cellsP (t.drop j)) ++ (F ++ sp)) := fun W hb => by
    have := setCells_blk g 67 (cellsP (t.drop j)) (i * 7) W _ hb
    rwa [setL_at hP (hOl.trans hD.symm), ← List.append_assoc] at this
  have hQ : (cellsP (t.take i) ++ cellsP (t.drop j)).length = m * 7 := by rw [List.length_append, hP, hD]; omega
  have hzc : (Builtin.zeroCells (Value.agg #[.int .u64 0, .int .u64 0, .bool false, .bool false, .bool false, .bool false, .bool false]).cells 1).toList = z7 := by kernel_rfl
  have hcl : ∀ (W : World) ty, Blk W g 67 ((cellsP (t.take i) ++ cellsP (t.drop j)) ++ (F ++ sp)) → (Builtin.clear_ #[59] ty #[.slice (some ⟨g, m * 7, none⟩) (n - m) (c - m)]).run Try.prog W = .ok (.tuple #[]) (W.setCells g (m * 7) z7) := fun W ty hb => by
    have h1 : n - m = 1 := by omega
    rw [h1]
    exact run_clear_k W _ _ ty _ Try.underlying59 zeroV67 g (m * 7) 1 _ (by omega) z7 hzc (regP_one _) (fun k hk => (hb.there _ (by have : k < 7 := hk; rw [List.length_append, hQ, List.length_append, hFl]; omega)).1) (fun k hk => hb.free _)
  have hb3 : ∀ W : World, Blk W g 67 ((cellsP (t.take i) ++ cellsP (t.drop j)) ++ (F ++ sp)) → (W.setCells g (m * 7) z7).ownsRow base 67 7 (.slice (some ⟨g, 0, none⟩) m c) m (cellsP (t.take i ++ t.drop j)) := fun W hb => by
    have := setCells_blk g 67 z7 (m * 7) W _ hb
    rw [setL_at hQ (hFl.trans rfl), ← cellsP_append] at this
    refine own_of_blk2 this (by rw [cellsP_append]; exact hQ) ?_ hbg (by omega) hcm
    rw [List.length_append, hspl, show z7.length = 7 from rfl]; omega
  have hci : ¬ (c = i) := by omega
  have hcmm : ¬ (c = m) := by omega
  have hij : ¬ ((i : Int) = (j : Int)) := by omega
  have hij2 : (i : Int) ≤ (j : Int) := by omega
  have hjn : (j : Int) ≤ (n : Int) := by omega
  have hncI : (n : Int) ≤ (c : Int) := by omega
  have hjc : (j : Int) ≤ (c : Int) := by omega
  have hin : (i : Int) ≤ (c : Int) := by omega
  have hmn : (m : Int) ≤ (n : Int) := by omega
  have HAP := Lib.hid hap
  have HCL := Lib.hid hcl
  have HB2 := Lib.hid hb2
  have HB3 := Lib.hid hb3
  have HBLK := Lib.hid hblk
  unfold maxLen at hcm
  clear hap hcl hb2 hb3 hblk hsrc hcut hO hF hOl hFl hE hQ hP hD hD' hspl hown hn hj hm hi0 hz0 hz1 hz2 hzc
  go_enter Try.func35, Try.ntmps35
  go_wp2_with fail
  refine wp_region_L (fun _ => True) [] [] (by kernel_rfl) trivial ?_
  refine wpAnyL_take (oi := _) (v := _) (fun _ _ _ _ => trivial) (i := 0) rfl (by kernel_rfl) (fun _ _ _ h => h) (pureG (by rfl) (by intro w; go_simp; first | done | with_reducible rfl)) ?_
  try simp only [Act.put, List.getElem_toArray, List.getElem_cons_succ, List.getElem_cons_zero, List.setIfInBounds_toArray, List.set_cons_zero, List.set_cons_succ]
  refine wpAnyL_take (oi := _) (v := _) (fun _ _ _ _ => trivial) (i := 1) rfl (by kernel_rfl) (fun _ _ _ h => h) (pureG (by rfl) (by intro w; go_simp; first | done | with_reducible rfl)) ?_
  try simp only [Act.put, List.getElem_toArray, List.getElem_cons_succ, List.getElem_cons_zero, List.setIfInBounds_toArray, List.set_cons_zero, List.set_cons_succ]
  refine wpAnyL_take (oi := _) (v := _) (fun _ _ _ _ => trivial) (i := 2) rfl (by kernel_rfl) (fun _ _ _ h => h) (pureG (by rfl) (by intro w; go_simp; first | done | with_reducible rfl)) ?_
  try simp only [Act.put, List.getElem_toArray, List.getElem_cons_succ, List.getElem_cons_zero, List.setIfInBounds_toArray, List.set_cons_zero, List.set_cons_succ]
  refine wpAnyL_take (oi := _) (v := _) (fun _ _ _ _ => trivial) (i := 3) rfl (by kernel_rfl) (fun _ _ _ h => h) (pureG (by rfl) (by intro w; go_simp; first | done | with_reducible rfl)) ?_
  try simp only [Act.put, List.getElem_toArray, List.getElem_cons_succ, List.getElem_cons_zero, List.setIfInBounds_toArray, List.set_cons_zero, List.set_cons_succ]
  refine wpAnyL_take (oi := _) (v := _) (fun _ _ _ _ => trivial) (i := 4) rfl (by kernel_rfl) (fun _ _ _ h => h) (pureG (by rfl) (by intro w; go_simp; first | done | with_reducible rfl)) ?_
  try simp only [Act.put, List.getElem_toArray, List.getElem_cons_succ, List.getElem_cons_zero, List.setIfInBounds_toArray, List.set_cons_zero, List.set_cons_succ]
  refine wpAnyL_take (oi := _) (v := _) (fun _ _ _ _ => trivial) (i := 5) rfl (by kernel_rfl) (fun _ _ _ h => h) (pureG (by rfl) (by intro w; go_simp; first | done | with_reducible rfl)) ?_
  try simp only [Act.put, List.getElem_toArray, List.getElem_cons_succ, List.getElem_cons_zero, List.setIfInBounds_toArray, List.set_cons_zero, List.set_cons_succ]
  refine wpAnyL_one (i := 6) (by kernel_rfl) rfl (fun W1 hW1 _ => ?_)
  have hG1 : Gr w W1 := (Gr.drew w).trans hW1
  refine wpOp_run (oi := _) rfl (by rfl) (exec_append rfl rfl rfl (HAP.out W1 _ hG1)) ?_
  refine ⟨trivial, ?_⟩
  try simp only [Act.put, List.getElem_toArray, List.getElem_cons_succ, List.getElem_cons_zero, List.setIfInBounds_toArray, List.set_cons_zero, List.set_cons_succ]
  refine wpAnyL_take (oi := _) (v := _) (fun _ _ _ _ => trivial) (i := 7) rfl (by kernel_rfl) (fun _ _ _ h => h) (pureG (by rfl) (by intro w; go_simp; first | done | with_reducible rfl)) ?_
  try simp only [Act.put, List.getElem_toArray, List.getElem_cons_succ, List.getElem_cons_zero, List.setIfInBounds_toArray, List.set_cons_zero, List.set_cons_succ]
  refine wpAnyL_done (by kernel_rfl) (fun WA hWA => ?_) _
  have HB := Lib.hid ((HB2.out W1 (HBLK.out.gr hG1)).gr hWA)
  have hgr1 : w.grownBy (W1.setCells g (i * 7) (cellsP (t.drop j))) (some g) := grown_trans (grown_below hG1 _) (grown_setCells g _ _ _)
  have HG := Lib.hid (grown_trans hgr1 (grown_below hWA _))
  clear hG1 hgr1 hW1 hWA
  go_wp2_with (refine wpList_run rfl (exec_clear rfl rfl (HCL.out _ _ HB.out)) ?_)
  all_goals go_ret
  all_goals first
    | exact ⟨_, _, rfl, HB3.out _ HB.out, grown_trans HG.out (grown_setCells g _ _ _)⟩
    | (rename_i h; exact ⟨some ⟨g, 0, none⟩, c, by rw [h]; rfl, HB3.out _ HB.out, grown_trans HG.out (grown_setCells g _ _ _)⟩)
end Go.Proofs.Ytelfhpmbnficfaa
