/- The document's Drop. No condition. -/
import Derived.Test.YtelfhpmbnficfaaDr
namespace Go.Proofs.Ytelfhpmbnficfaa
open Go.RowKit
set_option linter.unusedVariables false
set_option maxRecDepth 100000
set_option linter.unusedSimpArgs false
set_option maxHeartbeats 6400000 in
theorem rdrop_any (base a p : Nat) (m : List Nat) (t : List Reg) (A : Option Addr) (c : Nat) (w : World) (hp : RAt w base a m t A c) (km : MOk m) (kt : TOk t) (hba : base ≤ a) (hbw : base ≤ w.heap.size) :
    Calls Try.prog 25 #[.pointer (some ⟨a, 0, none⟩), .int .u64 (p : Nat)] w (DDone base a (.int .i64 (drE t p)) m (drT t p) w) := by
  have HP := Lib.hid hp
  have HKM := Lib.hid km
  have HKT := Lib.hid kt
  have HBA := Lib.hid hba
  have HBW := Lib.hid hbw
  have hl := kt.len
  obtain ⟨E, hE⟩ : ∃ E, drE t p = E := ⟨_, rfl⟩
  obtain ⟨T2, hT2⟩ : ∃ T2, drT t p = T2 := ⟨_, rfl⟩
  have HE := Lib.hid hE
  have HT2 := Lib.hid hT2
  rw [hE, hT2]
  have ht := hp.tab km
  obtain ⟨n, hn⟩ : ∃ n, t.length = n := ⟨_, rfl⟩
  have HN := Lib.hid hn
  rw [hn] at ht hl
  have HT := Lib.hid ht
  clear hp km kt hba hbw hE hT2 ht hn
  go_enter Try.func25, Try.ntmps25
  go_wp2_with fail
  go_loopw [5] (fun v5 wr => ∃ k : Nat, v5 = .int .i64 (k : Nat) ∧ k ≤ n ∧ (∀ (j : Nat) (y : Reg), j < k → t[j]? = some y → y.b ≠ p) ∧ w = wr) (fun v5 _ => n - (intOf v5).toNat)
  case atStart => exact ⟨0, rfl, Nat.zero_le _, fun j x h => by omega, rfl⟩
  case round =>
    obtain ⟨k, rfl, hk, hno, rfl⟩ := hrel
    have HNO := Lib.hid hno
    have ht := HT.out
    clear hno
    by_cases hkn : k < n
    · have hkI : (k : Int) < (n : Int) := by omega
      obtain ⟨y, hy⟩ := ent (t := t) (j := k) (by rw [HN.out]; exact hkn)
      obtain ⟨g, hA, _, hr⟩ := HP.out.reg k y hy
      subst hA
      have HY := Lib.hid hy
      obtain ⟨yb, hyb⟩ : ∃ yb, y.b = yb := ⟨_, rfl⟩
      have HYB := Lib.hid hyb
      have e0 : w.cell? ⟨g, k * 6, none⟩ = some (.int .u64 (yb : Nat)) := by have := hr 0 _ rfl; rw [hyb] at this; exact this
      clear hy hr hyb
      by_cases hpb : yb = p
      · have hd : ((yb : Int) == (p : Int)) = true := by simp; omega
        obtain ⟨hbh, hde⟩ := drE_here HKT.out k y HY.out
        rw [HYB.out, hpb] at hbh hde
        have HET := Lib.hid (show E = 0 ∧ T2 = t.take k ++ t.drop (k + 1) from ⟨by rw [← HE.out, hde], by rw [← HT2.out]; unfold drT; rw [if_pos hde, hbh]⟩)
        have HIN1 := Lib.hid (HP.out.head k (by rw [HN.out]; omega))
        obtain ⟨j, hj⟩ : ∃ j, k + 1 = j := ⟨_, rfl⟩
        rw [hj] at HET
        obtain ⟨hin2, hnc⟩ := HP.out.tail2 j (by rw [HN.out]; omega)
        rw [HN.out] at hin2 hnc
        have HIN2 := Lib.hid hin2
        have hji : (k : Int) + 1 = (j : Int) := by omega
        have hjn : (j : Int) ≤ (n : Int) := by omega
        have hkc : (k : Int) ≤ (c : Int) := by omega
        have hjc : (j : Int) ≤ (c : Int) := by omega
        have hjn2 : j ≤ n := by omega
        have HKJ := Lib.hid hj
        clear hin2 hpb hbh hde hj
        by_cases hci : c = j
        · have hci2 := hci.symm
          clear hci HIN2
          subst hci2
          have ekm : n = j := by omega
          have EKM := Lib.hid ekm
          have HI2 := Lib.hid (show RIn w (some ⟨g, 0, none⟩) 0 0 (t.drop j) from ⟨by rw [List.length_drop, HN.out]; omega, (fun e => by cases e), .inl rfl⟩)
          clear ekm
          go_wp2_with (first
            | (at_builtin; refine wpList_append_regs _ rfl (.tmp 26) (.tmp 32) rfl w.heap.size 0 k j 0 none (some ⟨g, 0, none⟩) [] (t.take k) rfl rfl (by omega) (by omega) (own_nil _ _ _ _) HIN1.out (Nat.le_refl _) ?_; intro V1 c1 w1 hown1 hg1; have HG1 := Lib.hid (gr_own (Gr.refl w) (own_nil w w.heap.size 34 6) hg1); have ht1 := gcell HT.out HG1.out; have HO1 := Lib.hid (show w1.ownsRow w.heap.size 34 6 (.slice V1 k c1) k (cellsD (t.take k)) from by simpa using hown1); clear hown1 hg1)
            | (at_builtin; refine wpList_append_regs _ rfl (.tmp 35) (.tmp 42) rfl w.heap.size k 0 0 c1 V1 (some ⟨g, 0, none⟩) (t.take k) (t.drop j) rfl rfl (by omega) (by omega) HO1.out (HI2.out.gr HG1.out) HG1.out.size ?_; intro V3 c3 w3 hown3 hg3; have HG3 := Lib.hid (gr_own HG1.out HO1.out hg3); have ht3 := gcell HT.out HG3.out; have hf3 := (HP.out.bel HG3.out).blk.free 65536; have HO3 := Lib.hid hown3; clear hown3 hg3))
          all_goals go_ret
          all_goals rw [HET.out.1, HET.out.2]
          all_goals exact DDone.put HP.out HKM.out HBA.out HBW.out HG3.out (by rw [List.length_append, List.length_take, List.length_drop, HN.out]; have := EKM.out; omega) HO3.out
        · have HI2 := Lib.hid (by have := HIN2.out; rwa [if_neg hci] at this : RIn w (some ⟨g, j * 6, none⟩) (n - j) (c - j) (t.drop j))
          clear HIN2
          go_wp2_with (first
            | (at_builtin; refine wpList_append_regs _ rfl (.tmp 26) (.tmp 32) rfl w.heap.size 0 k c 0 none (some ⟨g, 0, none⟩) [] (t.take k) rfl rfl (by omega) (by omega) (own_nil _ _ _ _) HIN1.out (Nat.le_refl _) ?_; intro V1 c1 w1 hown1 hg1; have HG1 := Lib.hid (gr_own (Gr.refl w) (own_nil w w.heap.size 34 6) hg1); have ht1 := gcell HT.out HG1.out; have HO1 := Lib.hid (show w1.ownsRow w.heap.size 34 6 (.slice V1 k c1) k (cellsD (t.take k)) from by simpa using hown1); clear hown1 hg1)
            | (at_builtin; refine wpList_append_regs _ rfl (.tmp 35) (.tmp 42) rfl w.heap.size k (n - j) (c - j) c1 V1 (some ⟨g, j * 6, none⟩) (t.take k) (t.drop j) rfl rfl (by omega) (by omega) HO1.out (HI2.out.gr HG1.out) HG1.out.size ?_; intro V3 c3 w3 hown3 hg3; have HG3 := Lib.hid (gr_own HG1.out HO1.out hg3); have ht3 := gcell HT.out HG3.out; have hf3 := (HP.out.bel HG3.out).blk.free 65536; have HO3 := Lib.hid hown3; clear hown3 hg3))
          all_goals go_ret
          all_goals rw [HET.out.1, HET.out.2]
          all_goals exact DDone.put HP.out HKM.out HBA.out HBW.out HG3.out (by rw [List.length_append, List.length_take, List.length_drop, HN.out]; omega) HO3.out
      · have hd : ((yb : Int) == (p : Int)) = false := by simp; omega
        have HNP := Lib.hid hpb
        clear hpb
        go_wp2_with fail
        go_roundw
        case rel => exact ⟨k + 1, by go_num, hkn, fun j z hj hz => by
          rcases Nat.lt_succ_iff_lt_or_eq.1 hj with h | h
          · exact HNO.out j z h hz
          · subst h; rw [HY.out] at hz; injection hz with hz; subst hz; rw [HYB.out]; exact HNP.out, trivial⟩
        case measure => simp [intOf]; omega
    · obtain rfl : k = n := by omega
      have hde := drE_none p (fun j y hy => HNO.out j y (by have := len_of hy; rw [HN.out] at this; exact this) hy)
      have HET := Lib.hid (show E = 165 ∧ T2 = t from ⟨by rw [← HE.out, hde], by rw [← HT2.out]; exact drT_no (by rw [hde]; decide)⟩)
      clear hkn hde
      go_wp2_with fail
      go_ret
      rw [HET.out.1, HET.out.2]
      exact DDone.same HP.out (Below.refl _ _)
end Go.Proofs.Ytelfhpmbnficfaa
