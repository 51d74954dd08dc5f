/- The program's Drop. No condition. -/
import Derived.Test.YtelfhpmbnficfaaPa
namespace Go.Proofs.Ytelfhpmbnficfaa
open Go.RowKit
set_option linter.unusedVariables false
set_option maxRecDepth 100000
set_option linter.unusedSimpArgs false
theorem drop_nil (v : Value) (w : World) : Calls Try.prog 15 #[.pointer none, v] w fun e w' => e = .returned (.int .i64 1) ∧ w = w' := by
  go_enter Try.func15, Try.ntmps15
  go_wp2
  go_ret
  exact ⟨rfl, rfl⟩
set_option maxHeartbeats 3200000 in
theorem drop_any (base a p : Nat) (m : List Nat) (t : List Reg) (A : Option Addr) (c : Nat) (w : World) (hp : PAt w base a m t A c) (km : MOk m) (kt : TOk t) (hba : base ≤ a) (hbw : base ≤ w.heap.size) :
    Calls Try.prog 15 #[.pointer (some ⟨a, 0, none⟩), .int .u64 (p : Nat)] w (PDone base a (.int .i64 (drE t p)) m (drT t p) w) := by
  have HB := Lib.hid (behind_any base a m t A c p w hp km kt)
  have HP := Lib.hid hp
  have HKM := Lib.hid km
  have hl := kt.len
  have HFN := Lib.hid (show drE t p = match t[bh t p]? with | some y => if y.b = p then 0 else 165 | none => 165 from rfl)
  have HTN := Lib.hid (show drT t p = if drE t p = 0 then t.take (bh t p) ++ t.drop (bh t p + 1) else t from rfl)
  have HLE := Lib.hid (bh_le t p)
  have HBA := Lib.hid hba
  have HBW := Lib.hid hbw
  obtain ⟨k, hk⟩ : ∃ k, bh t p = k := ⟨_, rfl⟩
  rw [hk] at HB HFN HLE HTN
  obtain ⟨n, hn⟩ : ∃ n, t.length = n := ⟨_, rfl⟩
  have HN := Lib.hid hn
  rw [hn] at hl HLE
  clear hp km kt hk hba hbw
  cases hx : t[k]? with
  | none =>
    have hkn : k = n := by
      have := HLE.out
      have := List.getElem?_eq_none_iff.1 hx
      omega
    have ef : drE t p = 165 := by rw [HFN.out, hx]
    rw [drT_no (by rw [ef]; decide), ef]
    subst hkn
    clear hx ef HFN HTN hn
    go_enter Try.func15, Try.ntmps15
    go_wp2_with fail
    refine HB.out.mono ?_
    rintro e w2 ⟨rfl, hb2⟩
    have ht2 := (HP.out.bel hb2).tab HKM.out
    rw [HN.out] at ht2
    have HB2 := Lib.hid hb2
    clear hb2
    go_wp2
    go_ret
    exact PDone.same HP.out HB2.out
  | some x =>
    have hkn : k < n := by have := len_of hx; omega
    have hkI : (k : Int) < (n : Int) := by omega
    have hkne : ¬ ((k : Int) = (n : Int)) := by omega
    obtain ⟨g, hA, _, hr⟩ := HP.out.reg k x hx
    subst hA
    have HX := Lib.hid (by rw [HFN.out, hx] : drE t p = if x.b = p then 0 else 165)
    have HR := Lib.hid hr
    obtain ⟨b, s, rd, wrt, ex, sc⟩ := x
    simp only at HX
    by_cases hbp : b = p
    · have ef := HX.out
      rw [if_pos hbp] at ef
      have eT := HTN.out
      rw [if_pos ef] at eT
      rw [ef, eT]
      have hd : ((b : Int) != (p : Int)) = false := by simp; omega
      obtain ⟨j, hj⟩ : ∃ j, k + 1 = j := ⟨_, rfl⟩
      obtain ⟨m1, hm1⟩ : ∃ m1, m1 + 1 = n := ⟨n - 1, by omega⟩
      rw [hj]
      have hji : (k : Int) + 1 = (j : Int) := by omega
      have HJ := Lib.hid (show k + 1 = j ∧ j ≤ n ∧ m1 + 1 = n ∧ n ≤ 16 from ⟨hj, by omega, hm1, hl⟩)
      clear hx ef eT HFN HTN HX hr hn hkn hbp hj hm1
      go_enter Try.func15, Try.ntmps15
      go_wp2_with fail
      refine HB.out.mono ?_
      rintro e w2 ⟨rfl, hb2⟩
      have ht2 := (HP.out.bel hb2).tab HKM.out
      rw [HN.out] at ht2
      obtain ⟨e0, e1, e2, e3, e4, e5, e6⟩ := reg7 (range_gr HR.out hb2)
      have HP2 := Lib.hid (HP.out.bel hb2)
      have HB2 := Lib.hid (show Gr w w2 from hb2)
      have hrow := HP2.out.row
      rw [HN.out] at hrow
      have HC := Lib.hid (del_any base n m1 c g k j t w2 HN.out HJ.out.1 HJ.out.2.1 HJ.out.2.2.1 HJ.out.2.2.2 hrow)
      have HROW := Lib.hid hrow
      clear hb2 hrow
      go_wp2_with fail
      clear e0 e1 e2 e3 e4 e5 e6 ht2
      try rw [hji]
      refine HC.out.mono ?_
      rintro e w3 ⟨A3, c3, rfl, hrow3, hg3⟩
      have hag : g ≠ a := fun e => by
        obtain ⟨cs, hbq, _⟩ := own_is HROW.out rfl
        exact blk_ne HP2.out.blk hbq (by decide) e.symm
      have hblk3 := HP2.out.blk.grown hg3 (fun e => by injection e with e; exact hag e.symm)
      have hc3 : w3.cell? ⟨a, 65536, none⟩ = some (.slice (some ⟨g, 0, none⟩) t.length c) := by
        rw [hblk3.cell, List.getElem?_append_right (by rw [natsV_length, HKM.out.ln]; omega), natsV_length, HKM.out.ln]; rfl
      have hf3 := hblk3.free 65536
      have hlen : (t.take k ++ t.drop j).length = m1 := by rw [List.length_append, List.length_take, List.length_drop, HN.out]; have := HJ.out; omega
      have hfin : PAt (w3.setCell ⟨a, 65536, none⟩ (.slice A3 m1 c3)) base a m (t.take k ++ t.drop j) A3 c3 := by
        refine ⟨?_, ?_⟩
        · rw [hlen]
          have := hblk3.set 65536 (.slice A3 m1 c3)
          rwa [List.set_append_right _ _ (by rw [natsV_length, HKM.out.ln]; omega), natsV_length, HKM.out.ln] at this
        · rw [hlen]
          exact own_grown hrow3 (grown_setCell w3 ⟨a, 65536, none⟩ _) (fun q hq e => by
            obtain ⟨sp, hbq, _⟩ := own_is hrow3 hq
            injection e with e
            exact blk_ne hblk3 hbq (by decide) e)
      have hfr : FrT base tyP w (w3.setCell ⟨a, 65536, none⟩ (.slice A3 m1 c3)) := by
        have f2 : FrT base tyP w2 w3 := fr_own HROW.out (by decide) hg3
        have f4 : FrT base tyP w3 (w3.setCell ⟨a, 65536, none⟩ (.slice A3 m1 c3)) := FrT.grown hblk3 HBA.out (by decide) (grown_setCell w3 ⟨a, 65536, none⟩ _)
        exact ((FrT.bel HB2.out).trans f2).trans f4
      have HFIN := Lib.hid hfin
      have HFR := Lib.hid hfr
      clear hfin hfr hlen hblk3 hag hrow3 hg3
      go_wp2_with fail
      go_ret
      exact ⟨rfl, ⟨_, _, HFIN.out⟩, HFR.out⟩
    · have ef := HX.out
      rw [if_neg hbp] at ef
      rw [drT_no (by rw [ef]; decide), ef]
      have hd : ((b : Int) != (p : Int)) = true := by simp; omega
      clear hx ef HFN HTN HX hr hn hkn hbp
      go_enter Try.func15, Try.ntmps15
      go_wp2_with fail
      refine HB.out.mono ?_
      rintro e w2 ⟨rfl, hb2⟩
      have ht2 := (HP.out.bel hb2).tab HKM.out
      rw [HN.out] at ht2
      obtain ⟨e0, e1, e2, e3, e4, e5, e6⟩ := reg7 (range_gr HR.out hb2)
      have HB2 := Lib.hid hb2
      clear hb2
      go_wp2_with fail
      go_ret
      exact PDone.same HP.out HB2.out
end Go.Proofs.Ytelfhpmbnficfaa
