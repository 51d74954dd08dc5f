/- The program's Find. No condition. -/
import Derived.Test.YtelfhpmbnficfaaPr
namespace Go.Proofs.Ytelfhpmbnficfaa
open Go.RowKit
set_option linter.unusedVariables false
set_option maxRecDepth 100000
set_option linter.unusedSimpArgs false
def r0 : Reg := ⟨0, 0, false, false, false, false⟩
theorem regD_one (x : Reg) : ∀ v ∈ regD x, v.oneCell' = true := fun v hv => cellsD_one [x] v (by simpa [cellsD] using hv)
theorem allD (x : Reg) : (regD x).toArray.all (·.oneCell') = true := Array.all_eq_true_iff_forall_mem.2 (fun v hv => regD_one x v (by simpa using hv))
theorem allP (x : Reg) : (regP x).toArray.all (·.oneCell') = true := Array.all_eq_true_iff_forall_mem.2 (fun v hv => regP_one x v (by simpa using hv))
/-- how Find answers -/
def fndV (o : Option Reg) : Value := match o with
  | some x => .tuple #[.agg (regD x).toArray, .bool true]
  | none => .tuple #[.agg (regD r0).toArray, .bool false]
set_option maxHeartbeats 3200000 in
theorem find_any (base a : Nat) (m : List Nat) (t : List Reg) (A : Option Addr) (c p : Nat) (w : World) (hp : PAt w base a m t A c) (km : MOk m) (kt : TOk t) :
    Calls Try.prog 17 #[.pointer (some ⟨a, 0, none⟩), .int .u64 (p : Nat)] w fun e w' => e = .returned (fndV (fnd t p)) ∧ Below w.heap.size w w' := by
  have h1 := Gr.alloc w (.cells (regD r0).toArray 34)
  have HB := Lib.hid (behind_any base a m t A c p (w.alloc (.cells (regD r0).toArray 34)) (hp.bel h1) km kt)
  have HG := Lib.hid h1
  have HP := Lib.hid (hp.bel h1)
  have HKM := Lib.hid km
  have hl := kt.len
  have HD := Lib.hid (Blk.new w 34 (regD r0))
  have HFN := Lib.hid (show fnd t p = match t[bh t p]? with | some y => if y.b ≤ p then some y else none | none => none from rfl)
  have HLE := Lib.hid (bh_le t p)
  obtain ⟨k, hk⟩ : ∃ k, bh t p = k := ⟨_, rfl⟩
  rw [hk] at HB HFN HLE
  obtain ⟨n, hn⟩ : ∃ n, t.length = n := ⟨_, rfl⟩
  have HN := Lib.hid hn
  rw [hn] at hl HLE
  clear hp km kt h1 hk
  cases hx : t[k]? with
  | none =>
    have hkn : k = n := by
      have := HLE.out
      have := List.getElem?_eq_none_iff.1 hx
      omega
    have ef : fnd t p = none := by rw [HFN.out, hx]
    rw [ef]
    subst hkn
    clear hx ef HFN hn
    go_enter Try.func17, Try.ntmps17
    go_wp2_with fail
    refine HB.out.mono ?_
    rintro e w2 ⟨rfl, hb2⟩
    have ht2 := (HP.out.bel hb2).tab HKM.out
    rw [HN.out] at ht2
    have HD2 := Lib.hid (HD.out.below' hb2)
    have HB2 := Lib.hid (Gr.trans HG.out hb2)
    clear hb2
    go_wp2_with (refine wpList_store_row rfl 34 (.tmp 4) (.tmp 32) rfl w.heap.size (regD r0).toArray rfl rfl 34 (regD r0).toArray HD2.out info34 rfl (allD _) ?_)
    have D3 := HD2.out.setRow (regD r0)
    refine bodyPost_ret (results_two Try.results17 _ _ w.heap.size 34 _ (0, 0) _ _ rfl rfl D3 Try.underlying34 rfl info34) rfl ?_
    exact ⟨rfl, below_setRow' HB2.out (Nat.le_refl _) _⟩
  | some x =>
    have hkn : k < n := by have := len_of hx; omega
    have hkI : (k : Int) < (n : Int) := by omega
    have hkne : ¬ ((k : Int) = (n : Int)) := by omega
    obtain ⟨g, hA, _, hr⟩ := HP.out.reg k x hx
    subst hA
    have HX := Lib.hid (by rw [HFN.out, hx] : fnd t p = if x.b ≤ p then some x else none)
    obtain ⟨b, s, rd, wrt, ex, sc⟩ := x
    simp only at HX
    have HR := Lib.hid hr
    by_cases hbp : b ≤ p
    · have ef := HX.out
      rw [if_pos hbp] at ef
      rw [ef]
      have hd : decide ((p : Int) < (b : Int)) = false := by simp only [decide_eq_false_iff_not]; omega
      have hd2 : ¬ (p < b) := by omega
      clear hx ef HFN HX hr hn hkn hbp
      go_enter Try.func17, Try.ntmps17
      go_wp2_with fail
      refine HB.out.mono ?_
      rintro e w2 ⟨rfl, hb2⟩
      have ht2 := (HP.out.bel hb2).tab HKM.out
      rw [HN.out] at ht2
      obtain ⟨e0, e1, e2, e3, e4, e5, e6⟩ := reg7 (range_gr HR.out hb2)
      have HD2 := Lib.hid (HD.out.below' hb2)
      have HB2 := Lib.hid (Gr.trans HG.out hb2)
      clear hb2
      go_wp2_with fail
      refine (told_lit b s rd wrt ex sc _).mono ?_
      rintro e w3 ⟨rfl, hb3⟩
      have HD3 := Lib.hid (HD2.out.below' hb3)
      have HB3 := Lib.hid (Gr.trans HB2.out hb3)
      clear hb3
      go_wp2_with (refine wpList_store_row rfl 34 (.tmp 4) (.tmp 40) rfl w.heap.size (regD ⟨b, s, rd, wrt, ex, sc⟩).toArray rfl rfl 34 (regD r0).toArray HD3.out info34 rfl (allD _) ?_)
      have D3 := HD3.out.setRow (regD ⟨b, s, rd, wrt, ex, sc⟩)
      refine bodyPost_ret (results_two Try.results17 _ _ w.heap.size 34 _ (0, 0) _ _ rfl rfl D3 Try.underlying34 rfl info34) rfl ?_
      exact ⟨rfl, below_setRow' HB3.out (Nat.le_refl _) _⟩
    · have ef := HX.out
      rw [if_neg hbp] at ef
      rw [ef]
      have hd : decide ((p : Int) < (b : Int)) = true := by simp only [decide_eq_true_eq]; omega
      have hd2 : p < b := by omega
      clear hx ef HFN HX hr hn hkn hbp
      go_enter Try.func17, Try.ntmps17
      go_wp2_with fail
      refine HB.out.mono ?_
      rintro e w2 ⟨rfl, hb2⟩
      have ht2 := (HP.out.bel hb2).tab HKM.out
      rw [HN.out] at ht2
      obtain ⟨e0, e1, e2, e3, e4, e5, e6⟩ := reg7 (range_gr HR.out hb2)
      have HD2 := Lib.hid (HD.out.below' hb2)
      have HB2 := Lib.hid (Gr.trans HG.out hb2)
      clear hb2
      go_wp2_with (refine wpList_store_row rfl 34 (.tmp 4) (.tmp 32) rfl w.heap.size (regD r0).toArray rfl rfl 34 (regD r0).toArray HD2.out info34 rfl (allD _) ?_)
      have D3 := HD2.out.setRow (regD r0)
      refine bodyPost_ret (results_two Try.results17 _ _ w.heap.size 34 _ (0, 0) _ _ rfl rfl D3 Try.underlying34 rfl info34) rfl ?_
      exact ⟨rfl, below_setRow' HB2.out (Nat.le_refl _) _⟩
end Go.Proofs.Ytelfhpmbnficfaa
