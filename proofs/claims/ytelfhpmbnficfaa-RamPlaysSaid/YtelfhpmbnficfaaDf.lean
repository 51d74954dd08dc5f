/- The document's Find. No condition. -/
import Derived.Test.YtelfhpmbnficfaaPf
namespace Go.Proofs.Ytelfhpmbnficfaa
open Go.RowKit
set_option linter.unusedVariables false
set_option maxRecDepth 100000
set_option linter.unusedSimpArgs false
theorem has_lit (b s p : Nat) (rd wrt ex sc : Bool) (w : World) (hx : RFit ⟨b, s, rd, wrt, ex, sc⟩) (hp : U64 p) : Calls Try.prog 42 #[.agg #[.int .u64 (b : Nat), .int .u64 (s : Nat), .bool rd, .bool wrt, .bool ex, .bool sc], .int .u64 (p : Nat)] w fun e w' => e = .returned (.bool (hasB ⟨b, s, rd, wrt, ex, sc⟩ p)) ∧ Below w.heap.size w w' := has_any ⟨b, s, rd, wrt, ex, sc⟩ p w hx hp
set_option maxHeartbeats 3200000 in
theorem rfind_any (base a : Nat) (m : List Nat) (t : List Reg) (A : Option Addr) (c p : Nat) (w : World) (hp : RAt w base a m t A c) (km : MOk m) (kt : TOk t) (hpu : U64 p) :
    Calls Try.prog 26 #[.pointer (some ⟨a, 0, none⟩), .int .u64 (p : Nat)] w fun e w' => e = .returned (fndV (fnd t p)) ∧ Below w.heap.size w w' := by
  have h1 := Gr.alloc w (.cells (regD r0).toArray 34)
  have HG := Lib.hid h1
  have HP := Lib.hid (hp.bel h1)
  have HKM := Lib.hid km
  have HKT := Lib.hid kt
  have hl := kt.len
  have HD := Lib.hid (Blk.new w 34 (regD r0))
  have HPU := Lib.hid hpu
  have ht := (hp.bel h1).tab km
  obtain ⟨n, hn⟩ : ∃ n, t.length = n := ⟨_, rfl⟩
  have HN := Lib.hid hn
  rw [hn] at hl ht
  have HT := Lib.hid ht
  obtain ⟨V, hV⟩ : ∃ V, fndV (fnd t p) = V := ⟨_, rfl⟩
  have HV := Lib.hid hV
  rw [hV]
  clear hp km kt h1 hn hpu hV ht
  obtain ⟨w0, hw0⟩ : ∃ w0, w.alloc (.cells (regD r0).toArray 34) = w0 := ⟨_, rfl⟩
  have HW0 := Lib.hid hw0
  rw [hw0] at HG HP HD HT
  clear hw0
  go_enter Try.func26, Try.ntmps26
  go_wp2_with fail
  go_loopw [6] (fun v6 wr => ∃ k : Nat, v6 = .int .i64 (k : Nat) ∧ k ≤ n ∧ (∀ (j : Nat) (x : Reg), j < k → t[j]? = some x → hasB x p = false) ∧ Gr w0 wr) (fun v6 _ => n - (intOf v6).toNat)
  case atStart => exact ⟨0, rfl, Nat.zero_le _, fun j x h => by omega, by rw [← HW0.out]; exact Gr.refl _⟩
  case round =>
    obtain ⟨k, rfl, hk, hno, hgr⟩ := hrel
    have HNO := Lib.hid hno
    have HGR := Lib.hid hgr
    have ht := gcell HT.out hgr
    have HDR := Lib.hid (HD.out.gr hgr)
    clear hno hgr
    by_cases hkn : k < n
    · have hkI : (k : Int) < (n : Int) := by omega
      obtain ⟨x, hx⟩ := ent (t := t) (j := k) (by rw [HN.out]; exact hkn)
      obtain ⟨g, hA, _, hr⟩ := (HP.out.bel HGR.out).reg k x hx
      subst hA
      have HX := Lib.hid hx
      have hfit := (HKT.out.ok k x hx).fit
      obtain ⟨b, s, rd, wrt, ex, sc⟩ := x
      obtain ⟨e0, e1, e2, e3, e4, e5⟩ := reg6 hr
      have HR := Lib.hid hr
      have HF := Lib.hid hfit
      clear hx hr hfit
      go_wp2_with fail
      have hc := has_lit b s p rd wrt ex sc wr HF.out HPU.out
      cases hh : hasB ⟨b, s, rd, wrt, ex, sc⟩ p with
      | false =>
        rw [hh] at hc
        have HC := Lib.hid hc
        have HH := Lib.hid hh
        clear hc hh e0 e1 e2 e3 e4 e5 ht
        refine HC.out.mono ?_
        rintro e w2 ⟨rfl, hb2⟩
        have HB2 := Lib.hid (Gr.trans HGR.out hb2)
        clear hb2
        go_wp2_with fail
        go_roundw
        case rel => exact ⟨k + 1, by go_num, hkn, fun j x hj hx => by
          rcases Nat.lt_succ_iff_lt_or_eq.1 hj with h | h
          · exact HNO.out j x h hx
          · subst h; rw [HX.out] at hx; injection hx with hx; subst hx; exact HH.out, HB2.out⟩
        case measure => simp [intOf]; omega
      | true =>
        rw [hh] at hc
        have HC := Lib.hid hc
        have HV2 := Lib.hid (show fndV (some ⟨b, s, rd, wrt, ex, sc⟩) = V from by rw [← HV.out, fnd_here HKT.out p k _ HX.out hh])
        clear hc hh e0 e1 e2 e3 e4 e5 ht
        refine HC.out.mono ?_
        rintro e w2 ⟨rfl, hb2⟩
        have HB2 := Lib.hid (Gr.trans HGR.out hb2)
        have ht := gcell HT.out HB2.out
        have HD2 := Lib.hid (HDR.out.gr hb2)
        obtain ⟨e0, e1, e2, e3, e4, e5⟩ := reg6 (grange HR.out hb2)
        clear hb2
        go_wp2_with (refine wpList_store_row rfl 34 (.tmp 4) (.tmp 33) rfl w.heap.size (regD ⟨b, s, rd, wrt, ex, sc⟩).toArray rfl rfl 34 (regD r0).toArray HD2.out info34 rfl (allD _) ?_)
        have D3 := HD2.out.setRow (regD ⟨b, s, rd, wrt, ex, sc⟩)
        refine bodyPost_ret (results_two Try.results26 _ _ w.heap.size 34 _ (0, 0) _ _ rfl rfl D3 Try.underlying34 rfl info34) rfl ?_
        exact ⟨by rw [← HV2.out]; rfl, below_setRow' (Gr.trans HG.out HB2.out) (Nat.le_refl _) _⟩
    · obtain rfl : k = n := by omega
      have HV2 := Lib.hid (show fndV none = V from by rw [← HV.out, fnd_none p (fun j x hx => HNO.out j x (by have := len_of hx; rw [HN.out] at this; exact this) hx)])
      clear hkn
      go_wp2_with (refine wpList_store_row rfl 34 (.tmp 4) (.tmp 34) rfl w.heap.size (regD r0).toArray rfl rfl 34 (regD r0).toArray HDR.out info34 rfl (allD _) ?_)
      have D3 := HDR.out.setRow (regD r0)
      refine bodyPost_ret (results_two Try.results26 _ _ w.heap.size 34 _ (0, 0) _ _ rfl rfl D3 Try.underlying34 rfl info34) rfl ?_
      exact ⟨by rw [← HV2.out]; rfl, below_setRow' (Gr.trans HG.out HGR.out) (Nat.le_refl _) _⟩
end Go.Proofs.Ytelfhpmbnficfaa
