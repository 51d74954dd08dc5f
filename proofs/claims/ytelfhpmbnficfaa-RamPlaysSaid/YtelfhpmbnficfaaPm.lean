/- The program's May. No condition. -/
import Derived.Test.YtelfhpmbnficfaaDm
namespace Go.Proofs.Ytelfhpmbnficfaa
open Go.RowKit
set_option linter.unusedVariables false
set_option maxRecDepth 100000
set_option linter.unusedSimpArgs false
theorem bh_next {t : List Reg} (kt : TOk t) (i : Nat) (x : Reg) (hx : t[i]? = some x) : bh t (x.b + x.n) = i + 1 :=
  bh_uniq t _ (i + 1) (len_of hx) (fun j y hy hj => by
    rcases Nat.lt_succ_iff_lt_or_eq.1 hj with h | h
    · have := kt.so _ _ _ _ hy hx h; omega
    · subst h; rw [hx] at hy; injection hy with hy; subst hy; omega) (fun h => by
    obtain ⟨y, hy⟩ := ent h
    exact ⟨y, hy, by have := kt.so _ _ _ _ hx hy (by omega); have := (kt.ok _ _ hy).pos; omega⟩)
theorem fnd_at {t : List Reg} {a i : Nat} (hi : bh t a = i) : fnd t a = match t[i]? with | some y => if y.b ≤ a then some y else none | none => none := by subst hi; rfl
theorem open_lit (b n : Nat) (rd wrt ex sc sec : Bool) (ac : Int) (w : World) (h : 1 ≤ ac ∧ ac ≤ 3) : Calls Try.prog 40 #[.agg #[.int .u64 (b : Nat), .int .u64 (n : Nat), .bool false, .bool rd, .bool wrt, .bool ex, .bool sc], .bool sec, .int .i64 ac] w fun e w' => e = .returned (.bool (letB ⟨b, n, rd, wrt, ex, sc⟩ sec ac)) ∧ Below w.heap.size w w' := open_any ⟨b, n, rd, wrt, ex, sc⟩ sec ac w h
theorem end_lit (b n : Nat) (rd wrt ex sc : Bool) (w : World) (h : EFit ⟨b, n, rd, wrt, ex, sc⟩) : Calls Try.prog 38 #[.agg #[.int .u64 (b : Nat), .int .u64 (n : Nat), .bool false, .bool rd, .bool wrt, .bool ex, .bool sc]] w fun e w' => e = .returned (.int .u64 ((b + n : Nat) : Int)) ∧ Below w.heap.size w w' := end_any ⟨b, n, rd, wrt, ex, sc⟩ w h
theorem may_nil (sec : Bool) (ac : Int) (x y : Value) (w : World) (h : 1 ≤ ac ∧ ac ≤ 3) : Calls Try.prog 23 #[.pointer none, .bool sec, .int .i64 ac, x, y] w fun e w' => e = .returned (.int .i64 1) ∧ w = w' := by
  have t1 : decide (ac < 1) = false := decide_eq_false (by omega)
  have t3 : decide (3 < ac) = false := decide_eq_false (by omega)
  clear h
  go_enter Try.func23, Try.ntmps23
  go_wp2_with (go_at_call 31; refine (closed_nil _ _ w).mono ?_; rintro e w9 ⟨rfl, rfl⟩)
  go_ret
  exact ⟨rfl, rfl⟩
set_option maxHeartbeats 6400000 in
theorem may_any (base a p s : Nat) (sec : Bool) (ac : Int) (m : List Nat) (t : List Reg) (A : Option Addr) (c : Nat) (w : World) (hp : PAt w base a m t A c) (km : MOk m) (kt : TOk t) (hpu : U64 p) (hsu : U64 s) (hac : I64 ac) :
    Calls Try.prog 23 #[.pointer (some ⟨a, 0, none⟩), .bool sec, .int .i64 ac, .int .u64 (p : Nat), .int .u64 (s : Nat)] w fun e w' => e = .returned (.int .i64 (mayE t sec ac p s)) ∧ Below w.heap.size w w' := by
  have HP := Lib.hid hp
  have HKM := Lib.hid km
  have HKT := Lib.hid kt
  by_cases h1 : ac < 1
  · have e1 : mayE t sec ac p s = 1 := by unfold mayE; rw [if_pos (.inl h1)]
    rw [e1]
    have t1 : decide (ac < 1) = true := decide_eq_true h1
    clear e1 h1 hac hp km kt hpu hsu
    go_enter Try.func23, Try.ntmps23
    go_wp2
    go_ret
    exact ⟨rfl, Below.refl _ _⟩
  by_cases h3 : 3 < ac
  · have e1 : mayE t sec ac p s = 1 := by unfold mayE; rw [if_pos (.inr h3)]
    rw [e1]
    have t1 : decide (ac < 1) = false := decide_eq_false h1
    have t3 : decide (3 < ac) = true := decide_eq_true h3
    clear e1 h1 h3 hac hp km kt hpu hsu
    go_enter Try.func23, Try.ntmps23
    go_wp2
    go_ret
    exact ⟨rfl, Below.refl _ _⟩
  have hno : ¬ (ac < 1 ∨ 3 < ac) := by omega
  have t1 : decide (ac < 1) = false := decide_eq_false h1
  have t3 : decide (3 < ac) = false := decide_eq_false h3
  have HW := closed_any a p s w hpu hsu
  unfold clE at HW
  by_cases hw : wiB p s = false
  · have e1 : mayE t sec ac p s = 161 := by unfold mayE; rw [if_neg hno, if_pos hw]
    rw [e1]
    rw [if_neg (by rw [hw]; simp)] at HW
    replace HW := Lib.hid HW
    clear e1 h1 h3 hno hac hp km kt hpu hsu hw
    go_enter Try.func23, Try.ntmps23
    go_wp2_with (go_at_call 31; refine HW.out.mono ?_; rintro e w9 ⟨rfl, rfl⟩)
    go_ret
    exact ⟨rfl, Below.refl _ _⟩
  have hw1 : wiB p s = true := by simpa using hw
  have hwd := of_decide_eq_true hw1
  rw [if_pos hw1] at HW
  replace HW := Lib.hid HW
  have HAC := Lib.hid (show 1 ≤ ac ∧ ac ≤ 3 from by omega)
  have hM : mayE t sec ac p s = mayF t sec ac p s := by unfold mayE; rw [if_neg hno, if_neg hw]
  obtain ⟨M, hMM⟩ : ∃ M, mayF t sec ac p s = M := ⟨_, rfl⟩
  rw [hM, hMM]
  have HMM := Lib.hid hMM
  have HWD := Lib.hid hwd
  obtain ⟨en, hen⟩ : ∃ en, p + s = en := ⟨_, rfl⟩
  have hwq : IntKind.u64.wrap ((p : Int) + (s : Int)) = (en : Int) := u64w (by omega) (by omega)
  have HEN := Lib.hid (show p + s = en ∧ en ≤ 1073807360 from ⟨hen, by omega⟩)
  have HB := Lib.hid (behind_any base a m t A c p w hp km kt)
  have hl := kt.len
  have ht := hp.tab km
  obtain ⟨n, hn⟩ : ∃ n, t.length = n := ⟨_, rfl⟩
  have HN := Lib.hid hn
  rw [hn] at hl ht
  have HT := Lib.hid ht
  clear hM hMM hno h1 h3 hac hw hw1 hwd hp km kt hpu hsu hen hn ht
  go_enter Try.func23, Try.ntmps23
  go_wp2_with (go_at_call 31; refine HW.out.mono ?_; rintro e w9 ⟨rfl, rfl⟩)
  refine HB.out.mono ?_
  rintro e w1 ⟨rfl, hb1⟩
  have HG1 := Lib.hid (show Gr w w1 from hb1)
  clear hb1 t1 t3 HB hwq
  go_wp2_with fail
  go_loopw [3, 13] (fun v3 v13 wr => ∃ q i : Nat, v3 = .int .u64 (q : Nat) ∧ v13 = .int .i64 (i : Nat) ∧ i ≤ n ∧ q ≤ 1073807360 ∧ (q < en → bh t q = i ∧ mayF t sec ac q (en - q) = M) ∧ (en ≤ q → M = 0) ∧ Gr w wr) (fun _ v13 _ => n - (intOf v13).toNat)
  case atStart => exact ⟨p, bh t p, rfl, rfl, by have := bh_le t p; rw [HN.out] at this; exact this, by have := HEN.out; omega, fun _ => ⟨rfl, by rw [show en - p = s by have := HEN.out; omega]; exact HMM.out⟩, fun h => by rw [← HMM.out, show s = 0 by have := HEN.out; omega]; rfl, HG1.out⟩
  case round =>
    obtain ⟨q, i, rfl, rfl, hi, hqb, hlt, hge, hgr⟩ := hrel
    have HGR := Lib.hid hgr
    have HGE := Lib.hid hge
    have HLT := Lib.hid hlt
    have ht := gcell HT.out hgr
    have HTR := Lib.hid ht
    clear hgr hge hlt HG1
    by_cases hqe : q < en
    · obtain ⟨hbh, hmf⟩ := HLT.out hqe
      have HBH := Lib.hid hbh
      have HMF := Lib.hid hmf
      have hqI : (q : Int) < (en : Int) := by omega
      have hfd := fnd_at hbh
      clear hbh hmf
      cases hx : t[i]? with
      | none =>
        have hin : i = n := by have := List.getElem?_eq_none_iff.1 hx; rw [HN.out] at this; omega
        rw [hx] at hfd
        have HM := Lib.hid (show M = 165 from by
          obtain ⟨d, hd⟩ : ∃ d, en - q = d + 1 := ⟨en - q - 1, by omega⟩
          rw [← HMF.out, hd, mayF_none sec ac q d hfd])
        subst hin
        clear hx hfd
        go_wp2_with fail
        go_ret
        exact ⟨by rw [HM.out]; rfl, HGR.out⟩
      | some x =>
        rw [hx] at hfd
        have hkn : i < n := by have := len_of hx; rw [HN.out] at this; exact this
        have hkI : (i : Int) < (n : Int) := by omega
        have hkne : ¬ ((i : Int) = (n : Int)) := by omega
        obtain ⟨g, hA, _, hr⟩ := (HP.out.bel HGR.out).reg i x hx
        subst hA
        have HX := Lib.hid hx
        have HEF := Lib.hid (HKT.out.efit hx)
        have HRO := Lib.hid (HKT.out.ok i x hx).hi
        have HXE := Lib.hid (bh_at t q x (by rw [HBH.out]; exact hx))
        have HNX := Lib.hid (bh_next HKT.out i x hx)
        have HR := Lib.hid hr
        obtain ⟨b, sz, rd, wrt, ex, sc⟩ := x
        replace HXE := Lib.hid (show q < b + sz from HXE.out)
        replace HRO := Lib.hid (show b + sz ≤ 1073807360 from HRO.out)
        obtain ⟨e0, e1, e2, e3, e4, e5, e6⟩ := reg7 hr
        simp only at hfd
        by_cases hbq : b ≤ q
        · rw [if_pos hbq] at hfd
          have HFD := Lib.hid hfd
          have hd : decide (q < b) = false := decide_eq_false (by omega)
          have HBQ := Lib.hid hbq
          have hopen := open_lit b sz rd wrt ex sc sec ac wr HAC.out
          clear hx hfd hr
          cases hL : letB ⟨b, sz, rd, wrt, ex, sc⟩ sec ac with
          | false =>
            rw [hL] at hopen
            have HM := Lib.hid (show M = 163 from by
              obtain ⟨d, hd⟩ : ∃ d, en - q = d + 1 := ⟨en - q - 1, by omega⟩
              rw [← HMF.out, hd, mayF_bad HKT.out sec ac i _ HX.out hL q d HBQ.out HXE.out])
            have HO := Lib.hid hopen
            clear hopen hL hbq
            go_wp2_with fail
            refine HO.out.mono ?_
            rintro e w2 ⟨rfl, hb2⟩
            have HB2 := Lib.hid (HGR.out.trans hb2)
            clear hb2
            go_wp2_with fail
            go_ret
            exact ⟨by rw [HM.out]; rfl, HB2.out⟩
          | true =>
            rw [hL] at hopen
            have HL := Lib.hid hL
            have HO := Lib.hid hopen
            clear hopen hL hbq
            go_wp2_with fail
            refine HO.out.mono ?_
            rintro e w2 ⟨rfl, hb2⟩
            have HB2 := Lib.hid (HGR.out.trans hb2)
            have ht2 := gcell HT.out HB2.out
            obtain ⟨f0, f1, f2, f3, f4, f5, f6⟩ := reg7 (grange HR.out hb2)
            have HE := Lib.hid (end_lit b sz rd wrt ex sc w2 HEF.out)
            clear hb2 e0 e1 e2 e3 e4 e5 e6
            obtain ⟨z, hz⟩ : ∃ z, b + sz = z := ⟨_, rfl⟩
            rw [hz] at HE
            have HZ := Lib.hid hz
            clear hz
            go_wp2_with fail
            refine HE.out.mono ?_
            rintro e w3 ⟨rfl, hb3⟩
            have HB3 := Lib.hid (HB2.out.trans hb3)
            clear hb3 f0 f1 f2 f3 f4 f5 f6 ht2
            go_wp2_with fail
            go_roundw
            case rel => exact ⟨z, i + 1, rfl, by go_num, hkn, by have := HRO.out; have := HZ.out; omega, fun hze => ⟨by rw [← HZ.out]; exact HNX.out, by
                rw [← HMF.out, show en - q = (z - q) + (en - z) by have := HXE.out; have := HZ.out; omega, mayF_skip HKT.out sec ac i _ HX.out HL.out (z - q) q (en - z) HBQ.out (by show q + (z - q) ≤ b + sz; have := HXE.out; have := HZ.out; omega), show q + (z - q) = z by have := HXE.out; have := HZ.out; omega]⟩, fun hze => by
                rw [← HMF.out, show en - q = (en - q) + 0 from rfl, mayF_skip HKT.out sec ac i _ HX.out HL.out (en - q) q 0 HBQ.out (by show q + (en - q) ≤ b + sz; have := HZ.out; omega)]; rfl, HB3.out⟩
            case measure => simp [intOf]; omega
        · rw [if_neg hbq] at hfd
          have hd : decide (q < b) = true := decide_eq_true (by omega)
          have HM := Lib.hid (show M = 165 from by
            obtain ⟨d, hd⟩ : ∃ d, en - q = d + 1 := ⟨en - q - 1, by omega⟩
            rw [← HMF.out, hd, mayF_none sec ac q d hfd])
          clear hx hfd hr hbq
          go_wp2_with fail
          go_ret
          exact ⟨by rw [HM.out]; rfl, HGR.out⟩
    · have HM := Lib.hid (HGE.out (by omega))
      have hqI : ¬ (q : Int) < (en : Int) := by omega
      clear hqe
      go_wp2_with fail
      go_ret
      exact ⟨by rw [HM.out]; rfl, HGR.out⟩
end Go.Proofs.Ytelfhpmbnficfaa
