/- The document's May. No condition. -/
import Derived.Test.YtelfhpmbnficfaaDf
namespace Go.Proofs.Ytelfhpmbnficfaa
open Go.RowKit
set_option linter.unusedVariables false
set_option maxRecDepth 100000
set_option linter.unusedSimpArgs false
def I64 (n : Int) : Prop := -9223372036854775808 ≤ n ∧ n < 9223372036854775808
theorem fnd_ok {t : List Reg} {a : Nat} {x : Reg} (kt : TOk t) (h : fnd t a = some x) : RFit x := by
  obtain ⟨j, hj, _⟩ := fnd_some h
  exact (kt.ok _ _ hj).fit
set_option maxHeartbeats 6400000 in
theorem rmay_any (base a p s : Nat) (sec : Bool) (ac : Int) (m : List Nat) (t : List Reg) (A : Option Addr) (c : Nat) (w : World) (hp : RAt w base a m t A c) (km : MOk m) (kt : TOk t) (hpu : U64 p) (hsu : U64 s) (hac : I64 ac) :
    Calls Try.prog 27 #[.pointer (some ⟨a, 0, none⟩), .bool sec, .int .i64 ac, .int .u64 (p : Nat), .int .u64 (s : Nat)] w fun e w' => e = .returned (.int .i64 (mayE t sec ac p s)) ∧ Below w.heap.size w w' := by
  have HP := Lib.hid hp
  have HKM := Lib.hid km
  have HKT := Lib.hid kt
  by_cases h1 : ac < 1
  · have e1 : mayE t sec ac p s = 1 := by unfold mayE; rw [if_pos (.inl h1)]
    rw [e1]
    have t1 : decide (ac < 1) = true := decide_eq_true h1
    clear e1 h1 hac hp km kt hpu hsu
    go_enter Try.func27, Try.ntmps27
    go_wp2
    go_ret
    exact ⟨rfl, Below.refl _ _⟩
  by_cases h3 : 3 < ac
  · have e1 : mayE t sec ac p s = 1 := by unfold mayE; rw [if_pos (.inr h3)]
    rw [e1]
    have t1 : decide (ac < 1) = false := decide_eq_false h1
    have t3 : decide (3 < ac) = true := decide_eq_true h3
    clear e1 h1 h3 hac hp km kt hpu hsu
    go_enter Try.func27, Try.ntmps27
    go_wp2
    go_ret
    exact ⟨rfl, Below.refl _ _⟩
  have hno : ¬ (ac < 1 ∨ 3 < ac) := by omega
  have t1 : decide (ac < 1) = false := decide_eq_false h1
  have t3 : decide (3 < ac) = false := decide_eq_false h3
  have HW := rwithin_any p s w hpu hsu
  by_cases hw : wiB p s = false
  · have e1 : mayE t sec ac p s = 161 := by unfold mayE; rw [if_neg hno, if_pos hw]
    rw [e1]
    rw [hw] at HW
    replace HW := Lib.hid HW
    clear e1 h1 h3 hno hac hp km kt hpu hsu hw
    go_enter Try.func27, Try.ntmps27
    go_wp2_with (go_at_call 41; refine HW.out.mono ?_; rintro e w9 ⟨rfl, rfl⟩)
    go_ret
    exact ⟨rfl, Below.refl _ _⟩
  have hw1 : wiB p s = true := by simpa using hw
  have hwd := of_decide_eq_true hw1
  rw [hw1] at HW
  replace HW := Lib.hid HW
  have hac3 : ac = 1 ∨ ac = 2 ∨ ac = 3 := by omega
  have hM : mayE t sec ac p s = mayF t sec ac p s := by unfold mayE; rw [if_neg hno, if_neg hw]
  obtain ⟨M, hMM⟩ : ∃ M, mayF t sec ac p s = M := ⟨_, rfl⟩
  rw [hM, hMM]
  have HMM := Lib.hid hMM
  have HWD := Lib.hid hwd
  clear hM hMM hno h1 h3 hac hw hw1 hwd hp km kt hpu hsu
  rcases hac3 with rfl | rfl | rfl
  all_goals cases sec
  · go_enter Try.func27, Try.ntmps27
    go_wp2_with (go_at_call 41; refine HW.out.mono ?_; rintro e w9 ⟨rfl, rfl⟩)
    clear t1 t3
    go_loopw [12] (fun v12 wr => ∃ k : Nat, v12 = .int .u64 (k : Nat) ∧ k ≤ s ∧ mayF t false 1 (p + k) (s - k) = M ∧ Gr w wr) (fun v12 _ => s - (intOf v12).toNat)
    case atStart => exact ⟨0, rfl, Nat.zero_le _, HMM.out, Gr.refl _⟩
    case round =>
      obtain ⟨k, rfl, hk, hmf, hgr⟩ := hrel
      have HMF := Lib.hid hmf
      have HGR := Lib.hid hgr
      clear hmf hgr
      by_cases hks : k < s
      · have hkI : (k : Int) < (s : Int) := by omega
        obtain ⟨q, hq⟩ : ∃ q, p + k = q := ⟨_, rfl⟩
        obtain ⟨d, hd⟩ : ∃ d, s - k = d + 1 := ⟨s - k - 1, by omega⟩
        have hqB : q < 18446744073709551616 := by have := HWD.out; omega
        have hwq : IntKind.u64.wrap ((p : Int) + (k : Int)) = (q : Int) := u64w (by omega) hqB
        have hF := rfind_any base a m t A c q wr (HP.out.bel HGR.out) HKM.out HKT.out hqB
        have HD := Lib.hid (show q + 1 = p + (k + 1) ∧ d = s - (k + 1) from ⟨by omega, by omega⟩)
        have hk64 : (k : Int) < 18446744073709551615 := by have := HWD.out; omega
        rw [hq, hd] at HMF
        clear hq hd hqB
        cases hx : fnd t q with
        | none =>
          rw [hx] at hF
          have HF := Lib.hid hF
          have hM : M = 165 := by rw [← HMF.out, mayF_none false 1 q d hx]
          have HM := Lib.hid hM
          clear hF hx hM
          go_wp2_with fail
          try rw [hwq]
          refine (show Calls _ _ _ wr (fun e w' => e = .returned (.tuple #[.agg #[.int .u64 0, .int .u64 0, .bool false, .bool false, .bool false, .bool false], .bool false]) ∧ Below wr.heap.size wr w') from HF.out).mono ?_
          rintro e w2 ⟨rfl, hb2⟩
          have HB2 := Lib.hid (Gr.trans HGR.out hb2)
          clear hb2 hwq
          go_wp2_with fail
          go_ret
          exact ⟨by rw [HM.out]; rfl, HB2.out.trans (Gr.alloc w2 _)⟩
        | some x =>
          rw [hx] at hF
          have HX := Lib.hid hx
          obtain ⟨b, n, rd, wrt, ex, sc⟩ := x
          have HF := Lib.hid hF
          have HL := Lib.hid (show (mayF t false 1 q (d + 1)) = if letB ⟨b, n, rd, wrt, ex, sc⟩ false 1 = true then mayF t false 1 (q + 1) d else 163 from by rw [mayF, HX.out])
          clear hF hx
          go_wp2_with fail
          try rw [hwq]
          refine (show Calls _ _ _ wr (fun e w' => e = .returned (.tuple #[.agg #[.int .u64 (b : Nat), .int .u64 (n : Nat), .bool rd, .bool wrt, .bool ex, .bool sc], .bool true]) ∧ Below wr.heap.size wr w') from HF.out).mono ?_
          rintro e w2 ⟨rfl, hb2⟩
          have HB2 := Lib.hid (show Gr w (w2.alloc (.cells #[.int .u64 (b : Nat), .int .u64 (n : Nat), .bool rd, .bool wrt, .bool ex, .bool sc] 34)) from (HGR.out.trans hb2).trans (Gr.alloc w2 _))
          clear hb2 hwq
          cases sc <;> cases rd
          all_goals go_wp2_with fail
          all_goals first
            | (go_ret
               exact ⟨by rw [← HMF.out, HL.out]; rfl, HB2.out⟩)
            | (go_roundw
               case rel => exact ⟨k + 1, by go_num, hks, by rw [← HD.out.1, ← HD.out.2, ← HMF.out, HL.out]; rfl, HB2.out⟩
               case measure => simp [intOf]; omega)
      · obtain rfl : k = s := by omega
        have hM : M = 0 := by rw [← HMF.out, Nat.sub_self]; rfl
        have HM := Lib.hid hM
        clear hM hks
        go_wp2_with fail
        go_ret
        exact ⟨by rw [HM.out]; rfl, HGR.out⟩
  · go_enter Try.func27, Try.ntmps27
    go_wp2_with (go_at_call 41; refine HW.out.mono ?_; rintro e w9 ⟨rfl, rfl⟩)
    clear t1 t3
    go_loopw [12] (fun v12 wr => ∃ k : Nat, v12 = .int .u64 (k : Nat) ∧ k ≤ s ∧ mayF t true 1 (p + k) (s - k) = M ∧ Gr w wr) (fun v12 _ => s - (intOf v12).toNat)
    case atStart => exact ⟨0, rfl, Nat.zero_le _, HMM.out, Gr.refl _⟩
    case round =>
      obtain ⟨k, rfl, hk, hmf, hgr⟩ := hrel
      have HMF := Lib.hid hmf
      have HGR := Lib.hid hgr
      clear hmf hgr
      by_cases hks : k < s
      · have hkI : (k : Int) < (s : Int) := by omega
        obtain ⟨q, hq⟩ : ∃ q, p + k = q := ⟨_, rfl⟩
        obtain ⟨d, hd⟩ : ∃ d, s - k = d + 1 := ⟨s - k - 1, by omega⟩
        have hqB : q < 18446744073709551616 := by have := HWD.out; omega
        have hwq : IntKind.u64.wrap ((p : Int) + (k : Int)) = (q : Int) := u64w (by omega) hqB
        have hF := rfind_any base a m t A c q wr (HP.out.bel HGR.out) HKM.out HKT.out hqB
        have HD := Lib.hid (show q + 1 = p + (k + 1) ∧ d = s - (k + 1) from ⟨by omega, by omega⟩)
        have hk64 : (k : Int) < 18446744073709551615 := by have := HWD.out; omega
        rw [hq, hd] at HMF
        clear hq hd hqB
        cases hx : fnd t q with
        | none =>
          rw [hx] at hF
          have HF := Lib.hid hF
          have hM : M = 165 := by rw [← HMF.out, mayF_none true 1 q d hx]
          have HM := Lib.hid hM
          clear hF hx hM
          go_wp2_with fail
          try rw [hwq]
          refine (show Calls _ _ _ wr (fun e w' => e = .returned (.tuple #[.agg #[.int .u64 0, .int .u64 0, .bool false, .bool false, .bool false, .bool false], .bool false]) ∧ Below wr.heap.size wr w') from HF.out).mono ?_
          rintro e w2 ⟨rfl, hb2⟩
          have HB2 := Lib.hid (Gr.trans HGR.out hb2)
          clear hb2 hwq
          go_wp2_with fail
          go_ret
          exact ⟨by rw [HM.out]; rfl, HB2.out.trans (Gr.alloc w2 _)⟩
        | some x =>
          rw [hx] at hF
          have HX := Lib.hid hx
          obtain ⟨b, n, rd, wrt, ex, sc⟩ := x
          have HF := Lib.hid hF
          have HL := Lib.hid (show (mayF t true 1 q (d + 1)) = if letB ⟨b, n, rd, wrt, ex, sc⟩ true 1 = true then mayF t true 1 (q + 1) d else 163 from by rw [mayF, HX.out])
          clear hF hx
          go_wp2_with fail
          try rw [hwq]
          refine (show Calls _ _ _ wr (fun e w' => e = .returned (.tuple #[.agg #[.int .u64 (b : Nat), .int .u64 (n : Nat), .bool rd, .bool wrt, .bool ex, .bool sc], .bool true]) ∧ Below wr.heap.size wr w') from HF.out).mono ?_
          rintro e w2 ⟨rfl, hb2⟩
          have HB2 := Lib.hid (show Gr w (w2.alloc (.cells #[.int .u64 (b : Nat), .int .u64 (n : Nat), .bool rd, .bool wrt, .bool ex, .bool sc] 34)) from (HGR.out.trans hb2).trans (Gr.alloc w2 _))
          clear hb2 hwq
          cases sc <;> cases rd
          all_goals go_wp2_with fail
          all_goals first
            | (go_ret
               exact ⟨by rw [← HMF.out, HL.out]; rfl, HB2.out⟩)
            | (go_roundw
               case rel => exact ⟨k + 1, by go_num, hks, by rw [← HD.out.1, ← HD.out.2, ← HMF.out, HL.out]; rfl, HB2.out⟩
               case measure => simp [intOf]; omega)
      · obtain rfl : k = s := by omega
        have hM : M = 0 := by rw [← HMF.out, Nat.sub_self]; rfl
        have HM := Lib.hid hM
        clear hM hks
        go_wp2_with fail
        go_ret
        exact ⟨by rw [HM.out]; rfl, HGR.out⟩
  · go_enter Try.func27, Try.ntmps27
    go_wp2_with (go_at_call 41; refine HW.out.mono ?_; rintro e w9 ⟨rfl, rfl⟩)
    clear t1 t3
    go_loopw [12] (fun v12 wr => ∃ k : Nat, v12 = .int .u64 (k : Nat) ∧ k ≤ s ∧ mayF t false 2 (p + k) (s - k) = M ∧ Gr w wr) (fun v12 _ => s - (intOf v12).toNat)
    case atStart => exact ⟨0, rfl, Nat.zero_le _, HMM.out, Gr.refl _⟩
    case round =>
      obtain ⟨k, rfl, hk, hmf, hgr⟩ := hrel
      have HMF := Lib.hid hmf
      have HGR := Lib.hid hgr
      clear hmf hgr
      by_cases hks : k < s
      · have hkI : (k : Int) < (s : Int) := by omega
        obtain ⟨q, hq⟩ : ∃ q, p + k = q := ⟨_, rfl⟩
        obtain ⟨d, hd⟩ : ∃ d, s - k = d + 1 := ⟨s - k - 1, by omega⟩
        have hqB : q < 18446744073709551616 := by have := HWD.out; omega
        have hwq : IntKind.u64.wrap ((p : Int) + (k : Int)) = (q : Int) := u64w (by omega) hqB
        have hF := rfind_any base a m t A c q wr (HP.out.bel HGR.out) HKM.out HKT.out hqB
        have HD := Lib.hid (show q + 1 = p + (k + 1) ∧ d = s - (k + 1) from ⟨by omega, by omega⟩)
        have hk64 : (k : Int) < 18446744073709551615 := by have := HWD.out; omega
        rw [hq, hd] at HMF
        clear hq hd hqB
        cases hx : fnd t q with
        | none =>
          rw [hx] at hF
          have HF := Lib.hid hF
          have hM : M = 165 := by rw [← HMF.out, mayF_none false 2 q d hx]
          have HM := Lib.hid hM
          clear hF hx hM
          go_wp2_with fail
          try rw [hwq]
          refine (show Calls _ _ _ wr (fun e w' => e = .returned (.tuple #[.agg #[.int .u64 0, .int .u64 0, .bool false, .bool false, .bool false, .bool false], .bool false]) ∧ Below wr.heap.size wr w') from HF.out).mono ?_
          rintro e w2 ⟨rfl, hb2⟩
          have HB2 := Lib.hid (Gr.trans HGR.out hb2)
          clear hb2 hwq
          go_wp2_with fail
          go_ret
          exact ⟨by rw [HM.out]; rfl, HB2.out.trans (Gr.alloc w2 _)⟩
        | some x =>
          rw [hx] at hF
          have HX := Lib.hid hx
          obtain ⟨b, n, rd, wrt, ex, sc⟩ := x
          have HF := Lib.hid hF
          have HL := Lib.hid (show (mayF t false 2 q (d + 1)) = if letB ⟨b, n, rd, wrt, ex, sc⟩ false 2 = true then mayF t false 2 (q + 1) d else 163 from by rw [mayF, HX.out])
          clear hF hx
          go_wp2_with fail
          try rw [hwq]
          refine (show Calls _ _ _ wr (fun e w' => e = .returned (.tuple #[.agg #[.int .u64 (b : Nat), .int .u64 (n : Nat), .bool rd, .bool wrt, .bool ex, .bool sc], .bool true]) ∧ Below wr.heap.size wr w') from HF.out).mono ?_
          rintro e w2 ⟨rfl, hb2⟩
          have HB2 := Lib.hid (show Gr w (w2.alloc (.cells #[.int .u64 (b : Nat), .int .u64 (n : Nat), .bool rd, .bool wrt, .bool ex, .bool sc] 34)) from (HGR.out.trans hb2).trans (Gr.alloc w2 _))
          clear hb2 hwq
          cases sc <;> cases wrt
          all_goals go_wp2_with fail
          all_goals first
            | (go_ret
               exact ⟨by rw [← HMF.out, HL.out]; rfl, HB2.out⟩)
            | (go_roundw
               case rel => exact ⟨k + 1, by go_num, hks, by rw [← HD.out.1, ← HD.out.2, ← HMF.out, HL.out]; rfl, HB2.out⟩
               case measure => simp [intOf]; omega)
      · obtain rfl : k = s := by omega
        have hM : M = 0 := by rw [← HMF.out, Nat.sub_self]; rfl
        have HM := Lib.hid hM
        clear hM hks
        go_wp2_with fail
        go_ret
        exact ⟨by rw [HM.out]; rfl, HGR.out⟩
  · go_enter Try.func27, Try.ntmps27
    go_wp2_with (go_at_call 41; refine HW.out.mono ?_; rintro e w9 ⟨rfl, rfl⟩)
    clear t1 t3
    go_loopw [12] (fun v12 wr => ∃ k : Nat, v12 = .int .u64 (k : Nat) ∧ k ≤ s ∧ mayF t true 2 (p + k) (s - k) = M ∧ Gr w wr) (fun v12 _ => s - (intOf v12).toNat)
    case atStart => exact ⟨0, rfl, Nat.zero_le _, HMM.out, Gr.refl _⟩
    case round =>
      obtain ⟨k, rfl, hk, hmf, hgr⟩ := hrel
      have HMF := Lib.hid hmf
      have HGR := Lib.hid hgr
      clear hmf hgr
      by_cases hks : k < s
      · have hkI : (k : Int) < (s : Int) := by omega
        obtain ⟨q, hq⟩ : ∃ q, p + k = q := ⟨_, rfl⟩
        obtain ⟨d, hd⟩ : ∃ d, s - k = d + 1 := ⟨s - k - 1, by omega⟩
        have hqB : q < 18446744073709551616 := by have := HWD.out; omega
        have hwq : IntKind.u64.wrap ((p : Int) + (k : Int)) = (q : Int) := u64w (by omega) hqB
        have hF := rfind_any base a m t A c q wr (HP.out.bel HGR.out) HKM.out HKT.out hqB
        have HD := Lib.hid (show q + 1 = p + (k + 1) ∧ d = s - (k + 1) from ⟨by omega, by omega⟩)
        have hk64 : (k : Int) < 18446744073709551615 := by have := HWD.out; omega
        rw [hq, hd] at HMF
        clear hq hd hqB
        cases hx : fnd t q with
        | none =>
          rw [hx] at hF
          have HF := Lib.hid hF
          have hM : M = 165 := by rw [← HMF.out, mayF_none true 2 q d hx]
          have HM := Lib.hid hM
          clear hF hx hM
          go_wp2_with fail
          try rw [hwq]
          refine (show Calls _ _ _ wr (fun e w' => e = .returned (.tuple #[.agg #[.int .u64 0, .int .u64 0, .bool false, .bool false, .bool false, .bool false], .bool false]) ∧ Below wr.heap.size wr w') from HF.out).mono ?_
          rintro e w2 ⟨rfl, hb2⟩
          have HB2 := Lib.hid (Gr.trans HGR.out hb2)
          clear hb2 hwq
          go_wp2_with fail
          go_ret
          exact ⟨by rw [HM.out]; rfl, HB2.out.trans (Gr.alloc w2 _)⟩
        | some x =>
          rw [hx] at hF
          have HX := Lib.hid hx
          obtain ⟨b, n, rd, wrt, ex, sc⟩ := x
          have HF := Lib.hid hF
          have HL := Lib.hid (show (mayF t true 2 q (d + 1)) = if letB ⟨b, n, rd, wrt, ex, sc⟩ true 2 = true then mayF t true 2 (q + 1) d else 163 from by rw [mayF, HX.out])
          clear hF hx
          go_wp2_with fail
          try rw [hwq]
          refine (show Calls _ _ _ wr (fun e w' => e = .returned (.tuple #[.agg #[.int .u64 (b : Nat), .int .u64 (n : Nat), .bool rd, .bool wrt, .bool ex, .bool sc], .bool true]) ∧ Below wr.heap.size wr w') from HF.out).mono ?_
          rintro e w2 ⟨rfl, hb2⟩
          have HB2 := Lib.hid (show Gr w (w2.alloc (.cells #[.int .u64 (b : Nat), .int .u64 (n : Nat), .bool rd, .bool wrt, .bool ex, .bool sc] 34)) from (HGR.out.trans hb2).trans (Gr.alloc w2 _))
          clear hb2 hwq
          cases sc <;> cases wrt
          all_goals go_wp2_with fail
          all_goals first
            | (go_ret
               exact ⟨by rw [← HMF.out, HL.out]; rfl, HB2.out⟩)
            | (go_roundw
               case rel => exact ⟨k + 1, by go_num, hks, by rw [← HD.out.1, ← HD.out.2, ← HMF.out, HL.out]; rfl, HB2.out⟩
               case measure => simp [intOf]; omega)
      · obtain rfl : k = s := by omega
        have hM : M = 0 := by rw [← HMF.out, Nat.sub_self]; rfl
        have HM := Lib.hid hM
        clear hM hks
        go_wp2_with fail
        go_ret
        exact ⟨by rw [HM.out]; rfl, HGR.out⟩
  · go_enter Try.func27, Try.ntmps27
    go_wp2_with (go_at_call 41; refine HW.out.mono ?_; rintro e w9 ⟨rfl, rfl⟩)
    clear t1 t3
    go_loopw [12] (fun v12 wr => ∃ k : Nat, v12 = .int .u64 (k : Nat) ∧ k ≤ s ∧ mayF t false 3 (p + k) (s - k) = M ∧ Gr w wr) (fun v12 _ => s - (intOf v12).toNat)
    case atStart => exact ⟨0, rfl, Nat.zero_le _, HMM.out, Gr.refl _⟩
    case round =>
      obtain ⟨k, rfl, hk, hmf, hgr⟩ := hrel
      have HMF := Lib.hid hmf
      have HGR := Lib.hid hgr
      clear hmf hgr
      by_cases hks : k < s
      · have hkI : (k : Int) < (s : Int) := by omega
        obtain ⟨q, hq⟩ : ∃ q, p + k = q := ⟨_, rfl⟩
        obtain ⟨d, hd⟩ : ∃ d, s - k = d + 1 := ⟨s - k - 1, by omega⟩
        have hqB : q < 18446744073709551616 := by have := HWD.out; omega
        have hwq : IntKind.u64.wrap ((p : Int) + (k : Int)) = (q : Int) := u64w (by omega) hqB
        have hF := rfind_any base a m t A c q wr (HP.out.bel HGR.out) HKM.out HKT.out hqB
        have HD := Lib.hid (show q + 1 = p + (k + 1) ∧ d = s - (k + 1) from ⟨by omega, by omega⟩)
        have hk64 : (k : Int) < 18446744073709551615 := by have := HWD.out; omega
        rw [hq, hd] at HMF
        clear hq hd hqB
        cases hx : fnd t q with
        | none =>
          rw [hx] at hF
          have HF := Lib.hid hF
          have hM : M = 165 := by rw [← HMF.out, mayF_none false 3 q d hx]
          have HM := Lib.hid hM
          clear hF hx hM
          go_wp2_with fail
          try rw [hwq]
          refine (show Calls _ _ _ wr (fun e w' => e = .returned (.tuple #[.agg #[.int .u64 0, .int .u64 0, .bool false, .bool false, .bool false, .bool false], .bool false]) ∧ Below wr.heap.size wr w') from HF.out).mono ?_
          rintro e w2 ⟨rfl, hb2⟩
          have HB2 := Lib.hid (Gr.trans HGR.out hb2)
          clear hb2 hwq
          go_wp2_with fail
          go_ret
          exact ⟨by rw [HM.out]; rfl, HB2.out.trans (Gr.alloc w2 _)⟩
        | some x =>
          rw [hx] at hF
          have HX := Lib.hid hx
          obtain ⟨b, n, rd, wrt, ex, sc⟩ := x
          have HF := Lib.hid hF
          have HL := Lib.hid (show (mayF t false 3 q (d + 1)) = if letB ⟨b, n, rd, wrt, ex, sc⟩ false 3 = true then mayF t false 3 (q + 1) d else 163 from by rw [mayF, HX.out])
          clear hF hx
          go_wp2_with fail
          try rw [hwq]
          refine (show Calls _ _ _ wr (fun e w' => e = .returned (.tuple #[.agg #[.int .u64 (b : Nat), .int .u64 (n : Nat), .bool rd, .bool wrt, .bool ex, .bool sc], .bool true]) ∧ Below wr.heap.size wr w') from HF.out).mono ?_
          rintro e w2 ⟨rfl, hb2⟩
          have HB2 := Lib.hid (show Gr w (w2.alloc (.cells #[.int .u64 (b : Nat), .int .u64 (n : Nat), .bool rd, .bool wrt, .bool ex, .bool sc] 34)) from (HGR.out.trans hb2).trans (Gr.alloc w2 _))
          clear hb2 hwq
          cases sc <;> cases ex
          all_goals go_wp2_with fail
          all_goals first
            | (go_ret
               exact ⟨by rw [← HMF.out, HL.out]; rfl, HB2.out⟩)
            | (go_roundw
               case rel => exact ⟨k + 1, by go_num, hks, by rw [← HD.out.1, ← HD.out.2, ← HMF.out, HL.out]; rfl, HB2.out⟩
               case measure => simp [intOf]; omega)
      · obtain rfl : k = s := by omega
        have hM : M = 0 := by rw [← HMF.out, Nat.sub_self]; rfl
        have HM := Lib.hid hM
        clear hM hks
        go_wp2_with fail
        go_ret
        exact ⟨by rw [HM.out]; rfl, HGR.out⟩
  · go_enter Try.func27, Try.ntmps27
    go_wp2_with (go_at_call 41; refine HW.out.mono ?_; rintro e w9 ⟨rfl, rfl⟩)
    clear t1 t3
    go_loopw [12] (fun v12 wr => ∃ k : Nat, v12 = .int .u64 (k : Nat) ∧ k ≤ s ∧ mayF t true 3 (p + k) (s - k) = M ∧ Gr w wr) (fun v12 _ => s - (intOf v12).toNat)
    case atStart => exact ⟨0, rfl, Nat.zero_le _, HMM.out, Gr.refl _⟩
    case round =>
      obtain ⟨k, rfl, hk, hmf, hgr⟩ := hrel
      have HMF := Lib.hid hmf
      have HGR := Lib.hid hgr
      clear hmf hgr
      by_cases hks : k < s
      · have hkI : (k : Int) < (s : Int) := by omega
        obtain ⟨q, hq⟩ : ∃ q, p + k = q := ⟨_, rfl⟩
        obtain ⟨d, hd⟩ : ∃ d, s - k = d + 1 := ⟨s - k - 1, by omega⟩
        have hqB : q < 18446744073709551616 := by have := HWD.out; omega
        have hwq : IntKind.u64.wrap ((p : Int) + (k : Int)) = (q : Int) := u64w (by omega) hqB
        have hF := rfind_any base a m t A c q wr (HP.out.bel HGR.out) HKM.out HKT.out hqB
        have HD := Lib.hid (show q + 1 = p + (k + 1) ∧ d = s - (k + 1) from ⟨by omega, by omega⟩)
        have hk64 : (k : Int) < 18446744073709551615 := by have := HWD.out; omega
        rw [hq, hd] at HMF
        clear hq hd hqB
        cases hx : fnd t q with
        | none =>
          rw [hx] at hF
          have HF := Lib.hid hF
          have hM : M = 165 := by rw [← HMF.out, mayF_none true 3 q d hx]
          have HM := Lib.hid hM
          clear hF hx hM
          go_wp2_with fail
          try rw [hwq]
          refine (show Calls _ _ _ wr (fun e w' => e = .returned (.tuple #[.agg #[.int .u64 0, .int .u64 0, .bool false, .bool false, .bool false, .bool false], .bool false]) ∧ Below wr.heap.size wr w') from HF.out).mono ?_
          rintro e w2 ⟨rfl, hb2⟩
          have HB2 := Lib.hid (Gr.trans HGR.out hb2)
          clear hb2 hwq
          go_wp2_with fail
          go_ret
          exact ⟨by rw [HM.out]; rfl, HB2.out.trans (Gr.alloc w2 _)⟩
        | some x =>
          rw [hx] at hF
          have HX := Lib.hid hx
          obtain ⟨b, n, rd, wrt, ex, sc⟩ := x
          have HF := Lib.hid hF
          have HL := Lib.hid (show (mayF t true 3 q (d + 1)) = if letB ⟨b, n, rd, wrt, ex, sc⟩ true 3 = true then mayF t true 3 (q + 1) d else 163 from by rw [mayF, HX.out])
          clear hF hx
          go_wp2_with fail
          try rw [hwq]
          refine (show Calls _ _ _ wr (fun e w' => e = .returned (.tuple #[.agg #[.int .u64 (b : Nat), .int .u64 (n : Nat), .bool rd, .bool wrt, .bool ex, .bool sc], .bool true]) ∧ Below wr.heap.size wr w') from HF.out).mono ?_
          rintro e w2 ⟨rfl, hb2⟩
          have HB2 := Lib.hid (show Gr w (w2.alloc (.cells #[.int .u64 (b : Nat), .int .u64 (n : Nat), .bool rd, .bool wrt, .bool ex, .bool sc] 34)) from (HGR.out.trans hb2).trans (Gr.alloc w2 _))
          clear hb2 hwq
          cases sc <;> cases ex
          all_goals go_wp2_with fail
          all_goals first
            | (go_ret
               exact ⟨by rw [← HMF.out, HL.out]; rfl, HB2.out⟩)
            | (go_roundw
               case rel => exact ⟨k + 1, by go_num, hks, by rw [← HD.out.1, ← HD.out.2, ← HMF.out, HL.out]; rfl, HB2.out⟩
               case measure => simp [intOf]; omega)
      · obtain rfl : k = s := by omega
        have hM : M = 0 := by rw [← HMF.out, Nat.sub_self]; rfl
        have HM := Lib.hid hM
        clear hM hks
        go_wp2_with fail
        go_ret
        exact ⟨by rw [HM.out]; rfl, HGR.out⟩
end Go.Proofs.Ytelfhpmbnficfaa
