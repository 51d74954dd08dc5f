/- The document's Load, Store, Place, Peek. No condition. -/
import Derived.Test.YtelfhpmbnficfaaDb
namespace Go.Proofs.Ytelfhpmbnficfaa
open Go.RowKit
set_option linter.unusedVariables false
set_option maxRecDepth 100000
set_option linter.unusedSimpArgs false
set_option maxHeartbeats 1600000 in
theorem rload_any (base a p s : Nat) (sec : Bool) (ac : Int) (m : List Nat) (t : List Reg) (A : Option Addr) (c : Nat) (w : World) (hp : RAt w base a m t A c) (km : MOk m) (kt : TOk t) (hpu : U64 p) (hsu : U64 s) (hac : I64 ac) :
    Calls Try.prog 44 #[.pointer (some ⟨a, 0, none⟩), .bool sec, .int .i64 ac, .int .u64 (p : Nat), .int .u64 (s : Nat)] w (RdIs (mayE t sec ac p s) (ldL m t sec ac p s) w) := by
  have HM := Lib.hid (rmay_any base a p s sec ac m t A c w hp km kt hpu hsu hac)
  by_cases he : mayE t sec ac p s = 0
  · have e2 : ldL m t sec ac p s = (m.drop (p - 1073741824)).take s := by unfold ldL; rw [if_pos he]
    have hwd := of_decide_eq_true (clE_of he).2
    obtain ⟨o, ho⟩ : ∃ o, p - 1073741824 = o := ⟨_, rfl⟩
    have HK := Lib.hid (fun (w' : World) (hb : Gr w w') => get_any base a p s o m t A c w' (hp.bel hb) km (by omega) (by omega))
    rw [e2, ho]
    rw [he] at HM ⊢
    clear he e2 hwd ho hp km kt hpu hsu hac
    go_enter Try.func44, Try.ntmps44
    go_wp2_with fail
    refine HM.out.mono ?_
    rintro e w1 ⟨rfl, hb1⟩
    have HB1 := Lib.hid hb1
    have HK1 := Lib.hid (HK.out w1 hb1)
    clear hb1
    generalize (m.drop o).take s = L at *
    go_wp2_with fail
    refine HK1.out.mono ?_
    rintro e w2 hr
    obtain ⟨A2, c2, rfl, h1, h2⟩ := hr.behind HB1.out
    have H1 := Lib.hid h1
    have H2 := Lib.hid h2
    clear h1 h2 hr
    go_wp2_with fail
    go_ret2
    exact ⟨A2, c2, rfl, H1.out, H2.out⟩
  · have e2 : ldL m t sec ac p s = [] := by unfold ldL; rw [if_neg he]
    rw [e2]
    obtain ⟨E, hE⟩ : ∃ E, mayE t sec ac p s = E := ⟨_, rfl⟩
    rw [hE] at HM he ⊢
    have hne : (E != 0) = true := by simpa using he
    clear hE e2 he hp km kt hpu hsu hac
    go_enter Try.func44, Try.ntmps44
    go_wp2_with fail
    refine HM.out.mono ?_
    rintro e w1 ⟨rfl, hb1⟩
    have HB1 := Lib.hid hb1
    clear hb1
    go_wp2_with fail
    go_ret2
    exact (RdIs.nil E w1).behind HB1.out
set_option maxHeartbeats 1600000 in
theorem rpeek_any (base a p s : Nat) (m : List Nat) (t : List Reg) (A : Option Addr) (c : Nat) (w : World) (hp : RAt w base a m t A c) (km : MOk m) (hpu : U64 p) (hsu : U64 s) :
    Calls Try.prog 45 #[.pointer (some ⟨a, 0, none⟩), .int .u64 (p : Nat), .int .u64 (s : Nat)] w (RdIs (clE p s) (pkL m p s) w) := by
  have HM := rwithin_any p s w hpu hsu
  by_cases hw : wiB p s = true
  · have e2 : pkL m p s = (m.drop (p - 1073741824)).take s := by unfold pkL; rw [if_pos hw]
    have e1 : clE p s = 0 := by unfold clE; rw [if_pos hw]
    have hwd := of_decide_eq_true hw
    obtain ⟨o, ho⟩ : ∃ o, p - 1073741824 = o := ⟨_, rfl⟩
    have HK := Lib.hid (get_any base a p s o m t A c w hp km (by omega) (by omega))
    rw [e2, ho, e1]
    rw [hw] at HM
    replace HM := Lib.hid HM
    clear e1 e2 hwd ho hw hp km hpu hsu
    go_enter Try.func45, Try.ntmps45
    go_wp2_with (go_at_call 41; refine HM.out.mono ?_; rintro e w9 ⟨rfl, rfl⟩)
    generalize (m.drop o).take s = L at *
    refine HK.out.mono ?_
    rintro e w2 ⟨A2, c2, rfl, h1, h2⟩
    have H1 := Lib.hid h1
    have H2 := Lib.hid h2
    clear h1 h2
    go_wp2_with fail
    go_ret2
    exact ⟨A2, c2, rfl, H1.out, H2.out⟩
  · have e2 : pkL m p s = [] := by unfold pkL; rw [if_neg hw]
    have e1 : clE p s = 161 := by unfold clE; rw [if_neg hw]
    rw [e2, e1]
    rw [Bool.not_eq_true] at hw
    rw [hw] at HM
    replace HM := Lib.hid HM
    clear e1 e2 hw hp km hpu hsu
    go_enter Try.func45, Try.ntmps45
    go_wp2_with (go_at_call 41; refine HM.out.mono ?_; rintro e w9 ⟨rfl, rfl⟩)
    go_ret2
    exact RdIs.nil 161 w
set_option maxHeartbeats 1600000 in
theorem rplace_any (base a p n cb : Nat) (B : Option Addr) (b m : List Nat) (t : List Reg) (A : Option Addr) (c : Nat) (w : World) (hp : RAt w base a m t A c) (km : MOk m) (hba : base ≤ a) (hpu : U64 p) (hB : ∀ W, FrT base tyD w W → BIn W B n cb b) :
    Calls Try.prog 29 #[.pointer (some ⟨a, 0, none⟩), .int .u64 (p : Nat), .slice B n cb] w (DDone base a (.int .i64 (clE p n)) (plM m p b) t w) := by
  have hB0 := hB w (FrT.refl _ _ _)
  have hn := hB0.1.1
  have hn47 := hB0.2.2.2.1
  have hcv : IntKind.u64.wrap (n : Int) = (n : Int) := u64w rfl (by omega)
  have HM := rwithin_any p n w hpu (by unfold U64; omega)
  have HP := Lib.hid hp
  by_cases hw : wiB p n = true
  · have e2 : plM m p b = putM m (p - 1073741824) b := by unfold plM; rw [hn, if_pos hw]
    have e1 : clE p n = 0 := by unfold clE; rw [if_pos hw]
    have hwd := of_decide_eq_true hw
    obtain ⟨o, ho⟩ : ∃ o, p - 1073741824 = o := ⟨_, rfl⟩
    have HK := Lib.hid (set_any base a p n cb o B b m t A c w hp km hba hn hB (by omega) (by omega))
    rw [e2, ho, e1]
    rw [hw] at HM
    replace HM := Lib.hid HM
    clear e1 e2 hwd ho hw hp km hpu hB hB0 hn hba
    go_enter Try.func29, Try.ntmps29
    go_wp2_with (go_at_call 41; (try rw [hcv]); refine HM.out.mono ?_; rintro e w9 ⟨rfl, rfl⟩)
    generalize putM m o b = L at *
    refine HK.out.mono ?_
    rintro e w2 ⟨rfl, h1, h2⟩
    have H1 := Lib.hid h1
    have H2 := Lib.hid h2
    clear h1 h2
    go_wp2_with fail
    go_ret
    exact ⟨rfl, H1.out, H2.out⟩
  · have e2 : plM m p b = m := by unfold plM; rw [hn, if_neg hw]
    have e1 : clE p n = 161 := by unfold clE; rw [if_neg hw]
    rw [e2, e1]
    rw [Bool.not_eq_true] at hw
    rw [hw] at HM
    replace HM := Lib.hid HM
    clear e1 e2 hw hp km hpu hB hB0 hn hba
    go_enter Try.func29, Try.ntmps29
    go_wp2_with (go_at_call 41; (try rw [hcv]); refine HM.out.mono ?_; rintro e w9 ⟨rfl, rfl⟩)
    go_ret
    exact DDone.same HP.out (Below.refl _ _)
set_option maxHeartbeats 1600000 in
theorem rstore_any (base a p n cb : Nat) (sec : Bool) (B : Option Addr) (b m : List Nat) (t : List Reg) (A : Option Addr) (c : Nat) (w : World) (hp : RAt w base a m t A c) (km : MOk m) (kt : TOk t) (hba : base ≤ a) (hpu : U64 p) (hB : ∀ W, FrT base tyD w W → BIn W B n cb b) :
    Calls Try.prog 28 #[.pointer (some ⟨a, 0, none⟩), .bool sec, .int .u64 (p : Nat), .slice B n cb] w (DDone base a (.int .i64 (mayE t sec 2 p n)) (stM m t sec p b) t w) := by
  have hB0 := hB w (FrT.refl _ _ _)
  have hn := hB0.1.1
  have hn47 := hB0.2.2.2.1
  have hcv : IntKind.u64.wrap (n : Int) = (n : Int) := u64w rfl (by omega)
  have HM := Lib.hid (rmay_any base a p n sec 2 m t A c w hp km kt hpu (by unfold U64; omega) (by unfold I64; omega))
  have HP := Lib.hid hp
  by_cases he : mayE t sec 2 p n = 0
  · have e2 : stM m t sec p b = putM m (p - 1073741824) b := by unfold stM; rw [hn, if_pos he]
    have hwd := of_decide_eq_true (clE_of he).2
    obtain ⟨o, ho⟩ : ∃ o, p - 1073741824 = o := ⟨_, rfl⟩
    have HK := Lib.hid (fun (w' : World) (hb : Gr w w') => set_any base a p n cb o B b m t A c w' (hp.bel hb) km hba hn (fun W hW => hB W ((FrT.bel hb).trans hW)) (by omega) (by omega))
    rw [e2, ho]
    rw [he] at HM ⊢
    clear he e2 hwd ho hp km kt hpu hB hB0 hn hba
    go_enter Try.func28, Try.ntmps28
    go_wp2_with fail
    try rw [hcv]
    refine HM.out.mono ?_
    rintro e w1 ⟨rfl, hb1⟩
    have HB1 := Lib.hid hb1
    have HK1 := Lib.hid (HK.out w1 hb1)
    clear hb1
    generalize putM m o b = L at *
    go_wp2_with fail
    refine HK1.out.mono ?_
    rintro e w2 ⟨rfl, h1, h2⟩
    have H1 := Lib.hid h1
    have H2 := Lib.hid h2
    clear h1 h2
    go_wp2_with fail
    go_ret
    exact ⟨rfl, H1.out, (FrT.bel HB1.out).trans H2.out⟩
  · have e2 : stM m t sec p b = m := by unfold stM; rw [hn, if_neg he]
    rw [e2]
    obtain ⟨E, hE⟩ : ∃ E, mayE t sec 2 p n = E := ⟨_, rfl⟩
    rw [hE] at HM he ⊢
    have hne : (E == 0) = false := by simpa using he
    clear hE e2 he hp km kt hpu hB hB0 hn hba
    go_enter Try.func28, Try.ntmps28
    go_wp2_with fail
    try rw [hcv]
    refine HM.out.mono ?_
    rintro e w1 ⟨rfl, hb1⟩
    have HB1 := Lib.hid hb1
    clear hb1
    go_wp2_with fail
    go_ret
    exact DDone.same HP.out HB1.out
end Go.Proofs.Ytelfhpmbnficfaa
