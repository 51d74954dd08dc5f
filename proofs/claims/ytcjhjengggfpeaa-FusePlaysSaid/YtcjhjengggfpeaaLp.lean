/- FusePlays: the law's walk. Condition: sizes. -/
import Derived.Test.YtcjhjengggfpeaaOp
import Derived.Test.YtcjhjengggfpeaaSu
namespace Go.Proofs.Ytcjhjengggfpeaa
open Go.RowKit
set_option linter.unusedVariables false
set_option maxRecDepth 100000
set_option linter.unusedSimpArgs false
/-- any step -/
theorem step_all (x : OpR) (base a r : Nat) (l : List (Nat × Bool)) (c : List Nat) (w : World) (h : Good base a r l c w) (hf : x.fit) :
    Calls Try.prog 12 #[.pointer (some ⟨a, 0, none⟩), .pointer (some ⟨r, 0, none⟩), .agg x.cs.toArray] w (StepOk base a r w) := by
  obtain ⟨kd, i, n, v, cc⟩ := x
  obtain ⟨hkd, hi, hn, hv, hcc⟩ := hf
  simp only at hkd hi hn hv hcc
  change Calls _ _ #[_, _, .agg #[.int .i64 kd, .int .i64 i, .int .i64 n, .int .u8 (v : Nat), .int .u32 (cc : Nat)]] _ _
  by_cases h1 : kd = 1
  · subst h1; exact step_1 i n v cc base a r l c w h hi hn hv hcc
  by_cases h2 : kd = 2
  · subst h2; exact step_2 i n v cc base a r l c w h hi hn
  by_cases h3 : kd = 3
  · subst h3; exact step_3 i n v cc base a r l c w h hi hn
  by_cases h4 : kd = 4
  · subst h4; exact step_4 i n v cc base a r l c w h hi hn
  by_cases h5 : kd = 5
  · subst h5; exact step_5 i n v cc base a r l c w h hi hn hv hcc
  exact step_0 kd i n v cc base a r l c w h hi hn ⟨h1, h2, h3, h4, h5⟩
theorem zeroR (w : World) : (zeroValue 31).run Try.prog w = .ok (.agg (ruV l0 c0).toArray) w := by kernel_rfl
set_option maxRecDepth 100000 in
set_option maxHeartbeats 12800000 in
theorem play_walk (P : Option Addr) (np cp : Nat) (os : List OpR) (w : World) (hin : OIn w P np os) (hnp : np ≤ 140737488355328) :
    Calls Try.prog 3 #[.slice P np cp] w fun e w' => e = .returned (.bool true) ∧ Below w.heap.size w w' := by
  have HIN := Lib.hid hin
  clear hin
  go_enter Try.func3, Try.ntmps3
  go_wp2_with fail
  refine (new_any w).mono ?_
  rintro e w1 ⟨rfl, hF, hb⟩
  have HB := Lib.hid hb
  have HF := Lib.hid hF
  clear hb hF
  go_wp2_with fail
  try rw [zeroR]
  go_wp2_with fail
  have hba : Below w.heap.size w (w1.alloc (.cells (ruV l0 c0).toArray 31)) := HB.out.alloc HB.out.size _
  have hga : Good w.heap.size w.heap.size w1.heap.size l0 c0 (w1.alloc (.cells (ruV l0 c0).toArray 31)) := ⟨Blk.alloc HF.out _, Blk.new w1 _ _, ok0, Nat.le_refl _, HB.out.size, hba.size⟩
  have HBA := Lib.hid hba
  have HGA := Lib.hid hga
  clear hba hga HB HF
  refine (alive_any _).mono ?_
  rintro e w2 ⟨rfl, hb2⟩
  have HB2 := Lib.hid (HBA.out.trans (hb2.mono HBA.out.size))
  have HG2 := Lib.hid (HGA.out.grow hb2)
  obtain ⟨r, hr⟩ : ∃ r, w1.heap.size = r := ⟨_, rfl⟩
  rw [hr] at HG2
  rw [hr]
  clear hb2 HBA HGA hr
  go_wp2_with fail
  go_loopw [3, 5] (fun v3 v5 wr => ∃ (a m : Nat) (l : List (Nat × Bool)) (c : List Nat), v3 = .pointer (some ⟨a, 0, none⟩) ∧ v5 = .int .i64 (m : Nat) ∧ m ≤ np ∧ m ≤ 2000 ∧ Good w.heap.size a r l c wr ∧ Below w.heap.size w wr) (fun _ v5 _ => 2000 - (intOf v5).toNat)
  case atStart => exact ⟨_, 0, l0, c0, rfl, rfl, Nat.zero_le _, Nat.zero_le _, HG2.out, HB2.out⟩
  case round =>
    obtain ⟨a, m, l, c, rfl, rfl, hm, hm2, hgd, hbl⟩ := hrel
    have HG := Lib.hid hgd
    have HB := Lib.hid hbl
    clear hgd hbl HB2 HG2
    by_cases hmn : m < np ∧ m < 2000
    · obtain ⟨hmn1, hmn2⟩ := hmn
      have q1 : (m : Int) < (np : Int) := by omega
      have q2 : (m : Int) < 2000 := by omega
      obtain ⟨b, off, rfl, hcell⟩ := HIN.out.2.2.resolve_left (by omega)
      obtain ⟨x, hx⟩ : ∃ x, os[m]? = some x := ⟨_, List.getElem?_eq_getElem (by rw [HIN.out.1]; exact hmn1)⟩
      have hc := hcell m x hx
      have hfit := HIN.out.2.1 x (List.mem_of_getElem? hx)
      obtain ⟨kd, i, n, v, cc⟩ := x
      have HFIT := Lib.hid hfit
      have HCL := Lib.hid (fun (w9 : World) (hb : Below w.heap.size w w9) j u (h : (OpR.cs ⟨kd, i, n, v, cc⟩)[j]? = some u) => (hb.cell (World.block_lt_of_cell? w _ (hc j u h))).trans (hc j u h))
      have e0 : wr.cell? ⟨b, off + m * 5, none⟩ = some (.int .i64 kd) := HCL.out wr HB.out 0 _ rfl
      have e1 : wr.cell? ⟨b, off + m * 5 + 1, none⟩ = some (.int .i64 i) := HCL.out wr HB.out 1 _ rfl
      have e2 : wr.cell? ⟨b, off + m * 5 + 2, none⟩ = some (.int .i64 n) := HCL.out wr HB.out 2 _ rfl
      have e3 : wr.cell? ⟨b, off + m * 5 + 3, none⟩ = some (.int .u8 (v : Nat)) := HCL.out wr HB.out 3 _ rfl
      have e4 : wr.cell? ⟨b, off + m * 5 + 4, none⟩ = some (.int .u32 (cc : Nat)) := HCL.out wr HB.out 4 _ rfl
      clear hcell hx hc hfit
      by_cases h6 : kd = 6
      · subst h6
        have HCO := Lib.hid (copy_any a l c wr HG.out.fu HG.out.ok)
        go_wp2_with fail
        refine HCO.out.mono ?_
        rintro e w3 ⟨rfl, hf3, hb3⟩
        have HG3 := Lib.hid (HG.out.grow hb3)
        have HF3 := Lib.hid hf3
        have HB3 := Lib.hid (HB.out.trans (hb3.mono HB.out.size))
        have HLT := Lib.hid (show a < wr.heap.size ∧ r < wr.heap.size from ⟨Blk.lt HG.out.fu, Blk.lt HG.out.ru⟩)
        have d1 : w3.cell? ⟨b, off + m * 5 + 1, none⟩ = some (.int .i64 i) := HCL.out w3 HB3.out 1 _ rfl
        clear hf3 hb3 HCO e0 e1 e2 e3 e4
        go_wp2_with fail
        refine (pick_any i 64 w3 HFIT.out.2.1 (by omega)).mono ?_
        rintro e w4 ⟨rfl, rfl⟩
        go_wp2_with fail
        refine (burn_any a l c (pickN i 64 : Nat) 255 w3 HG3.out.fu HG3.out.ok (by have := pickN_lt i 64 (by omega); unfold I64; omega)).mono ?_
        rintro e w4 ⟨rfl, hf4, hg4⟩
        have HF4 := Lib.hid hf4
        have HK4 := Lib.hid (burn_ok HG3.out.ok (pickN i 64 : Nat) 255 (by omega))
        have HR4 := Lib.hid (show RuAt w4 r l c from Blk.grown HG3.out.ru hg4 (fun e => by injection e with e; exact blk_ne HG3.out.fu HG3.out.ru (by decide) e.symm))
        have HN4 := Lib.hid (show FuAt w4 wr.heap.size l c from Blk.grown HF3.out hg4 (fun e => by injection e with e; have := HLT.out.1; omega))
        have HB4 := Lib.hid (grownB HB3.out hg4 HG.out.ha HB3.out.size)
        have d2 : w4.cell? ⟨b, off + m * 5 + 2, none⟩ = some (.int .i64 n) := HCL.out w4 HB4.out 2 _ rfl
        clear hf4 hg4 d1
        go_wp2_with fail
        refine (pick_any n 4 w4 HFIT.out.2.2.1 (by omega)).mono ?_
        rintro e w5 ⟨rfl, rfl⟩
        go_wp2_with fail
        refine (raise_any a _ c (pickN n 4 : Nat) 4294967295 w4 HF4.out HK4.out (by have := pickN_lt n 4 (by omega); unfold I64; omega)).mono ?_
        rintro e w5 ⟨rfl, hf5, hg5⟩
        have HR5 := Lib.hid (show RuAt w5 r l c from Blk.grown HR4.out hg5 (fun e => by injection e with e; exact blk_ne HF4.out HR4.out (by decide) e.symm))
        have HN5 := Lib.hid (show FuAt w5 wr.heap.size l c from Blk.grown HN4.out hg5 (fun e => by injection e with e; have := HLT.out.1; omega))
        have HB5 := Lib.hid (grownB HB4.out hg5 HG.out.ha HB4.out.size)
        clear hf5 hg5 d2
        go_wp2_with fail
        go_roundw
        case rel => exact ⟨wr.heap.size, m + 1, l, c, rfl, by go_num, by omega, by omega, ⟨HN5.out, HR5.out, HG.out.ok, HG.out.sz, HG.out.hr, HB5.out.size⟩, HB5.out⟩
        case measure => simp [intOf]; omega
      · have t6 : (kd == 6) = false := by simpa using h6
        have HS := Lib.hid (step_all ⟨kd, i, n, v, cc⟩ w.heap.size a r l c wr HG.out HFIT.out)
        go_wp2_with fail
        refine HS.out.mono ?_
        rintro e w3 ⟨rfl, ⟨l2, c2, hg3⟩, hb3⟩
        have HG3 := Lib.hid hg3
        have HB3 := Lib.hid (HB.out.trans hb3)
        clear hg3 hb3 HS e0 e1 e2 e3 e4
        go_wp2_with fail
        go_roundw
        case rel => exact ⟨a, m + 1, l2, c2, rfl, by go_num, by omega, by omega, HG3.out, HB3.out⟩
        case measure => simp [intOf]; omega
    · have HE := Lib.hid (show m = np ∨ (m = 2000 ∧ 2000 < np) by omega)
      have HC := Lib.hid (row_ok a l c 0 64 wr HG.out.fu HG.out.ok (by omega))
      have HLB := Lib.hid (rowL_lt HG.out.ok.bl 0 64)
      rcases HE.out with hq | ⟨hq1, hq2⟩
      · have q1 : ¬ (m : Int) < (np : Int) := by omega
        clear hmn
        go_wp2_with fail
        refine HC.out.mono ?_
        rintro e w3 ⟨ax, cx, rfl, hox, hb3⟩
        have HG3 := Lib.hid (HG.out.grow hb3)
        have HB3 := Lib.hid (HB.out.trans (hb3.mono HB.out.size))
        have HC2 := Lib.hid (rrow_ok r l c 0 64 w3 HG3.out.ru HG3.out.ok (by omega))
        have HOX := Lib.hid hox
        clear hox hb3 HC
        generalize rowL l 0 64 = L at *
        generalize rowA l 0 64 = U at *
        go_wp2_with fail
        refine HC2.out.mono ?_
        rintro e w4 ⟨ay, cy, rfl, hoy, hb4⟩
        have HB4 := Lib.hid (HB3.out.trans (hb4.mono HB3.out.size))
        have hox3 := own_below HOX.out hb4
        obtain ⟨_, _, ex, hbx, _⟩ := own_in hox3 HLB.out (by omega)
        injection ex with ex1 ex2 ex3
        subst ex1 ex3
        obtain ⟨_, _, ey, hby, _⟩ := own_in hoy HLB.out (by omega)
        injection ey with ey1 ey2 ey3
        subst ey1 ey3
        have HS := Lib.hid (sameB_any w4 _ _ _ _ _ _ L L hbx hby)
        rw [show decide (L = L) = true from by simp] at HS
        clear hox3 hoy hb4 hbx hby ex2 ey2 HC2
        go_wp2_with fail
        refine HS.out.mono ?_
        rintro e w5 ⟨rfl, hb5⟩
        have HB5 := Lib.hid (HB4.out.trans (hb5.mono HB4.out.size))
        clear hb5
        go_wp2_with fail
        go_ret
        exact ⟨rfl, HB5.out⟩
      · have q1 : (m : Int) < (np : Int) := by omega
        have q2 : ¬ (m : Int) < 2000 := by omega
        clear hmn
        go_wp2_with fail
        refine HC.out.mono ?_
        rintro e w3 ⟨ax, cx, rfl, hox, hb3⟩
        have HG3 := Lib.hid (HG.out.grow hb3)
        have HB3 := Lib.hid (HB.out.trans (hb3.mono HB.out.size))
        have HC2 := Lib.hid (rrow_ok r l c 0 64 w3 HG3.out.ru HG3.out.ok (by omega))
        have HOX := Lib.hid hox
        clear hox hb3 HC
        generalize rowL l 0 64 = L at *
        generalize rowA l 0 64 = U at *
        go_wp2_with fail
        refine HC2.out.mono ?_
        rintro e w4 ⟨ay, cy, rfl, hoy, hb4⟩
        have HB4 := Lib.hid (HB3.out.trans (hb4.mono HB3.out.size))
        have hox3 := own_below HOX.out hb4
        obtain ⟨_, _, ex, hbx, _⟩ := own_in hox3 HLB.out (by omega)
        injection ex with ex1 ex2 ex3
        subst ex1 ex3
        obtain ⟨_, _, ey, hby, _⟩ := own_in hoy HLB.out (by omega)
        injection ey with ey1 ey2 ey3
        subst ey1 ey3
        have HS := Lib.hid (sameB_any w4 _ _ _ _ _ _ L L hbx hby)
        rw [show decide (L = L) = true from by simp] at HS
        clear hox3 hoy hb4 hbx hby ex2 ey2 HC2
        go_wp2_with fail
        refine HS.out.mono ?_
        rintro e w5 ⟨rfl, hb5⟩
        have HB5 := Lib.hid (HB4.out.trans (hb5.mono HB4.out.size))
        clear hb5
        go_wp2_with fail
        go_ret
        exact ⟨rfl, HB5.out⟩
end Go.Proofs.Ytcjhjengggfpeaa
