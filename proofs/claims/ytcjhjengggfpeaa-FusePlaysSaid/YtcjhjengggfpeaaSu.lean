/- FusePlays: the steps that read. No condition. -/
import Derived.Test.YtcjhjengggfpeaaSt
namespace Go.Proofs.Ytcjhjengggfpeaa
open Go.RowKit
set_option linter.unusedVariables false
set_option maxRecDepth 100000
set_option linter.unusedSimpArgs false
/-- the block of a row of the call's own -/
theorem own_blk2 {w : World} {B n c : Nat} {a : Option Addr} {l : List Nat} (h : w.ownsRow B 5 1 (.slice a n c) n (bytesV l)) : n = 0 ∨ ∃ g cs, a = some ⟨g, 0, none⟩ ∧ B ≤ g ∧ Blk w g 5 cs ∧ ∀ j, j < n → cs[j]? = some (.int .u8 (l.getD j 0 : Nat)) := by
  rcases h.2 with ⟨e, h0⟩ | ⟨g, cap, cur, e, hbg, hg, h1, h2, h3, h4⟩
  · exact .inl h0
  · injection e with e1 e2 e3
    subst e1 e3
    obtain ⟨hl, hc⟩ := own_cells h
    have hb : Blk w g 5 cur.toList := by unfold Blk; simpa using hg
    refine .inr ⟨g, cur.toList, rfl, hbg, hb, fun j hj => ?_⟩
    have := hc j hj
    rw [Nat.zero_add, hb.cell] at this
    exact this
theorem Good.other {base a r g : Nat} {l : List (Nat × Bool)} {c : List Nat} {w : World} {cs : List Value} (h : Good base a r l c w) (hb : Blk w g 5 cs) (k : Nat) (v : Value) : Good base a r l c (w.setCell ⟨g, k, none⟩ v) :=
  ⟨Blk.other h.fu _ _ (blk_ne h.fu hb (by decide)), Blk.other h.ru _ _ (blk_ne h.ru hb (by decide)), h.ok, h.ha, h.hr, Nat.le_trans h.sz (grown_setCell w ⟨g, k, none⟩ v).size⟩
set_option maxHeartbeats 6400000 in
theorem step_2 (i n : Int) (v cc : Nat) (base a r : Nat) (l : List (Nat × Bool)) (c : List Nat) (w : World) (h : Good base a r l c w) (hi : I64 i) (hn : I64 n) :
    Calls Try.prog 12 #[.pointer (some ⟨a, 0, none⟩), .pointer (some ⟨r, 0, none⟩), .agg #[.int .i64 2, .int .i64 i, .int .i64 n, .int .u8 (v : Nat), .int .u32 (cc : Nat)]] w (StepOk base a r w) := by
  have ha : Below base w (w.alloc (.cells #[.int .i64 2, .int .i64 i, .int .i64 n, .int .u8 (v : Nat), .int .u32 (cc : Nat)] 34)) := (Below.refl _ _).alloc h.sz _
  have HX := Lib.hid (Blk.new w 34 [.int .i64 2, .int .i64 i, .int .i64 n, .int .u8 (v : Nat), .int .u32 (cc : Nat)])
  have HA := Lib.hid ha
  have HG := Lib.hid (h.grow ((Below.refl _ _).alloc (Nat.le_refl _) (.cells #[.int .i64 2, .int .i64 i, .int .i64 n, .int .u8 (v : Nat), .int .u32 (cc : Nat)] 34)))
  have HI := Lib.hid hi
  have HN := Lib.hid hn
  clear h ha hi hn
  obtain ⟨w1, hw1⟩ : ∃ w1, w.alloc (.cells #[.int .i64 2, .int .i64 i, .int .i64 n, .int .u8 (v : Nat), .int .u32 (cc : Nat)] 34) = w1 := ⟨_, rfl⟩
  have HW1 := Lib.hid hw1
  rw [hw1] at HX HA HG
  have e1 : w1.cell? ⟨w.heap.size, 1, none⟩ = some (.int .i64 i) := HX.out.cell 1
  have e2 : w1.cell? ⟨w.heap.size, 2, none⟩ = some (.int .i64 n) := HX.out.cell 2
  clear hw1
  by_cases hr : 0 ≤ i ∧ i < 64
  · have hq : rdV l i = .tuple #[.int .u8 ((l.getD i.toNat (0, false)).1 : Nat), .bool (l.getD i.toNat (0, false)).2, .int .i64 0] := by unfold rdV; rw [if_pos hr]
    have HC := Lib.hid (read_any a l c i w1 HG.out.fu HG.out.ok HI.out)
    rw [hq] at HC
    generalize (l.getD i.toNat (0, false)).1 = x at *
    generalize (l.getD i.toNat (0, false)).2 = u at *
    have HQ := Lib.hid hq
    clear hq hr
    go_enter Try.func12, Try.ntmps12
    go_wp2_with fail
    rw [HW1.out]
    refine HC.out.mono ?_
    rintro e w2 ⟨rfl, hb2⟩
    have HG2 := Lib.hid (HG.out.grow hb2)
    have HA2 := Lib.hid (HA.out.trans (hb2.mono HG.out.sz))
    have e3 : w2.cell? ⟨w.heap.size, 1, none⟩ = some (.int .i64 i) := (HX.out.below' hb2).cell 1
    have HC2 := Lib.hid (rread_any r l c i w2 HG2.out.ru HG2.out.ok HI.out)
    rw [HQ.out] at HC2
    clear hb2 e1
    go_wp2_with fail
    refine HC2.out.mono ?_
    rintro e w3 ⟨rfl, hb3⟩
    have HFIN := Lib.hid (HG2.out.grow hb3)
    have HBF := Lib.hid (HA2.out.trans (hb3.mono HG2.out.sz))
    clear hb3
    go_wp2_with fail
    go_ret
    exact ⟨by simp, ⟨l, c, HFIN.out⟩, HBF.out⟩
  · have hq : rdV l i = .tuple #[.int .u8 0, .bool false, .int .i64 153] := by unfold rdV; rw [if_neg hr]
    have HC := Lib.hid (read_any a l c i w1 HG.out.fu HG.out.ok HI.out)
    rw [hq] at HC
    have HQ := Lib.hid hq
    clear hq hr
    go_enter Try.func12, Try.ntmps12
    go_wp2_with fail
    rw [HW1.out]
    refine HC.out.mono ?_
    rintro e w2 ⟨rfl, hb2⟩
    have HG2 := Lib.hid (HG.out.grow hb2)
    have HA2 := Lib.hid (HA.out.trans (hb2.mono HG.out.sz))
    have e3 : w2.cell? ⟨w.heap.size, 1, none⟩ = some (.int .i64 i) := (HX.out.below' hb2).cell 1
    have HC2 := Lib.hid (rread_any r l c i w2 HG2.out.ru HG2.out.ok HI.out)
    rw [HQ.out] at HC2
    clear hb2 e1
    go_wp2_with fail
    refine HC2.out.mono ?_
    rintro e w3 ⟨rfl, hb3⟩
    have HFIN := Lib.hid (HG2.out.grow hb3)
    have HBF := Lib.hid (HA2.out.trans (hb3.mono HG2.out.sz))
    clear hb3
    go_wp2_with fail
    go_ret
    exact ⟨by simp, ⟨l, c, HFIN.out⟩, HBF.out⟩
set_option maxHeartbeats 6400000 in
theorem step_4 (i n : Int) (v cc : Nat) (base a r : Nat) (l : List (Nat × Bool)) (c : List Nat) (w : World) (h : Good base a r l c w) (hi : I64 i) (hn : I64 n) :
    Calls Try.prog 12 #[.pointer (some ⟨a, 0, none⟩), .pointer (some ⟨r, 0, none⟩), .agg #[.int .i64 4, .int .i64 i, .int .i64 n, .int .u8 (v : Nat), .int .u32 (cc : Nat)]] w (StepOk base a r w) := by
  have ha : Below base w (w.alloc (.cells #[.int .i64 4, .int .i64 i, .int .i64 n, .int .u8 (v : Nat), .int .u32 (cc : Nat)] 34)) := (Below.refl _ _).alloc h.sz _
  have HX := Lib.hid (Blk.new w 34 [.int .i64 4, .int .i64 i, .int .i64 n, .int .u8 (v : Nat), .int .u32 (cc : Nat)])
  have HA := Lib.hid ha
  have HG := Lib.hid (h.grow ((Below.refl _ _).alloc (Nat.le_refl _) (.cells #[.int .i64 4, .int .i64 i, .int .i64 n, .int .u8 (v : Nat), .int .u32 (cc : Nat)] 34)))
  have HI := Lib.hid hi
  have HN := Lib.hid hn
  clear h ha hi hn
  obtain ⟨w1, hw1⟩ : ∃ w1, w.alloc (.cells #[.int .i64 4, .int .i64 i, .int .i64 n, .int .u8 (v : Nat), .int .u32 (cc : Nat)] 34) = w1 := ⟨_, rfl⟩
  have HW1 := Lib.hid hw1
  rw [hw1] at HX HA HG
  have e1 : w1.cell? ⟨w.heap.size, 1, none⟩ = some (.int .i64 i) := HX.out.cell 1
  have e2 : w1.cell? ⟨w.heap.size, 2, none⟩ = some (.int .i64 n) := HX.out.cell 2
  clear hw1
  by_cases hr : 0 ≤ i ∧ i < 4
  · have hq : cnV c i = .tuple #[.int .u32 (c.getD i.toNat 0 : Nat), .int .i64 0] := by unfold cnV; rw [if_pos hr]
    have HC := Lib.hid (counter_any a l c i w1 HG.out.fu HG.out.ok HI.out)
    rw [hq] at HC
    generalize c.getD i.toNat 0 = x at *
    have HQ := Lib.hid hq
    clear hq hr
    go_enter Try.func12, Try.ntmps12
    go_wp2_with fail
    rw [HW1.out]
    refine HC.out.mono ?_
    rintro e w2 ⟨rfl, rfl⟩
    have HG2 := HG
    have HA2 := HA
    have HC2 := Lib.hid (rcounter_any r l c i w1 HG2.out.ru HG2.out.ok HI.out)
    rw [HQ.out] at HC2
    clear HC
    go_wp2_with fail
    refine HC2.out.mono ?_
    rintro e w3 ⟨rfl, rfl⟩
    have HFIN := HG2
    have HBF := HA2
    go_wp2_with fail
    go_ret
    exact ⟨by simp, ⟨l, c, HFIN.out⟩, HBF.out⟩
  · have hq : cnV c i = .tuple #[.int .u32 0, .int .i64 153] := by unfold cnV; rw [if_neg hr]
    have HC := Lib.hid (counter_any a l c i w1 HG.out.fu HG.out.ok HI.out)
    rw [hq] at HC
    have HQ := Lib.hid hq
    clear hq hr
    go_enter Try.func12, Try.ntmps12
    go_wp2_with fail
    rw [HW1.out]
    refine HC.out.mono ?_
    rintro e w2 ⟨rfl, rfl⟩
    have HG2 := HG
    have HA2 := HA
    have HC2 := Lib.hid (rcounter_any r l c i w1 HG2.out.ru HG2.out.ok HI.out)
    rw [HQ.out] at HC2
    clear HC
    go_wp2_with fail
    refine HC2.out.mono ?_
    rintro e w3 ⟨rfl, rfl⟩
    have HFIN := HG2
    have HBF := HA2
    go_wp2_with fail
    go_ret
    exact ⟨by simp, ⟨l, c, HFIN.out⟩, HBF.out⟩
set_option maxHeartbeats 6400000 in
theorem step_0 (kd : Int) (i n : Int) (v cc : Nat) (base a r : Nat) (l : List (Nat × Bool)) (c : List Nat) (w : World) (h : Good base a r l c w) (hi : I64 i) (hn : I64 n) (hkd : kd ≠ 1 ∧ kd ≠ 2 ∧ kd ≠ 3 ∧ kd ≠ 4 ∧ kd ≠ 5) :
    Calls Try.prog 12 #[.pointer (some ⟨a, 0, none⟩), .pointer (some ⟨r, 0, none⟩), .agg #[.int .i64 kd, .int .i64 i, .int .i64 n, .int .u8 (v : Nat), .int .u32 (cc : Nat)]] w (StepOk base a r w) := by
  have ha : Below base w (w.alloc (.cells #[.int .i64 kd, .int .i64 i, .int .i64 n, .int .u8 (v : Nat), .int .u32 (cc : Nat)] 34)) := (Below.refl _ _).alloc h.sz _
  have HX := Lib.hid (Blk.new w 34 [.int .i64 kd, .int .i64 i, .int .i64 n, .int .u8 (v : Nat), .int .u32 (cc : Nat)])
  have HA := Lib.hid ha
  have HG := Lib.hid (h.grow ((Below.refl _ _).alloc (Nat.le_refl _) (.cells #[.int .i64 kd, .int .i64 i, .int .i64 n, .int .u8 (v : Nat), .int .u32 (cc : Nat)] 34)))
  have HI := Lib.hid hi
  have HN := Lib.hid hn
  clear h ha hi hn
  obtain ⟨h1, h2, h3, h4, h5⟩ := hkd
  have t1 : (kd == 1) = false := by simpa using h1
  have t2 : (kd == 2) = false := by simpa using h2
  have t3 : (kd == 3) = false := by simpa using h3
  have t4 : (kd == 4) = false := by simpa using h4
  have t5 : (kd == 5) = false := by simpa using h5
  go_enter Try.func12, Try.ntmps12
  go_wp2_with fail
  go_ret
  exact ⟨rfl, ⟨l, c, HG.out⟩, HA.out⟩
set_option maxHeartbeats 6400000 in
theorem step_3 (i n : Int) (v cc : Nat) (base a r : Nat) (l : List (Nat × Bool)) (c : List Nat) (w : World) (h : Good base a r l c w) (hi : I64 i) (hn : I64 n) :
    Calls Try.prog 12 #[.pointer (some ⟨a, 0, none⟩), .pointer (some ⟨r, 0, none⟩), .agg #[.int .i64 3, .int .i64 i, .int .i64 n, .int .u8 (v : Nat), .int .u32 (cc : Nat)]] w (StepOk base a r w) := by
  have ha : Below base w (w.alloc (.cells #[.int .i64 3, .int .i64 i, .int .i64 n, .int .u8 (v : Nat), .int .u32 (cc : Nat)] 34)) := (Below.refl _ _).alloc h.sz _
  have HX := Lib.hid (Blk.new w 34 [.int .i64 3, .int .i64 i, .int .i64 n, .int .u8 (v : Nat), .int .u32 (cc : Nat)])
  have HA := Lib.hid ha
  have HG := Lib.hid (h.grow ((Below.refl _ _).alloc (Nat.le_refl _) (.cells #[.int .i64 3, .int .i64 i, .int .i64 n, .int .u8 (v : Nat), .int .u32 (cc : Nat)] 34)))
  have HI := Lib.hid hi
  have HN := Lib.hid hn
  clear h ha hi hn
  obtain ⟨w1, hw1⟩ : ∃ w1, w.alloc (.cells #[.int .i64 3, .int .i64 i, .int .i64 n, .int .u8 (v : Nat), .int .u32 (cc : Nat)] 34) = w1 := ⟨_, rfl⟩
  have HW1 := Lib.hid hw1
  rw [hw1] at HX HA HG
  have e1 : w1.cell? ⟨w.heap.size, 1, none⟩ = some (.int .i64 i) := HX.out.cell 1
  have e2 : w1.cell? ⟨w.heap.size, 2, none⟩ = some (.int .i64 n) := HX.out.cell 2
  clear hw1
  by_cases hr : 0 ≤ i ∧ 0 ≤ n ∧ n ≤ 64 - i
  · obtain ⟨p, rfl⟩ : ∃ p : Nat, i = p := ⟨i.toNat, by omega⟩
    obtain ⟨m, rfl⟩ : ∃ m : Nat, n = m := ⟨n.toNat, by omega⟩
    have hpm : p + m ≤ 64 := by omega
    have HPM := Lib.hid hpm
    have HC := Lib.hid (row_ok a l c p m w1 HG.out.fu HG.out.ok hpm)
    have HLL := Lib.hid (rowL_length l p m (by rw [HG.out.ok.ll]; exact hpm))
    have HLB := Lib.hid (rowL_lt HG.out.ok.bl p m)
    clear hr hpm
    go_enter Try.func12, Try.ntmps12
    go_wp2_with fail
    rw [HW1.out]
    refine HC.out.mono ?_
    rintro e w2 ⟨ax, cx, rfl, hox, hb2⟩
    have HG2 := Lib.hid (HG.out.grow hb2)
    have HA2 := Lib.hid (HA.out.trans (hb2.mono HG.out.sz))
    have HSZ := Lib.hid hb2.size
    have e3 : w2.cell? ⟨w.heap.size, 1, none⟩ = some (.int .i64 (p : Nat)) := (HX.out.below' hb2).cell 1
    have e4 : w2.cell? ⟨w.heap.size, 2, none⟩ = some (.int .i64 (m : Nat)) := (HX.out.below' hb2).cell 2
    have HC2 := Lib.hid (rrow_ok r l c p m w2 HG2.out.ru HG2.out.ok HPM.out)
    have HOX := Lib.hid hox
    clear hox hb2 HC e1 e2
    generalize rowL l p m = L at *
    generalize rowA l p m = U at *
    go_wp2_with fail
    refine HC2.out.mono ?_
    rintro e w3 ⟨ay, cy, rfl, hoy, hb3⟩
    have HG3 := Lib.hid (HG2.out.grow hb3)
    have HA3 := Lib.hid (HA2.out.trans (hb3.mono HG2.out.sz))
    have HSZ2 := Lib.hid (Nat.le_trans HSZ.out hb3.size)
    have hox3 := own_below HOX.out hb3
    obtain ⟨_, _, ex, hbx, _⟩ := own_in hox3 HLB.out (by have := HPM.out; omega)
    injection ex with ex1 ex2 ex3
    subst ex1 ex3
    obtain ⟨_, _, ey, hby, _⟩ := own_in hoy HLB.out (by have := HPM.out; omega)
    injection ey with ey1 ey2 ey3
    subst ey1 ey3
    have HS := Lib.hid (sameB_any w3 _ _ _ _ _ _ L L hbx hby)
    have HOX3 := Lib.hid hox3
    have hm64 : (m : Int) ≤ 64 := by have := HPM.out; omega
    rw [show decide (L = L) = true from by simp] at HS
    clear hox3 hoy hb3 hbx hby ex2 ey2 HC2 e3 e4
    go_wp2_with fail
    refine HS.out.mono ?_
    rintro e w4 ⟨rfl, hb4⟩
    have HG4 := Lib.hid (HG3.out.grow hb4)
    have HA4 := Lib.hid (HA3.out.trans (hb4.mono HG3.out.sz))
    have hox4 := own_below HOX3.out hb4
    have hox5 := own_blk2 hox4
    have HO5 := Lib.hid hox5
    have HB41 := Lib.hid (show w1.heap.size ≤ w4.heap.size from Nat.le_trans HSZ2.out hb4.size)
    clear hox4 hox5 hb4 HS
    go_wp2_with fail
    go_loopw [20] (fun v20 wk => ∃ k : Nat, v20 = .int .i64 (k : Nat) ∧ k ≤ m ∧ Good base a r l c wk ∧ Below base w wk ∧ (m = 0 ∨ ∃ g cs, ax = some ⟨g, 0, none⟩ ∧ w1.heap.size ≤ g ∧ Blk wk g 5 cs ∧ ∀ j, k ≤ j → j < m → cs[j]? = some (.int .u8 (L.getD j 0 : Nat)))) (fun v20 _ => m - (intOf v20).toNat)
    case atStart => exact ⟨0, rfl, Nat.zero_le _, HG4.out, HA4.out, by
      rcases HO5.out with h0 | ⟨g, cs, h1, h2, h3, h4⟩
      · exact .inl h0
      · exact .inr ⟨g, cs, h1, h2, h3, fun j _ hj => h4 j hj⟩⟩
    case round =>
      obtain ⟨k, rfl, hk, hgd, hbl, hrow⟩ := hrel
      have HGD := Lib.hid hgd
      have HBL := Lib.hid hbl
      clear hgd hbl
      by_cases hkm : k < m
      · have hkm' : (k : Int) < (m : Int) := by omega
        obtain ⟨g, cs, rfl, hg, hb, hcs⟩ := hrow.resolve_left (by omega)
        have h5 := hcs k (Nat.le_refl _) hkm
        have e5 : wr.cell? ⟨g, k, none⟩ = some (.int .u8 (L.getD k 0 : Nat)) := by rw [hb.cell]; exact h5
        have f5 := hb.free k
        have HB := Lib.hid hb
        have HCS := Lib.hid hcs
        have HGE := Lib.hid hg
        clear hrow hb hcs h5 hg
        go_wp2_with fail
        go_roundw
        case rel => exact ⟨k + 1, by go_num, hkm, HGD.out.other HB.out _ _, grownB HBL.out (grown_setCell wr ⟨g, k, none⟩ _) (Nat.le_trans HG.out.sz HGE.out) HGD.out.sz, .inr ⟨g, _, rfl, HGE.out, HB.out.set k _, fun j hj hjm => by rw [List.getElem?_set_ne (by omega)]; exact HCS.out j (by omega) hjm⟩⟩
        case measure => simp [intOf]; omega
      · obtain rfl : k = m := by omega
        clear hrow hkm
        go_wp2_with fail
        go_ret
        exact ⟨by simp, ⟨l, c, HGD.out⟩, HBL.out⟩
  · have HC := Lib.hid (row_bad a i n w1 HI.out HN.out hr)
    have HC2 := Lib.hid (rrow_bad r i n w1 HI.out HN.out hr)
    have HS := Lib.hid (sameB_any w1 none none 0 0 0 0 [] [] (bin_empty w1 none 0 (Nat.zero_le _) (fun _ => rfl)) (bin_empty w1 none 0 (Nat.zero_le _) (fun _ => rfl)))
    clear hr
    go_enter Try.func12, Try.ntmps12
    go_wp2_with fail
    rw [HW1.out]
    refine HC.out.mono ?_
    rintro e w2 ⟨rfl, rfl⟩
    go_wp2_with fail
    refine HC2.out.mono ?_
    rintro e w2 ⟨rfl, rfl⟩
    go_wp2_with fail
    refine HS.out.mono ?_
    rintro e w4 ⟨rfl, hb4⟩
    have HFIN := Lib.hid (HG.out.grow hb4)
    have HBF := Lib.hid (HA.out.trans (hb4.mono HG.out.sz))
    clear hb4
    go_wp2_with fail
    go_loopw [20] (fun v20 wk => v20 = .int .i64 0 ∧ w4 = wk) (fun _ _ => 0)
    case atStart => exact ⟨rfl, rfl⟩
    case round =>
      obtain ⟨rfl, rfl⟩ := hrel
      go_wp2_with fail
      go_ret
      exact ⟨by simp, ⟨l, c, HFIN.out⟩, HBF.out⟩
end Go.Proofs.Ytcjhjengggfpeaa
