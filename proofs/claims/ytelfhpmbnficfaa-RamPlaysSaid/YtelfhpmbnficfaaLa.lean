/- RamApart: the law's walk. Condition: sizes. -/
import Derived.Test.YtelfhpmbnficfaaOp
import Derived.Test.YtelfhpmbnficfaaPd
import Derived.Test.YtelfhpmbnficfaaDs
import Derived.Test.YtelfhpmbnficfaaAl
namespace Go.Proofs.Ytelfhpmbnficfaa
open Go.RowKit
set_option linter.unusedVariables false
set_option maxRecDepth 100000
set_option linter.unusedSimpArgs false
theorem own_rin {w : World} {base c : Nat} {A : Option Addr} {t : List Reg} (h : w.ownsRow base 34 6 (.slice A t.length c) t.length (cellsD t)) : RIn w A t.length c t := by
  rcases h.2 with ⟨h0, h1⟩ | ⟨g, cap, cur, he, hbg, hg, h1, h2, rest⟩
  · injection h0 with e1 e2 e3
    exact ⟨rfl, fun _ => ⟨e2, e3⟩, .inl e2⟩
  · injection he with e1 e2 e3
    subst e1 e3
    refine ⟨rfl, (fun e => by cases e), .inr ⟨g, 0, rfl, fun j v hj => ?_⟩⟩
    have hjl : j < t.length * 6 := by have := (List.getElem?_eq_some_iff.1 hj).1; rwa [cellsD_length] at this
    have hc := h.cellAt j hjl
    rw [Nat.zero_add, hc, hj]
theorem wpList_grun {P : Program} {ops : Array Oper} {rest : List Oper} {o : Oper} {a : Act} {w : World} {Q : Exit → Act → World → Prop} (hw : Region.wanted o (yielded ops a.tmps) = true) {v : Value} {w' : World} (hrun : (execOp a.eval o).run P w = .ok (.value v) w') (h : wpList P ops Q rest (a.put o.dst v) w') : wpList P ops Q (o :: rest) a w :=
  wpList_step fun K hK => by rw [if_pos hw]; unfold Oper.wp; rw [hrun]; exact hK _ _ h
theorem find_hit (base a : Nat) (m : List Nat) (t : List Reg) (A : Option Addr) (c p b s : Nat) (rd wrt ex sc : Bool) (w : World) (hp : PAt w base a m t A c) (km : MOk m) (kt : TOk t) (hf : fnd t p = some ⟨b, s, rd, wrt, ex, sc⟩) :
    Calls Try.prog 17 #[.pointer (some ⟨a, 0, none⟩), .int .u64 (p : Nat)] w fun e w' => e = .returned (.tuple #[.agg #[.int .u64 (b : Nat), .int .u64 (s : Nat), .bool rd, .bool wrt, .bool ex, .bool sc], .bool true]) ∧ Below w.heap.size w w' := by
  have := find_any base a m t A c p w hp km kt
  rw [hf] at this
  exact this
set_option maxRecDepth 100000 in
set_option maxHeartbeats 12800000 in
theorem apart_walk (P : Option Addr) (np cp : Nat) (os : List OpR) (w : World) (hin : OIn w P np os) (hnp : np ≤ 140737488355328) :
    Calls Try.prog 4 #[.slice P np cp] w fun e w' => e = .returned (.bool true) ∧ Below w.heap.size w w' := by
  have HIN := Lib.hid hin
  clear hin
  go_enter Try.func4, Try.ntmps4
  go_wp2_with fail
  refine (new_any w).mono ?_
  rintro e w1 ⟨rfl, hP, hb⟩
  have HB := Lib.hid hb
  have HP := Lib.hid hP
  clear hb hP
  go_wp2_with fail
  refine (alive_any _).mono ?_
  rintro e w2 ⟨rfl, hb2⟩
  have HB2 := Lib.hid (HB.out.trans (hb2.mono HB.out.size))
  have HP2 := Lib.hid (HP.out.bel hb2)
  clear hb2 HB HP
  go_wp2_with fail
  go_loopw [4] (fun v4 wr => ∃ (i : Nat) (t : List Reg) (A : Option Addr) (c : Nat), v4 = .int .i64 (i : Nat) ∧ i ≤ np ∧ i ≤ 300 ∧ PAt wr w.heap.size w.heap.size m0 t A c ∧ TOk t ∧ Below w.heap.size w wr) (fun v4 _ => 300 - (intOf v4).toNat)
  case atStart => exact ⟨0, [], none, 0, rfl, Nat.zero_le _, Nat.zero_le _, HP2.out, TOk.nil, HB2.out⟩
  case round =>
    obtain ⟨i, t, A, c, rfl, hi, hi2, hpa, hto, hbl⟩ := hrel
    have HPA := Lib.hid hpa
    have HTO := Lib.hid hto
    have HB := Lib.hid hbl
    clear hpa hto hbl HB2 HP2
    by_cases hmn : i < np ∧ i < 300
    · obtain ⟨hmn1, hmn2⟩ := hmn
      have q1 : (i : Int) < (np : Int) := by omega
      have q2 : (i : Int) < 300 := by omega
      obtain ⟨b, off, rfl, hcell⟩ := HIN.out.2.2.resolve_left (by omega)
      obtain ⟨x, hx⟩ : ∃ x, os[i]? = some x := ⟨_, List.getElem?_eq_getElem (by rw [HIN.out.1]; exact hmn1)⟩
      have hc := hcell i x hx
      have hfit := HIN.out.2.1 x (List.mem_of_getElem? hx)
      obtain ⟨kd, ⟨rb, rn, rd, wrt, ex, sc⟩, sec, ac, p, s, B, n, cb, bl⟩ := x
      have HRF := Lib.hid hfit.r
      have HCL := Lib.hid (fun (w9 : World) (hb : Below w.heap.size w w9) j u (h : (OpR.cs ⟨kd, ⟨rb, rn, rd, wrt, ex, sc⟩, sec, ac, p, s, B, n, cb, bl⟩)[j]? = some u) => (hb.cell (World.block_lt_of_cell? w _ (hc j u h))).trans (hc j u h))
      have e0 : wr.cell? ⟨b, off + i * 12, none⟩ = some (.int .i64 kd) := HCL.out wr HB.out 0 _ rfl
      clear hcell hx hc hfit
      by_cases h2 : kd = 2
      · subst h2
        have e9 : wr.cell? ⟨b, off + i * 12 + 9, none⟩ = some (.int .u64 (p : Nat)) := HCL.out wr HB.out 9 _ rfl
        have HD := Lib.hid (drop_any w.heap.size w.heap.size p m0 t A c wr HPA.out m0_ok HTO.out (Nat.le_refl _) HB.out.size)
        obtain ⟨t3, ht3⟩ : ∃ t3, drT t p = t3 := ⟨_, rfl⟩
        have hto3 := drT_ok HTO.out p
        rw [ht3] at HD hto3
        have HT3 := Lib.hid hto3
        clear ht3 hto3
        go_wp2_with fail
        refine HD.out.mono ?_
        rintro e w3 ⟨rfl, ⟨A3, c3, hp3⟩, hf3⟩
        have HP3 := Lib.hid hp3
        have HB3 := Lib.hid (HB.out.trans (hf3.below HB.out.size))
        have HRG := Lib.hid (regions_any w.heap.size w.heap.size m0 t3 A3 c3 w3 hp3 m0_ok HT3.out HB3.out.size)
        clear hp3 hf3 HD e0 e9
        go_wp2_with fail
        refine HRG.out.mono ?_
        rintro e w4 ⟨AL, cL, rfl, hown, hb4⟩
        have HRI := Lib.hid (own_rin hown)
        have HP4 := Lib.hid (HP3.out.bel hb4)
        have HB4 := Lib.hid (HB3.out.trans (hb4.mono HB3.out.size))
        have hl := HT3.out.len
        obtain ⟨n3, hn3⟩ : ∃ n3, t3.length = n3 := ⟨_, rfl⟩
        rw [hn3] at HRI hl
        rw [hn3]
        have HN := Lib.hid hn3
        have hl16 : ¬ (16 : Int) < (n3 : Int) := by omega
        have hl16' : ¬ (n3 : Int) > 16 := by omega
        clear hown hb4 HRG hn3 HB3 HP3
        go_wp2_with fail
        go_loopw [6, 7] (fun v6 v7 wk => ∃ (k fr : Nat), v7 = .int .i64 (k : Nat) ∧ v6 = .int .u64 (fr : Nat) ∧ k ≤ n3 ∧ (∀ y, t3[k]? = some y → fr ≤ y.b) ∧ Gr w4 wk) (fun _ v7 _ => n3 - (intOf v7).toNat)
        case atStart => exact ⟨0, 1073741824, rfl, by rfl, Nat.zero_le _, fun y hy => (HT3.out.ok _ _ hy).lo, Gr.refl _⟩
        case round =>
          obtain ⟨k, fr, rfl, rfl, hk, hfr, hgr⟩ := hrel
          have HG := Lib.hid hgr
          have HFR := Lib.hid hfr
          clear hgr hfr
          by_cases hkn : k < n3
          · have hkI : (k : Int) < (n3 : Int) := by omega
            obtain ⟨y, hy⟩ := ent (t := t3) (j := k) (by rw [HN.out]; exact hkn)
            obtain ⟨g, o, hA, hr⟩ := (HRI.out.gr HG.out).reg k y hy
            subst hA
            have hyok := HT3.out.ok _ _ hy
            have hlo := hyok.lo
            have hhi := hyok.hi
            have hps := hyok.pos
            have hwx := hyok.wx
            have hf1 := HFR.out y hy
            have hfd : fnd t3 (y.b + y.n - 1) = some y := fnd_here HT3.out _ k y hy (decide_eq_true (by omega))
            have HNX := Lib.hid (show ∀ z, t3[k + 1]? = some z → y.b + y.n ≤ z.b from fun z hz => HT3.out.so _ _ _ _ hy hz (by omega))
            obtain ⟨yb, yn, yr, yw, yx, ys⟩ := y
            simp only at hlo hhi hps hwx hf1 hfd HNX
            have HR := Lib.hid hr
            obtain ⟨f0, f1, f2, f3, f4, f5⟩ := reg6 hr
            obtain ⟨d, hd⟩ : ∃ d, yb - 1073741824 = d := ⟨_, rfl⟩
            obtain ⟨s2, hs2⟩ : ∃ s2, yb + yn = s2 := ⟨_, rfl⟩
            have a1 : IntKind.u64.wrap ((yb : Int) - 1073741824) = (d : Int) := u64w (by omega) (by omega)
            have a2 : ¬ (yb : Int) < (fr : Int) := by omega
            have a3 : ((yn : Int) == 0) = false := by simp; omega
            have a4 : ¬ (65536 : Int) ≤ (d : Int) := by omega
            obtain ⟨q, hq⟩ : ∃ q, 65536 - d = q := ⟨_, rfl⟩
            have a5 : IntKind.u64.wrap ((65536 : Int) - (d : Int)) = (q : Int) := u64w (by omega) (by omega)
            have a6 : ¬ (q : Int) < (yn : Int) := by omega
            have a7 : IntKind.u64.wrap ((yb : Int) + (yn : Int)) = (s2 : Int) := u64w (by omega) (by omega)
            obtain ⟨l, hl0⟩ : ∃ l, s2 - 1 = l := ⟨_, rfl⟩
            have a8 : IntKind.u64.wrap ((s2 : Int) - 1) = (l : Int) := u64w (by omega) (by omega)
            rw [hs2, hl0] at hfd
            rw [hs2] at HNX
            have HFA := Lib.hid (fun wz (hz : Gr w4 wz) => find_hit w.heap.size w.heap.size m0 t3 A3 c3 l yb yn yr yw yx ys wz (HP4.out.bel hz) m0_ok HT3.out hfd)
            have hcase : yw = false ∨ (yw = true ∧ yx = false) := by cases yw <;> cases yx <;> simp_all
            have HC := Lib.hid hcase
            clear hy hr hyok hlo hhi hps hwx hf1 hd hs2 hq hl0 hfd hcase HFR
            rcases HC.out with rfl | ⟨rfl, rfl⟩
            · go_wp2_with fail
              refine (HFA.out _ (HG.out.trans (Gr.alloc _ _))).mono ?_
              rintro e w6 ⟨rfl, hb6⟩
              have HX6 := Lib.hid ((Blk.new wr 34 (regD ⟨yb, yn, yr, false, yx, ys⟩)).below' hb6)
              have HG6 := Lib.hid (Gr.trans (HG.out.trans (Gr.alloc _ _)) hb6)
              clear hb6 f0 f1 f2 f3 f4 f5
              go_upto_region 22 with (fail)
              have HX7 := Lib.hid (HX6.out.alloc (.cells (regD ⟨yb, yn, yr, false, yx, ys⟩).toArray 34))
              have HY7 := Lib.hid (Blk.new w6 34 (regD ⟨yb, yn, yr, false, yx, ys⟩))
              have HG7 := Lib.hid (Gr.trans HG6.out (Gr.alloc w6 (.cells (regD ⟨yb, yn, yr, false, yx, ys⟩).toArray 34)))
              obtain ⟨w7, hw7⟩ : ∃ w7, w6.alloc (.cells (regD ⟨yb, yn, yr, false, yx, ys⟩).toArray 34) = w7 := ⟨_, rfl⟩
              have hw7' : w6.alloc (.cells #[.int .u64 (yb : Nat), .int .u64 (yn : Nat), .bool yr, .bool false, .bool yx, .bool ys] 34) = w7 := hw7
              rw [hw7] at HX7 HY7 HG7
              try rw [hw7']
              clear hw7 hw7' HX6 HG6
              obtain ⟨g0, g1, g2, g3, g4, g5⟩ := reg6 (blk_part (a := []) (b := regD ⟨yb, yn, yr, false, yx, ys⟩) (c := []) (k := 0) HX7.out rfl)
              obtain ⟨k0, k1, k2, k3, k4, k5⟩ := reg6 (blk_part (a := []) (b := regD ⟨yb, yn, yr, false, yx, ys⟩) (c := []) (k := 0) HY7.out rfl)
              simp only [Nat.zero_add] at g1 g2 g3 g4 g5 k1 k2 k3 k4 k5
              go_wp2_with (refine wpList_grun (by rfl) (exec_eqs (u := (regD ⟨yb, yn, yr, false, yx, ys⟩).toArray) (v := (regD ⟨yb, yn, yr, false, yx, ys⟩).toArray) rfl rfl rfl grdReg (neqReg ⟨yb, yn, yr, false, yx, ys⟩ w7)) ?_)
              go_roundw
              case rel => exact ⟨k + 1, s2, by go_num, rfl, by omega, HNX.out, HG7.out⟩
              case measure => simp [intOf]; omega
            · go_wp2_with fail
              refine (HFA.out _ (HG.out.trans (Gr.alloc _ _))).mono ?_
              rintro e w6 ⟨rfl, hb6⟩
              have HX6 := Lib.hid ((Blk.new wr 34 (regD ⟨yb, yn, yr, true, false, ys⟩)).below' hb6)
              have HG6 := Lib.hid (Gr.trans (HG.out.trans (Gr.alloc _ _)) hb6)
              clear hb6 f0 f1 f2 f3 f4 f5
              go_upto_region 22 with (fail)
              have HX7 := Lib.hid (HX6.out.alloc (.cells (regD ⟨yb, yn, yr, true, false, ys⟩).toArray 34))
              have HY7 := Lib.hid (Blk.new w6 34 (regD ⟨yb, yn, yr, true, false, ys⟩))
              have HG7 := Lib.hid (Gr.trans HG6.out (Gr.alloc w6 (.cells (regD ⟨yb, yn, yr, true, false, ys⟩).toArray 34)))
              obtain ⟨w7, hw7⟩ : ∃ w7, w6.alloc (.cells (regD ⟨yb, yn, yr, true, false, ys⟩).toArray 34) = w7 := ⟨_, rfl⟩
              have hw7' : w6.alloc (.cells #[.int .u64 (yb : Nat), .int .u64 (yn : Nat), .bool yr, .bool true, .bool false, .bool ys] 34) = w7 := hw7
              rw [hw7] at HX7 HY7 HG7
              try rw [hw7']
              clear hw7 hw7' HX6 HG6
              obtain ⟨g0, g1, g2, g3, g4, g5⟩ := reg6 (blk_part (a := []) (b := regD ⟨yb, yn, yr, true, false, ys⟩) (c := []) (k := 0) HX7.out rfl)
              obtain ⟨k0, k1, k2, k3, k4, k5⟩ := reg6 (blk_part (a := []) (b := regD ⟨yb, yn, yr, true, false, ys⟩) (c := []) (k := 0) HY7.out rfl)
              simp only [Nat.zero_add] at g1 g2 g3 g4 g5 k1 k2 k3 k4 k5
              go_wp2_with (refine wpList_grun (by rfl) (exec_eqs (u := (regD ⟨yb, yn, yr, true, false, ys⟩).toArray) (v := (regD ⟨yb, yn, yr, true, false, ys⟩).toArray) rfl rfl rfl grdReg (neqReg ⟨yb, yn, yr, true, false, ys⟩ w7)) ?_)
              go_roundw
              case rel => exact ⟨k + 1, s2, by go_num, rfl, by omega, HNX.out, HG7.out⟩
              case measure => simp [intOf]; omega
          · obtain rfl : k = n3 := by omega
            clear hkn
            go_wp2_with fail
            go_roundw
            case rel => exact ⟨i + 1, t3, A3, c3, by go_num, by omega, by omega, HP4.out.bel HG.out, HT3.out, HB4.out.trans (HG.out.mono HB4.out.size)⟩
            case measure => simp [intOf]; omega
      · have t2 : (kd == 2) = false := by simpa using h2
        have e1 : wr.cell? ⟨b, off + i * 12 + 1, none⟩ = some (.int .u64 (rb : Nat)) := HCL.out wr HB.out 1 _ rfl
        have e2 : wr.cell? ⟨b, off + i * 12 + 2, none⟩ = some (.int .u64 (rn : Nat)) := HCL.out wr HB.out 2 _ rfl
        have e3 : wr.cell? ⟨b, off + i * 12 + 3, none⟩ = some (.bool rd) := HCL.out wr HB.out 3 _ rfl
        have e4 : wr.cell? ⟨b, off + i * 12 + 4, none⟩ = some (.bool wrt) := HCL.out wr HB.out 4 _ rfl
        have e5 : wr.cell? ⟨b, off + i * 12 + 5, none⟩ = some (.bool ex) := HCL.out wr HB.out 5 _ rfl
        have e6 : wr.cell? ⟨b, off + i * 12 + 6, none⟩ = some (.bool sc) := HCL.out wr HB.out 6 _ rfl
        have hd : Calls Try.prog 16 #[.pointer (some ⟨w.heap.size, 0, none⟩), .agg #[.int .u64 (rb : Nat), .int .u64 (rn : Nat), .bool rd, .bool wrt, .bool ex, .bool sc]] wr _ := add_any w.heap.size w.heap.size ⟨rb, rn, rd, wrt, ex, sc⟩ m0 t A c wr HPA.out m0_ok HTO.out (Nat.le_refl _) HB.out.size HRF.out
        obtain ⟨t3, ht3⟩ : ∃ t3, addT t ⟨rb, rn, rd, wrt, ex, sc⟩ = t3 := ⟨_, rfl⟩
        have hto3 := addT_ok HTO.out ⟨rb, rn, rd, wrt, ex, sc⟩
        rw [ht3] at hd hto3
        have HD := Lib.hid hd
        have HT3 := Lib.hid hto3
        clear ht3 hto3 hd
        go_wp2_with fail
        refine HD.out.mono ?_
        rintro e w3 ⟨rfl, ⟨A3, c3, hp3⟩, hf3⟩
        have HP3 := Lib.hid hp3
        have HB3 := Lib.hid (HB.out.trans (hf3.below HB.out.size))
        have HRG := Lib.hid (regions_any w.heap.size w.heap.size m0 t3 A3 c3 w3 hp3 m0_ok HT3.out HB3.out.size)
        clear hp3 hf3 HD e0 e1 e2 e3 e4 e5 e6
        go_wp2_with fail
        refine HRG.out.mono ?_
        rintro e w4 ⟨AL, cL, rfl, hown, hb4⟩
        have HRI := Lib.hid (own_rin hown)
        have HP4 := Lib.hid (HP3.out.bel hb4)
        have HB4 := Lib.hid (HB3.out.trans (hb4.mono HB3.out.size))
        have hl := HT3.out.len
        obtain ⟨n3, hn3⟩ : ∃ n3, t3.length = n3 := ⟨_, rfl⟩
        rw [hn3] at HRI hl
        rw [hn3]
        have HN := Lib.hid hn3
        have hl16 : ¬ (16 : Int) < (n3 : Int) := by omega
        have hl16' : ¬ (n3 : Int) > 16 := by omega
        clear hown hb4 HRG hn3 HB3 HP3
        go_wp2_with fail
        go_loopw [6, 7] (fun v6 v7 wk => ∃ (k fr : Nat), v7 = .int .i64 (k : Nat) ∧ v6 = .int .u64 (fr : Nat) ∧ k ≤ n3 ∧ (∀ y, t3[k]? = some y → fr ≤ y.b) ∧ Gr w4 wk) (fun _ v7 _ => n3 - (intOf v7).toNat)
        case atStart => exact ⟨0, 1073741824, rfl, by rfl, Nat.zero_le _, fun y hy => (HT3.out.ok _ _ hy).lo, Gr.refl _⟩
        case round =>
          obtain ⟨k, fr, rfl, rfl, hk, hfr, hgr⟩ := hrel
          have HG := Lib.hid hgr
          have HFR := Lib.hid hfr
          clear hgr hfr
          by_cases hkn : k < n3
          · have hkI : (k : Int) < (n3 : Int) := by omega
            obtain ⟨y, hy⟩ := ent (t := t3) (j := k) (by rw [HN.out]; exact hkn)
            obtain ⟨g, o, hA, hr⟩ := (HRI.out.gr HG.out).reg k y hy
            subst hA
            have hyok := HT3.out.ok _ _ hy
            have hlo := hyok.lo
            have hhi := hyok.hi
            have hps := hyok.pos
            have hwx := hyok.wx
            have hf1 := HFR.out y hy
            have hfd : fnd t3 (y.b + y.n - 1) = some y := fnd_here HT3.out _ k y hy (decide_eq_true (by omega))
            have HNX := Lib.hid (show ∀ z, t3[k + 1]? = some z → y.b + y.n ≤ z.b from fun z hz => HT3.out.so _ _ _ _ hy hz (by omega))
            obtain ⟨yb, yn, yr, yw, yx, ys⟩ := y
            simp only at hlo hhi hps hwx hf1 hfd HNX
            have HR := Lib.hid hr
            obtain ⟨f0, f1, f2, f3, f4, f5⟩ := reg6 hr
            obtain ⟨d, hd⟩ : ∃ d, yb - 1073741824 = d := ⟨_, rfl⟩
            obtain ⟨s2, hs2⟩ : ∃ s2, yb + yn = s2 := ⟨_, rfl⟩
            have a1 : IntKind.u64.wrap ((yb : Int) - 1073741824) = (d : Int) := u64w (by omega) (by omega)
            have a2 : ¬ (yb : Int) < (fr : Int) := by omega
            have a3 : ((yn : Int) == 0) = false := by simp; omega
            have a4 : ¬ (65536 : Int) ≤ (d : Int) := by omega
            obtain ⟨q, hq⟩ : ∃ q, 65536 - d = q := ⟨_, rfl⟩
            have a5 : IntKind.u64.wrap ((65536 : Int) - (d : Int)) = (q : Int) := u64w (by omega) (by omega)
            have a6 : ¬ (q : Int) < (yn : Int) := by omega
            have a7 : IntKind.u64.wrap ((yb : Int) + (yn : Int)) = (s2 : Int) := u64w (by omega) (by omega)
            obtain ⟨l, hl0⟩ : ∃ l, s2 - 1 = l := ⟨_, rfl⟩
            have a8 : IntKind.u64.wrap ((s2 : Int) - 1) = (l : Int) := u64w (by omega) (by omega)
            rw [hs2, hl0] at hfd
            rw [hs2] at HNX
            have HFA := Lib.hid (fun wz (hz : Gr w4 wz) => find_hit w.heap.size w.heap.size m0 t3 A3 c3 l yb yn yr yw yx ys wz (HP4.out.bel hz) m0_ok HT3.out hfd)
            have hcase : yw = false ∨ (yw = true ∧ yx = false) := by cases yw <;> cases yx <;> simp_all
            have HC := Lib.hid hcase
            clear hy hr hyok hlo hhi hps hwx hf1 hd hs2 hq hl0 hfd hcase HFR
            rcases HC.out with rfl | ⟨rfl, rfl⟩
            · go_wp2_with fail
              refine (HFA.out _ (HG.out.trans (Gr.alloc _ _))).mono ?_
              rintro e w6 ⟨rfl, hb6⟩
              have HX6 := Lib.hid ((Blk.new wr 34 (regD ⟨yb, yn, yr, false, yx, ys⟩)).below' hb6)
              have HG6 := Lib.hid (Gr.trans (HG.out.trans (Gr.alloc _ _)) hb6)
              clear hb6 f0 f1 f2 f3 f4 f5
              go_upto_region 22 with (fail)
              have HX7 := Lib.hid (HX6.out.alloc (.cells (regD ⟨yb, yn, yr, false, yx, ys⟩).toArray 34))
              have HY7 := Lib.hid (Blk.new w6 34 (regD ⟨yb, yn, yr, false, yx, ys⟩))
              have HG7 := Lib.hid (Gr.trans HG6.out (Gr.alloc w6 (.cells (regD ⟨yb, yn, yr, false, yx, ys⟩).toArray 34)))
              obtain ⟨w7, hw7⟩ : ∃ w7, w6.alloc (.cells (regD ⟨yb, yn, yr, false, yx, ys⟩).toArray 34) = w7 := ⟨_, rfl⟩
              have hw7' : w6.alloc (.cells #[.int .u64 (yb : Nat), .int .u64 (yn : Nat), .bool yr, .bool false, .bool yx, .bool ys] 34) = w7 := hw7
              rw [hw7] at HX7 HY7 HG7
              try rw [hw7']
              clear hw7 hw7' HX6 HG6
              obtain ⟨g0, g1, g2, g3, g4, g5⟩ := reg6 (blk_part (a := []) (b := regD ⟨yb, yn, yr, false, yx, ys⟩) (c := []) (k := 0) HX7.out rfl)
              obtain ⟨k0, k1, k2, k3, k4, k5⟩ := reg6 (blk_part (a := []) (b := regD ⟨yb, yn, yr, false, yx, ys⟩) (c := []) (k := 0) HY7.out rfl)
              simp only [Nat.zero_add] at g1 g2 g3 g4 g5 k1 k2 k3 k4 k5
              go_wp2_with (refine wpList_grun (by rfl) (exec_eqs (u := (regD ⟨yb, yn, yr, false, yx, ys⟩).toArray) (v := (regD ⟨yb, yn, yr, false, yx, ys⟩).toArray) rfl rfl rfl grdReg (neqReg ⟨yb, yn, yr, false, yx, ys⟩ w7)) ?_)
              go_roundw
              case rel => exact ⟨k + 1, s2, by go_num, rfl, by omega, HNX.out, HG7.out⟩
              case measure => simp [intOf]; omega
            · go_wp2_with fail
              refine (HFA.out _ (HG.out.trans (Gr.alloc _ _))).mono ?_
              rintro e w6 ⟨rfl, hb6⟩
              have HX6 := Lib.hid ((Blk.new wr 34 (regD ⟨yb, yn, yr, true, false, ys⟩)).below' hb6)
              have HG6 := Lib.hid (Gr.trans (HG.out.trans (Gr.alloc _ _)) hb6)
              clear hb6 f0 f1 f2 f3 f4 f5
              go_upto_region 22 with (fail)
              have HX7 := Lib.hid (HX6.out.alloc (.cells (regD ⟨yb, yn, yr, true, false, ys⟩).toArray 34))
              have HY7 := Lib.hid (Blk.new w6 34 (regD ⟨yb, yn, yr, true, false, ys⟩))
              have HG7 := Lib.hid (Gr.trans HG6.out (Gr.alloc w6 (.cells (regD ⟨yb, yn, yr, true, false, ys⟩).toArray 34)))
              obtain ⟨w7, hw7⟩ : ∃ w7, w6.alloc (.cells (regD ⟨yb, yn, yr, true, false, ys⟩).toArray 34) = w7 := ⟨_, rfl⟩
              have hw7' : w6.alloc (.cells #[.int .u64 (yb : Nat), .int .u64 (yn : Nat), .bool yr, .bool true, .bool false, .bool ys] 34) = w7 := hw7
              rw [hw7] at HX7 HY7 HG7
              try rw [hw7']
              clear hw7 hw7' HX6 HG6
              obtain ⟨g0, g1, g2, g3, g4, g5⟩ := reg6 (blk_part (a := []) (b := regD ⟨yb, yn, yr, true, false, ys⟩) (c := []) (k := 0) HX7.out rfl)
              obtain ⟨k0, k1, k2, k3, k4, k5⟩ := reg6 (blk_part (a := []) (b := regD ⟨yb, yn, yr, true, false, ys⟩) (c := []) (k := 0) HY7.out rfl)
              simp only [Nat.zero_add] at g1 g2 g3 g4 g5 k1 k2 k3 k4 k5
              go_wp2_with (refine wpList_grun (by rfl) (exec_eqs (u := (regD ⟨yb, yn, yr, true, false, ys⟩).toArray) (v := (regD ⟨yb, yn, yr, true, false, ys⟩).toArray) rfl rfl rfl grdReg (neqReg ⟨yb, yn, yr, true, false, ys⟩ w7)) ?_)
              go_roundw
              case rel => exact ⟨k + 1, s2, by go_num, rfl, by omega, HNX.out, HG7.out⟩
              case measure => simp [intOf]; omega
          · obtain rfl : k = n3 := by omega
            clear hkn
            go_wp2_with fail
            go_roundw
            case rel => exact ⟨i + 1, t3, A3, c3, by go_num, by omega, by omega, HP4.out.bel HG.out, HT3.out, HB4.out.trans (HG.out.mono HB4.out.size)⟩
            case measure => simp [intOf]; omega
    · have HE := Lib.hid (show i = np ∨ (i = 300 ∧ 300 < np) by omega)
      rcases HE.out with hq | ⟨hq1, hq2⟩
      · have q1 : ¬ (i : Int) < (np : Int) := by omega
        clear hmn
        go_wp2_with fail
        go_ret
        exact ⟨rfl, HB.out⟩
      · subst hq1
        have q1 : (300 : Int) < (np : Int) := by omega
        clear hmn
        go_wp2_with fail
        go_ret
        exact ⟨rfl, HB.out⟩
end Go.Proofs.Ytelfhpmbnficfaa
