/- FuseNeverBack: the law's walk. Condition: sizes. -/
import Derived.Test.YtcjhjengggfpeaaOp
import Derived.Test.YtcjhjengggfpeaaLa
import Derived.Deep.CutRange
namespace Go.Proofs.Ytcjhjengggfpeaa
open Go.RowKit
set_option linter.unusedVariables false
set_option maxRecDepth 100000
set_option linter.unusedSimpArgs false
set_option maxRecDepth 100000 in
set_option maxHeartbeats 12800000 in
theorem back_walk (P : Option Addr) (np cp : Nat) (os : List OpR) (w : World) (hin : OIn w P np os) (hnp : np ≤ 140737488355328) :
    Calls Try.prog 4 #[.slice P np cp] w fun e w' => e = .returned (.bool true) ∧ Below w.heap.size w w' := by
  have HIN := Lib.hid hin
  clear hin
  go_enter Try.func4, Try.ntmps4
  go_wp2_with fail
  refine (new_any w).mono ?_
  rintro e w1 ⟨rfl, hF, hb⟩
  have HB := Lib.hid hb
  have HF := Lib.hid hF
  clear hb hF
  go_wp2_with fail
  refine (alive_any w1).mono ?_
  rintro e w2 ⟨rfl, hb2⟩
  have HB2 := Lib.hid (HB.out.trans (hb2.mono HB.out.size))
  have HF2 := Lib.hid (show FuAt w2 w.heap.size l0 c0 from Blk.below' HF.out hb2)
  clear hb2 HB HF
  go_wp2_with fail
  go_loopw [3, 6] (fun v3 v6 wr => ∃ (g m : Nat) (l : List (Nat × Bool)) (c : List Nat), v3 = .pointer (some ⟨g, 0, none⟩) ∧ v6 = .int .i64 (m : Nat) ∧ m ≤ np ∧ m ≤ 2000 ∧ NB w w.heap.size w2.heap.size (w2.heap.size + 1) g l l c c (l.map wasN) c wr) (fun _ v6 _ => 2000 - (intOf v6).toNat)
  case atStart =>
    have hz := HB2.out.size
    have hbl := (HB2.out.alloc hz (.cells (natsV .i64 (l0.map wasN)).toArray 45)).alloc (by simp; omega) (.cells (natsV .u32 c0).toArray 29)
    have hba := (Blk.new w2 45 (natsV .i64 (l0.map wasN))).alloc (.cells (natsV .u32 c0).toArray 29)
    have hbc := Blk.new2 w2 (.cells (natsV .i64 (l0.map wasN)).toArray 45) 29 (natsV .u32 c0)
    have hbf : FuAt ((w2.alloc (.cells (natsV .i64 (l0.map wasN)).toArray 45)).alloc (.cells (natsV .u32 c0).toArray 29)) w.heap.size l0 c0 := (Blk.alloc HF2.out _).alloc _
    exact ⟨w.heap.size, 0, l0, c0, rfl, rfl, Nat.zero_le _, Nat.zero_le _, ⟨hbf, ok0, un0, Bk.refl _ _, Nat.le_refl _, hba, hbc, hz, by omega, hbl, Nat.le_refl _⟩⟩
  case round =>
    obtain ⟨g, m, l, c, rfl, rfl, hm, hm2, hnb⟩ := hrel
    have HNB := Lib.hid hnb
    clear hnb HB2 HF2
    obtain ⟨bw, hbw⟩ : ∃ bw, w2.heap.size = bw := ⟨_, rfl⟩
    obtain ⟨bc, hbc⟩ : ∃ bc, w2.heap.size + 1 = bc := ⟨_, rfl⟩
    have HBW := Lib.hid hbw
    have HBC := Lib.hid hbc
    rw [hbc, hbw] at HNB
    rw [hbc, hbw]
    clear hbw hbc
    by_cases hmn : m < np ∧ m < 2000
    · obtain ⟨hmn1, hmn2⟩ := hmn
      have q1 : (m : Int) < (np : Int) := by omega
      have q2 : (m : Int) < 2000 := by omega
      obtain ⟨b, off, rfl, hcell⟩ := HIN.out.2.2.resolve_left (by omega)
      obtain ⟨x, hx⟩ : ∃ x, os[m]? = some x := ⟨_, List.getElem?_eq_getElem (by rw [HIN.out.1]; exact hmn1)⟩
      have hc := hcell m x hx
      have hfit := HIN.out.2.1 x (List.mem_of_getElem? hx)
      obtain ⟨kd, i, n, v, cc⟩ := x
      obtain ⟨hkd, hi, hn, hv, hcc⟩ := hfit
      simp only at hkd hi hn hv hcc
      have HI := Lib.hid hi
      have HN := Lib.hid hn
      have HV := Lib.hid hv
      have HCC := Lib.hid hcc
      have hbel := HNB.out.bl
      have hcl := fun j u (h : (OpR.cs ⟨kd, i, n, v, cc⟩)[j]? = some u) => (hbel.cell (World.block_lt_of_cell? w _ (hc j u h))).trans (hc j u h)
      have e0 : wr.cell? ⟨b, off + m * 5, none⟩ = some (.int .i64 kd) := hcl 0 _ rfl
      have e1 : wr.cell? ⟨b, off + m * 5 + 1, none⟩ = some (.int .i64 i) := hcl 1 _ rfl
      have e2 : wr.cell? ⟨b, off + m * 5 + 2, none⟩ = some (.int .i64 n) := hcl 2 _ rfl
      have e3 : wr.cell? ⟨b, off + m * 5 + 3, none⟩ = some (.int .u8 (v : Nat)) := hcl 3 _ rfl
      have e4 : wr.cell? ⟨b, off + m * 5 + 4, none⟩ = some (.int .u32 (cc : Nat)) := hcl 4 _ rfl
      clear hcell hx hc hbel hcl hkd hi hn hv hcc
      have HX := Lib.hid (Blk.new wr 34 [.int .i64 kd, .int .i64 i, .int .i64 n, .int .u8 (v : Nat), .int .u32 (cc : Nat)])
      have HN1 := Lib.hid (HNB.out.grow ((Below.refl _ _).alloc (Nat.le_refl _) (.cells #[.int .i64 kd, .int .i64 i, .int .i64 n, .int .u8 (v : Nat), .int .u32 (cc : Nat)] 34)))
      obtain ⟨w3, hw3⟩ : ∃ w3, wr.alloc (.cells #[.int .i64 kd, .int .i64 i, .int .i64 n, .int .u8 (v : Nat), .int .u32 (cc : Nat)] 34) = w3 := ⟨_, rfl⟩
      have HW3 := Lib.hid hw3
      rw [hw3] at HX HN1
      clear hw3
      by_cases h1 : kd = 1
      · subst h1
        have HBU := Lib.hid (burn_any g l c i v w3 HN1.out.fu HN1.out.ok HI.out)
        go_wp2_with fail
        rw [HW3.out]
        refine HBU.out.mono ?_
        rintro e w4 ⟨rfl, hf4, hg4⟩
        have HNY := Lib.hid (HN1.out.turn hf4 (burn_ok HN1.out.ok i v HV.out) (burn_un HN1.out.un HN1.out.ok.ll i v) (burn_bk HN1.out.ok.ll c i v) hg4)
        have hx4 := (HX.out.grown hg4 (fun e => by injection e with e; exact blk_ne HX.out HN1.out.fu (by decide) e)).cell 1
        simp only [List.getElem?_cons_succ, List.getElem?_cons_zero] at hx4
        clear hf4 hg4 e0 e1 e2 e3 e4
        go_upto_region 14 with (fail)
        go_cut [63] from 23 to 143 (fun v63 wx => v63 = .bool false ∧ w4 = wx)
        case first =>
          by_cases hr : 0 ≤ i ∧ i < 64
          · have t1 : decide (i < 0) = false := by simp only [decide_eq_false_iff_not]; omega
            have t2 : decide (64 ≤ i) = false := by simp only [decide_eq_false_iff_not]; omega
            have t3 : (burnE l i == 153) = false := by unfold burnE; rw [if_pos hr]; split <;> rfl
            go_wp2_with fail
            go_meet
            case rel => exact ⟨rfl, rfl⟩
          · have t3 : (burnE l i == 153) = true := by unfold burnE; rw [if_neg hr]; rfl
            by_cases h0 : i < 0
            · have t1 : decide (i < 0) = true := by simpa using h0
              go_wp2_with fail
              go_meet
              case rel => exact ⟨rfl, rfl⟩
            · have t1 : decide (i < 0) = false := by simpa using h0
              have t2 : decide (64 ≤ i) = true := by simp only [decide_eq_true_eq]; omega
              go_wp2_with fail
              go_meet
              case rel => exact ⟨rfl, rfl⟩
        case rest =>
          obtain ⟨rfl, rfl⟩ := hcut
          clear hx4
          obtain ⟨l2, c2, hnx⟩ := HNY.out.ex
          have HNZ := Lib.hid hnx
          clear hnx HNY
          have HLW := Lib.hid (show (l2.map wasN).length = (l.map wasN).length by rw [List.length_map, List.length_map, HNZ.out.ok.ll, HNB.out.ok.ll])
          have HLC := Lib.hid (show c2.length = c.length by rw [HNZ.out.ok.lc, HNB.out.ok.lc])
          go_wp2_with fail
          go_loopw [9] (fun v9 wk => ∃ k : Nat, v9 = .int .i64 (k : Nat) ∧ k ≤ 64 ∧ NB w w.heap.size bw bc g l l2 c c2 (mix (l2.map wasN) (l.map wasN) k) c wk) (fun v9 _ => 64 - (intOf v9).toNat)
          case atStart => exact ⟨0, rfl, Nat.zero_le _, by rw [mix_zero]; exact HNZ.out⟩
          case round =>
            obtain ⟨k, rfl, hk, hnk⟩ := hrel
            have HNK := Lib.hid hnk
            clear hnk
            by_cases hk64 : k < 64
            · have hk6 : (k : Int) < 64 := by omega
              have HRD := Lib.hid (read_any g l2 c2 k wr HNK.out.fu HNK.out.ok (by unfold I64; omega))
              have hrd : rdV l2 k = .tuple #[.int .u8 ((l2.getD k (0, false)).1 : Nat), .bool (l2.getD k (0, false)).2, .int .i64 0] := by unfold rdV; rw [if_pos (by omega)]; rfl
              rw [hrd] at HRD
              have hmg := mix_get HLW.out k (by rw [List.length_map, HNB.out.ok.ll]; exact hk64)
              have hms := mix_set HLW.out k (by rw [List.length_map, HNB.out.ok.ll]; exact hk64)
              have hmm := fun e => mix_same HLW.out k (by rw [List.length_map, HNB.out.ok.ll]; exact hk64) e
              rw [getD_map l k (by rw [HNB.out.ok.ll]; exact hk64)] at hmg hmm
              rw [getD_map l2 k (by rw [HNZ.out.ok.ll]; exact hk64)] at hms hmm
              have hbk := HNZ.out.bk.1 k
              have hun := HNZ.out.un k
              have hxb := HNZ.out.ok.at k
              obtain ⟨p, hp⟩ : ∃ p, l.getD k (0, false) = p := ⟨_, rfl⟩
              obtain ⟨p2, hp2⟩ : ∃ p2, l2.getD k (0, false) = p2 := ⟨_, rfl⟩
              rw [hp] at hbk hmg hmm
              rw [hp2] at hbk hun hms hmm hxb HRD
              obtain ⟨px, pu⟩ := p
              obtain ⟨px2, pu2⟩ := p2
              clear hp hp2 hrd
              cases pu
              · have hz : wasN (px, false) = 0 := rfl
                rw [hz] at hmg hmm
                have HMG := Lib.hid hmg
                cases pu2
                · obtain rfl : px2 = 0 := hun rfl
                  have HMM := Lib.hid (hmm rfl)
                  clear hmg hms hmm hbk hun hz
                  go_wp2_with fail
                  refine HRD.out.mono ?_
                  rintro e w5 ⟨rfl, hb5⟩
                  have HN5 := Lib.hid (HNK.out.grow hb5)
                  have g5 := HN5.out.cellW k 0 HMG.out
                  clear hb5
                  go_wp2_with fail
                  go_roundw
                  case rel => exact ⟨k + 1, by go_num, by omega, by rw [HMM.out]; exact HN5.out⟩
                  case measure => simp [intOf]; omega
                · have hs : wasN (px2, true) = px2 + 1 := rfl
                  rw [hs] at hms
                  have HMS := Lib.hid hms
                  clear hmg hms hmm hbk hun hz hs
                  go_wp2_with fail
                  refine HRD.out.mono ?_
                  rintro e w5 ⟨rfl, hb5⟩
                  have HN5 := Lib.hid (HNK.out.grow hb5)
                  have g5 := HN5.out.cellW k 0 HMG.out
                  have f5 := HN5.out.wa.free k
                  have HN6 := Lib.hid (HN5.out.setW k (px2 + 1))
                  have bx : (px2 : Int) ≤ 255 := by omega
                  clear hb5
                  go_wp2_with fail
                  go_roundw
                  case rel => exact ⟨k + 1, by go_num, by omega, by rw [← HMS.out]; exact HN6.out⟩
                  case measure => simp [intOf]; omega
              · have hpp := hbk rfl
                injection hpp with h1 h2
                subst h1 h2
                have hs : wasN (px2, true) = px2 + 1 := rfl
                rw [hs] at hms hmg
                have HMS := Lib.hid hms
                have HMG := Lib.hid hmg
                clear hmg hms hmm hbk hun hs
                go_wp2_with fail
                refine HRD.out.mono ?_
                rintro e w5 ⟨rfl, hb5⟩
                have HN5 := Lib.hid (HNK.out.grow hb5)
                have g5 : w5.cell? ⟨bw, k, none⟩ = some (.int .i64 ((px2 : Int) + 1)) := HN5.out.cellW k (px2 + 1) HMG.out
                have f5 := HN5.out.wa.free k
                have HN6 := Lib.hid (HN5.out.setW k (px2 + 1))
                have bx : (px2 : Int) ≤ 255 := by omega
                have bx0 : (0 : Int) < (px2 : Int) + 1 := by omega
                clear hb5
                go_wp2_with fail
                go_roundw
                case rel => exact ⟨k + 1, by go_num, by omega, by rw [← HMS.out]; exact HN6.out⟩
                case measure => simp [intOf]; omega
            · have hk9 : ¬ (k : Int) < 64 := by omega
              have hq := HNK.out
              rw [mix_all HLW.out k (by rw [List.length_map, HNZ.out.ok.ll]; omega)] at hq
              have HNL := Lib.hid hq
              clear hq HNK hk64
              go_wp2_with fail
              go_loopw [13] (fun v13 wk => ∃ k : Nat, v13 = .int .i64 (k : Nat) ∧ k ≤ 4 ∧ NB w w.heap.size bw bc g l l2 c c2 (l2.map wasN) (mix c2 c k) wk) (fun v13 _ => 4 - (intOf v13).toNat)
              case atStart => exact ⟨0, rfl, Nat.zero_le _, by rw [mix_zero]; exact HNL.out⟩
              case round =>
                obtain ⟨k, rfl, hk4, hnk⟩ := hrel
                have HNK := Lib.hid hnk
                clear hnk
                by_cases hk5 : k < 4
                · have hk6 : (k : Int) < 4 := by omega
                  have HCQ := Lib.hid (counter_any g l2 c2 k wr HNK.out.fu HNK.out.ok (by unfold I64; omega))
                  have hcn : cnV c2 k = .tuple #[.int .u32 (c2.getD k 0 : Nat), .int .i64 0] := by unfold cnV; rw [if_pos (by omega)]; rfl
                  rw [hcn] at HCQ
                  have hmg := mix_get HLC.out k (by rw [HNB.out.ok.lc]; exact hk5)
                  have hms := mix_set HLC.out k (by rw [HNB.out.ok.lc]; exact hk5)
                  have hbk := HNZ.out.bk.2 k
                  generalize c2.getD k 0 = y2 at *
                  generalize c.getD k 0 = y at *
                  have hle : decide (y2 < y) = false := by simpa using hbk
                  have HMS := Lib.hid hms
                  have g5 := HNK.out.cellC k y hmg
                  have f5 := HNK.out.cc.free k
                  have HN6 := Lib.hid (HNK.out.setC k y2)
                  clear hms hmg hcn hbk
                  go_wp2_with fail
                  refine HCQ.out.mono ?_
                  rintro e w5 ⟨rfl, rfl⟩
                  go_wp2_with fail
                  go_roundw
                  case rel => exact ⟨k + 1, by go_num, by omega, by rw [← HMS.out]; exact HN6.out⟩
                  case measure => simp [intOf]; omega
                · obtain rfl : k = 4 := by omega
                  have hq := HNK.out
                  rw [mix_all HLC.out 4 (by rw [HNZ.out.ok.lc]; exact Nat.le_refl _)] at hq
                  have HNM := Lib.hid hq
                  clear hq HNK hk5
                  go_wp2_with fail
                  go_roundw
                  case rel => exact ⟨g, m + 1, l2, c2, rfl, by go_num, by omega, by omega, ⟨HNM.out.fu, HNM.out.ok, HNM.out.un, Bk.refl _ _, HNM.out.hg, HNM.out.wa, HNM.out.cc, HNM.out.hw, HNM.out.hc, HNM.out.bl, HNM.out.sz⟩⟩
                  case measure => simp [intOf]; omega
      have t1 : (kd == 1) = false := by simpa using h1
      by_cases h5 : kd = 5
      · subst h5
        have HRA := Lib.hid (raise_any g l c i cc w3 HN1.out.fu HN1.out.ok HI.out)
        go_wp2_with fail
        rw [HW3.out]
        refine HRA.out.mono ?_
        rintro e w4 ⟨rfl, hf4, hg4⟩
        have HNY := Lib.hid (HN1.out.turn hf4 (rais_ok HN1.out.ok i cc HCC.out) HN1.out.un (rais_bk HN1.out.ok.lc l i cc) hg4)
        clear hf4 hg4 e0 e1 e2 e3 e4
        obtain ⟨l2, c2, hnx⟩ := HNY.out.ex
        have HNZ := Lib.hid hnx
        clear hnx HNY
        have HLW := Lib.hid (show (l2.map wasN).length = (l.map wasN).length by rw [List.length_map, List.length_map, HNZ.out.ok.ll, HNB.out.ok.ll])
        have HLC := Lib.hid (show c2.length = c.length by rw [HNZ.out.ok.lc, HNB.out.ok.lc])
        go_wp2_with fail
        go_loopw [9] (fun v9 wk => ∃ k : Nat, v9 = .int .i64 (k : Nat) ∧ k ≤ 64 ∧ NB w w.heap.size bw bc g l l2 c c2 (mix (l2.map wasN) (l.map wasN) k) c wk) (fun v9 _ => 64 - (intOf v9).toNat)
        case atStart => exact ⟨0, rfl, Nat.zero_le _, by rw [mix_zero]; exact HNZ.out⟩
        case round =>
          obtain ⟨k, rfl, hk, hnk⟩ := hrel
          have HNK := Lib.hid hnk
          clear hnk
          by_cases hk64 : k < 64
          · have hk6 : (k : Int) < 64 := by omega
            have HRD := Lib.hid (read_any g l2 c2 k wr HNK.out.fu HNK.out.ok (by unfold I64; omega))
            have hrd : rdV l2 k = .tuple #[.int .u8 ((l2.getD k (0, false)).1 : Nat), .bool (l2.getD k (0, false)).2, .int .i64 0] := by unfold rdV; rw [if_pos (by omega)]; rfl
            rw [hrd] at HRD
            have hmg := mix_get HLW.out k (by rw [List.length_map, HNB.out.ok.ll]; exact hk64)
            have hms := mix_set HLW.out k (by rw [List.length_map, HNB.out.ok.ll]; exact hk64)
            have hmm := fun e => mix_same HLW.out k (by rw [List.length_map, HNB.out.ok.ll]; exact hk64) e
            rw [getD_map l k (by rw [HNB.out.ok.ll]; exact hk64)] at hmg hmm
            rw [getD_map l2 k (by rw [HNZ.out.ok.ll]; exact hk64)] at hms hmm
            have hbk := HNZ.out.bk.1 k
            have hun := HNZ.out.un k
            have hxb := HNZ.out.ok.at k
            obtain ⟨p, hp⟩ : ∃ p, l.getD k (0, false) = p := ⟨_, rfl⟩
            obtain ⟨p2, hp2⟩ : ∃ p2, l2.getD k (0, false) = p2 := ⟨_, rfl⟩
            rw [hp] at hbk hmg hmm
            rw [hp2] at hbk hun hms hmm hxb HRD
            obtain ⟨px, pu⟩ := p
            obtain ⟨px2, pu2⟩ := p2
            clear hp hp2 hrd
            cases pu
            · have hz : wasN (px, false) = 0 := rfl
              rw [hz] at hmg hmm
              have HMG := Lib.hid hmg
              cases pu2
              · obtain rfl : px2 = 0 := hun rfl
                have HMM := Lib.hid (hmm rfl)
                clear hmg hms hmm hbk hun hz
                go_wp2_with fail
                refine HRD.out.mono ?_
                rintro e w5 ⟨rfl, hb5⟩
                have HN5 := Lib.hid (HNK.out.grow hb5)
                have g5 := HN5.out.cellW k 0 HMG.out
                clear hb5
                go_wp2_with fail
                go_roundw
                case rel => exact ⟨k + 1, by go_num, by omega, by rw [HMM.out]; exact HN5.out⟩
                case measure => simp [intOf]; omega
              · have hs : wasN (px2, true) = px2 + 1 := rfl
                rw [hs] at hms
                have HMS := Lib.hid hms
                clear hmg hms hmm hbk hun hz hs
                go_wp2_with fail
                refine HRD.out.mono ?_
                rintro e w5 ⟨rfl, hb5⟩
                have HN5 := Lib.hid (HNK.out.grow hb5)
                have g5 := HN5.out.cellW k 0 HMG.out
                have f5 := HN5.out.wa.free k
                have HN6 := Lib.hid (HN5.out.setW k (px2 + 1))
                have bx : (px2 : Int) ≤ 255 := by omega
                clear hb5
                go_wp2_with fail
                go_roundw
                case rel => exact ⟨k + 1, by go_num, by omega, by rw [← HMS.out]; exact HN6.out⟩
                case measure => simp [intOf]; omega
            · have hpp := hbk rfl
              injection hpp with h1 h2
              subst h1 h2
              have hs : wasN (px2, true) = px2 + 1 := rfl
              rw [hs] at hms hmg
              have HMS := Lib.hid hms
              have HMG := Lib.hid hmg
              clear hmg hms hmm hbk hun hs
              go_wp2_with fail
              refine HRD.out.mono ?_
              rintro e w5 ⟨rfl, hb5⟩
              have HN5 := Lib.hid (HNK.out.grow hb5)
              have g5 : w5.cell? ⟨bw, k, none⟩ = some (.int .i64 ((px2 : Int) + 1)) := HN5.out.cellW k (px2 + 1) HMG.out
              have f5 := HN5.out.wa.free k
              have HN6 := Lib.hid (HN5.out.setW k (px2 + 1))
              have bx : (px2 : Int) ≤ 255 := by omega
              have bx0 : (0 : Int) < (px2 : Int) + 1 := by omega
              clear hb5
              go_wp2_with fail
              go_roundw
              case rel => exact ⟨k + 1, by go_num, by omega, by rw [← HMS.out]; exact HN6.out⟩
              case measure => simp [intOf]; omega
          · have hk9 : ¬ (k : Int) < 64 := by omega
            have hq := HNK.out
            rw [mix_all HLW.out k (by rw [List.length_map, HNZ.out.ok.ll]; omega)] at hq
            have HNL := Lib.hid hq
            clear hq HNK hk64
            go_wp2_with fail
            go_loopw [13] (fun v13 wk => ∃ k : Nat, v13 = .int .i64 (k : Nat) ∧ k ≤ 4 ∧ NB w w.heap.size bw bc g l l2 c c2 (l2.map wasN) (mix c2 c k) wk) (fun v13 _ => 4 - (intOf v13).toNat)
            case atStart => exact ⟨0, rfl, Nat.zero_le _, by rw [mix_zero]; exact HNL.out⟩
            case round =>
              obtain ⟨k, rfl, hk4, hnk⟩ := hrel
              have HNK := Lib.hid hnk
              clear hnk
              by_cases hk5 : k < 4
              · have hk6 : (k : Int) < 4 := by omega
                have HCQ := Lib.hid (counter_any g l2 c2 k wr HNK.out.fu HNK.out.ok (by unfold I64; omega))
                have hcn : cnV c2 k = .tuple #[.int .u32 (c2.getD k 0 : Nat), .int .i64 0] := by unfold cnV; rw [if_pos (by omega)]; rfl
                rw [hcn] at HCQ
                have hmg := mix_get HLC.out k (by rw [HNB.out.ok.lc]; exact hk5)
                have hms := mix_set HLC.out k (by rw [HNB.out.ok.lc]; exact hk5)
                have hbk := HNZ.out.bk.2 k
                generalize c2.getD k 0 = y2 at *
                generalize c.getD k 0 = y at *
                have hle : decide (y2 < y) = false := by simpa using hbk
                have HMS := Lib.hid hms
                have g5 := HNK.out.cellC k y hmg
                have f5 := HNK.out.cc.free k
                have HN6 := Lib.hid (HNK.out.setC k y2)
                clear hms hmg hcn hbk
                go_wp2_with fail
                refine HCQ.out.mono ?_
                rintro e w5 ⟨rfl, rfl⟩
                go_wp2_with fail
                go_roundw
                case rel => exact ⟨k + 1, by go_num, by omega, by rw [← HMS.out]; exact HN6.out⟩
                case measure => simp [intOf]; omega
              · obtain rfl : k = 4 := by omega
                have hq := HNK.out
                rw [mix_all HLC.out 4 (by rw [HNZ.out.ok.lc]; exact Nat.le_refl _)] at hq
                have HNM := Lib.hid hq
                clear hq HNK hk5
                go_wp2_with fail
                go_roundw
                case rel => exact ⟨g, m + 1, l2, c2, rfl, by go_num, by omega, by omega, ⟨HNM.out.fu, HNM.out.ok, HNM.out.un, Bk.refl _ _, HNM.out.hg, HNM.out.wa, HNM.out.cc, HNM.out.hw, HNM.out.hc, HNM.out.bl, HNM.out.sz⟩⟩
                case measure => simp [intOf]; omega
      have t5 : (kd == 5) = false := by simpa using h5
      by_cases h6 : kd = 6
      · subst h6
        have HCO := Lib.hid (copy_any g l c w3 HN1.out.fu HN1.out.ok)
        go_wp2_with fail
        rw [HW3.out]
        refine HCO.out.mono ?_
        rintro e w4 ⟨rfl, hf4, hb4⟩
        have hn4 := HN1.out.grow hb4
        have HNY := Lib.hid (show NB w w.heap.size bw bc w3.heap.size l l c c (l.map wasN) c w4 from ⟨hf4, hn4.ok, hn4.un, hn4.bk, Nat.le_trans HN1.out.sz HN1.out.bl.size, hn4.wa, hn4.cc, hn4.hw, hn4.hc, hn4.bl, hn4.sz⟩)
        clear hf4 hb4 hn4 e0 e1 e2 e3 e4
        obtain ⟨g2, hg2⟩ : ∃ g2, w3.heap.size = g2 := ⟨_, rfl⟩
        rw [hg2] at HNY
        rw [hg2]
        clear hg2
        obtain ⟨l2, c2, hnx⟩ := HNY.out.ex
        have HNZ := Lib.hid hnx
        clear hnx HNY
        have HLW := Lib.hid (show (l2.map wasN).length = (l.map wasN).length by rw [List.length_map, List.length_map, HNZ.out.ok.ll, HNB.out.ok.ll])
        have HLC := Lib.hid (show c2.length = c.length by rw [HNZ.out.ok.lc, HNB.out.ok.lc])
        go_wp2_with fail
        go_loopw [9] (fun v9 wk => ∃ k : Nat, v9 = .int .i64 (k : Nat) ∧ k ≤ 64 ∧ NB w w.heap.size bw bc g2 l l2 c c2 (mix (l2.map wasN) (l.map wasN) k) c wk) (fun v9 _ => 64 - (intOf v9).toNat)
        case atStart => exact ⟨0, rfl, Nat.zero_le _, by rw [mix_zero]; exact HNZ.out⟩
        case round =>
          obtain ⟨k, rfl, hk, hnk⟩ := hrel
          have HNK := Lib.hid hnk
          clear hnk
          by_cases hk64 : k < 64
          · have hk6 : (k : Int) < 64 := by omega
            have HRD := Lib.hid (read_any g2 l2 c2 k wr HNK.out.fu HNK.out.ok (by unfold I64; omega))
            have hrd : rdV l2 k = .tuple #[.int .u8 ((l2.getD k (0, false)).1 : Nat), .bool (l2.getD k (0, false)).2, .int .i64 0] := by unfold rdV; rw [if_pos (by omega)]; rfl
            rw [hrd] at HRD
            have hmg := mix_get HLW.out k (by rw [List.length_map, HNB.out.ok.ll]; exact hk64)
            have hms := mix_set HLW.out k (by rw [List.length_map, HNB.out.ok.ll]; exact hk64)
            have hmm := fun e => mix_same HLW.out k (by rw [List.length_map, HNB.out.ok.ll]; exact hk64) e
            rw [getD_map l k (by rw [HNB.out.ok.ll]; exact hk64)] at hmg hmm
            rw [getD_map l2 k (by rw [HNZ.out.ok.ll]; exact hk64)] at hms hmm
            have hbk := HNZ.out.bk.1 k
            have hun := HNZ.out.un k
            have hxb := HNZ.out.ok.at k
            obtain ⟨p, hp⟩ : ∃ p, l.getD k (0, false) = p := ⟨_, rfl⟩
            obtain ⟨p2, hp2⟩ : ∃ p2, l2.getD k (0, false) = p2 := ⟨_, rfl⟩
            rw [hp] at hbk hmg hmm
            rw [hp2] at hbk hun hms hmm hxb HRD
            obtain ⟨px, pu⟩ := p
            obtain ⟨px2, pu2⟩ := p2
            clear hp hp2 hrd
            cases pu
            · have hz : wasN (px, false) = 0 := rfl
              rw [hz] at hmg hmm
              have HMG := Lib.hid hmg
              cases pu2
              · obtain rfl : px2 = 0 := hun rfl
                have HMM := Lib.hid (hmm rfl)
                clear hmg hms hmm hbk hun hz
                go_wp2_with fail
                refine HRD.out.mono ?_
                rintro e w5 ⟨rfl, hb5⟩
                have HN5 := Lib.hid (HNK.out.grow hb5)
                have g5 := HN5.out.cellW k 0 HMG.out
                clear hb5
                go_wp2_with fail
                go_roundw
                case rel => exact ⟨k + 1, by go_num, by omega, by rw [HMM.out]; exact HN5.out⟩
                case measure => simp [intOf]; omega
              · have hs : wasN (px2, true) = px2 + 1 := rfl
                rw [hs] at hms
                have HMS := Lib.hid hms
                clear hmg hms hmm hbk hun hz hs
                go_wp2_with fail
                refine HRD.out.mono ?_
                rintro e w5 ⟨rfl, hb5⟩
                have HN5 := Lib.hid (HNK.out.grow hb5)
                have g5 := HN5.out.cellW k 0 HMG.out
                have f5 := HN5.out.wa.free k
                have HN6 := Lib.hid (HN5.out.setW k (px2 + 1))
                have bx : (px2 : Int) ≤ 255 := by omega
                clear hb5
                go_wp2_with fail
                go_roundw
                case rel => exact ⟨k + 1, by go_num, by omega, by rw [← HMS.out]; exact HN6.out⟩
                case measure => simp [intOf]; omega
            · have hpp := hbk rfl
              injection hpp with h1 h2
              subst h1 h2
              have hs : wasN (px2, true) = px2 + 1 := rfl
              rw [hs] at hms hmg
              have HMS := Lib.hid hms
              have HMG := Lib.hid hmg
              clear hmg hms hmm hbk hun hs
              go_wp2_with fail
              refine HRD.out.mono ?_
              rintro e w5 ⟨rfl, hb5⟩
              have HN5 := Lib.hid (HNK.out.grow hb5)
              have g5 : w5.cell? ⟨bw, k, none⟩ = some (.int .i64 ((px2 : Int) + 1)) := HN5.out.cellW k (px2 + 1) HMG.out
              have f5 := HN5.out.wa.free k
              have HN6 := Lib.hid (HN5.out.setW k (px2 + 1))
              have bx : (px2 : Int) ≤ 255 := by omega
              have bx0 : (0 : Int) < (px2 : Int) + 1 := by omega
              clear hb5
              go_wp2_with fail
              go_roundw
              case rel => exact ⟨k + 1, by go_num, by omega, by rw [← HMS.out]; exact HN6.out⟩
              case measure => simp [intOf]; omega
          · have hk9 : ¬ (k : Int) < 64 := by omega
            have hq := HNK.out
            rw [mix_all HLW.out k (by rw [List.length_map, HNZ.out.ok.ll]; omega)] at hq
            have HNL := Lib.hid hq
            clear hq HNK hk64
            go_wp2_with fail
            go_loopw [13] (fun v13 wk => ∃ k : Nat, v13 = .int .i64 (k : Nat) ∧ k ≤ 4 ∧ NB w w.heap.size bw bc g2 l l2 c c2 (l2.map wasN) (mix c2 c k) wk) (fun v13 _ => 4 - (intOf v13).toNat)
            case atStart => exact ⟨0, rfl, Nat.zero_le _, by rw [mix_zero]; exact HNL.out⟩
            case round =>
              obtain ⟨k, rfl, hk4, hnk⟩ := hrel
              have HNK := Lib.hid hnk
              clear hnk
              by_cases hk5 : k < 4
              · have hk6 : (k : Int) < 4 := by omega
                have HCQ := Lib.hid (counter_any g2 l2 c2 k wr HNK.out.fu HNK.out.ok (by unfold I64; omega))
                have hcn : cnV c2 k = .tuple #[.int .u32 (c2.getD k 0 : Nat), .int .i64 0] := by unfold cnV; rw [if_pos (by omega)]; rfl
                rw [hcn] at HCQ
                have hmg := mix_get HLC.out k (by rw [HNB.out.ok.lc]; exact hk5)
                have hms := mix_set HLC.out k (by rw [HNB.out.ok.lc]; exact hk5)
                have hbk := HNZ.out.bk.2 k
                generalize c2.getD k 0 = y2 at *
                generalize c.getD k 0 = y at *
                have hle : decide (y2 < y) = false := by simpa using hbk
                have HMS := Lib.hid hms
                have g5 := HNK.out.cellC k y hmg
                have f5 := HNK.out.cc.free k
                have HN6 := Lib.hid (HNK.out.setC k y2)
                clear hms hmg hcn hbk
                go_wp2_with fail
                refine HCQ.out.mono ?_
                rintro e w5 ⟨rfl, rfl⟩
                go_wp2_with fail
                go_roundw
                case rel => exact ⟨k + 1, by go_num, by omega, by rw [← HMS.out]; exact HN6.out⟩
                case measure => simp [intOf]; omega
              · obtain rfl : k = 4 := by omega
                have hq := HNK.out
                rw [mix_all HLC.out 4 (by rw [HNZ.out.ok.lc]; exact Nat.le_refl _)] at hq
                have HNM := Lib.hid hq
                clear hq HNK hk5
                go_wp2_with fail
                go_roundw
                case rel => exact ⟨g2, m + 1, l2, c2, rfl, by go_num, by omega, by omega, ⟨HNM.out.fu, HNM.out.ok, HNM.out.un, Bk.refl _ _, HNM.out.hg, HNM.out.wa, HNM.out.cc, HNM.out.hw, HNM.out.hc, HNM.out.bl, HNM.out.sz⟩⟩
                case measure => simp [intOf]; omega
      have t6 : (kd == 6) = false := by simpa using h6
      have HRO := Lib.hid (row_weak g l c i n w3 HN1.out.fu HN1.out.ok HI.out HN.out)
      go_wp2_with fail
      rw [HW3.out]
      refine HRO.out.mono ?_
      rintro e w4 ⟨⟨vr, rfl⟩, hb4⟩
      have HNY := Lib.hid (HN1.out.grow hb4)
      clear hb4 e0 e1 e2 e3 e4
      obtain ⟨l2, c2, hnx⟩ := HNY.out.ex
      have HNZ := Lib.hid hnx
      clear hnx HNY
      have HLW := Lib.hid (show (l2.map wasN).length = (l.map wasN).length by rw [List.length_map, List.length_map, HNZ.out.ok.ll, HNB.out.ok.ll])
      have HLC := Lib.hid (show c2.length = c.length by rw [HNZ.out.ok.lc, HNB.out.ok.lc])
      go_wp2_with fail
      go_loopw [9] (fun v9 wk => ∃ k : Nat, v9 = .int .i64 (k : Nat) ∧ k ≤ 64 ∧ NB w w.heap.size bw bc g l l2 c c2 (mix (l2.map wasN) (l.map wasN) k) c wk) (fun v9 _ => 64 - (intOf v9).toNat)
      case atStart => exact ⟨0, rfl, Nat.zero_le _, by rw [mix_zero]; exact HNZ.out⟩
      case round =>
        obtain ⟨k, rfl, hk, hnk⟩ := hrel
        have HNK := Lib.hid hnk
        clear hnk
        by_cases hk64 : k < 64
        · have hk6 : (k : Int) < 64 := by omega
          have HRD := Lib.hid (read_any g l2 c2 k wr HNK.out.fu HNK.out.ok (by unfold I64; omega))
          have hrd : rdV l2 k = .tuple #[.int .u8 ((l2.getD k (0, false)).1 : Nat), .bool (l2.getD k (0, false)).2, .int .i64 0] := by unfold rdV; rw [if_pos (by omega)]; rfl
          rw [hrd] at HRD
          have hmg := mix_get HLW.out k (by rw [List.length_map, HNB.out.ok.ll]; exact hk64)
          have hms := mix_set HLW.out k (by rw [List.length_map, HNB.out.ok.ll]; exact hk64)
          have hmm := fun e => mix_same HLW.out k (by rw [List.length_map, HNB.out.ok.ll]; exact hk64) e
          rw [getD_map l k (by rw [HNB.out.ok.ll]; exact hk64)] at hmg hmm
          rw [getD_map l2 k (by rw [HNZ.out.ok.ll]; exact hk64)] at hms hmm
          have hbk := HNZ.out.bk.1 k
          have hun := HNZ.out.un k
          have hxb := HNZ.out.ok.at k
          obtain ⟨p, hp⟩ : ∃ p, l.getD k (0, false) = p := ⟨_, rfl⟩
          obtain ⟨p2, hp2⟩ : ∃ p2, l2.getD k (0, false) = p2 := ⟨_, rfl⟩
          rw [hp] at hbk hmg hmm
          rw [hp2] at hbk hun hms hmm hxb HRD
          obtain ⟨px, pu⟩ := p
          obtain ⟨px2, pu2⟩ := p2
          clear hp hp2 hrd
          cases pu
          · have hz : wasN (px, false) = 0 := rfl
            rw [hz] at hmg hmm
            have HMG := Lib.hid hmg
            cases pu2
            · obtain rfl : px2 = 0 := hun rfl
              have HMM := Lib.hid (hmm rfl)
              clear hmg hms hmm hbk hun hz
              go_wp2_with fail
              refine HRD.out.mono ?_
              rintro e w5 ⟨rfl, hb5⟩
              have HN5 := Lib.hid (HNK.out.grow hb5)
              have g5 := HN5.out.cellW k 0 HMG.out
              clear hb5
              go_wp2_with fail
              go_roundw
              case rel => exact ⟨k + 1, by go_num, by omega, by rw [HMM.out]; exact HN5.out⟩
              case measure => simp [intOf]; omega
            · have hs : wasN (px2, true) = px2 + 1 := rfl
              rw [hs] at hms
              have HMS := Lib.hid hms
              clear hmg hms hmm hbk hun hz hs
              go_wp2_with fail
              refine HRD.out.mono ?_
              rintro e w5 ⟨rfl, hb5⟩
              have HN5 := Lib.hid (HNK.out.grow hb5)
              have g5 := HN5.out.cellW k 0 HMG.out
              have f5 := HN5.out.wa.free k
              have HN6 := Lib.hid (HN5.out.setW k (px2 + 1))
              have bx : (px2 : Int) ≤ 255 := by omega
              clear hb5
              go_wp2_with fail
              go_roundw
              case rel => exact ⟨k + 1, by go_num, by omega, by rw [← HMS.out]; exact HN6.out⟩
              case measure => simp [intOf]; omega
          · have hpp := hbk rfl
            injection hpp with h1 h2
            subst h1 h2
            have hs : wasN (px2, true) = px2 + 1 := rfl
            rw [hs] at hms hmg
            have HMS := Lib.hid hms
            have HMG := Lib.hid hmg
            clear hmg hms hmm hbk hun hs
            go_wp2_with fail
            refine HRD.out.mono ?_
            rintro e w5 ⟨rfl, hb5⟩
            have HN5 := Lib.hid (HNK.out.grow hb5)
            have g5 : w5.cell? ⟨bw, k, none⟩ = some (.int .i64 ((px2 : Int) + 1)) := HN5.out.cellW k (px2 + 1) HMG.out
            have f5 := HN5.out.wa.free k
            have HN6 := Lib.hid (HN5.out.setW k (px2 + 1))
            have bx : (px2 : Int) ≤ 255 := by omega
            have bx0 : (0 : Int) < (px2 : Int) + 1 := by omega
            clear hb5
            go_wp2_with fail
            go_roundw
            case rel => exact ⟨k + 1, by go_num, by omega, by rw [← HMS.out]; exact HN6.out⟩
            case measure => simp [intOf]; omega
        · have hk9 : ¬ (k : Int) < 64 := by omega
          have hq := HNK.out
          rw [mix_all HLW.out k (by rw [List.length_map, HNZ.out.ok.ll]; omega)] at hq
          have HNL := Lib.hid hq
          clear hq HNK hk64
          go_wp2_with fail
          go_loopw [13] (fun v13 wk => ∃ k : Nat, v13 = .int .i64 (k : Nat) ∧ k ≤ 4 ∧ NB w w.heap.size bw bc g l l2 c c2 (l2.map wasN) (mix c2 c k) wk) (fun v13 _ => 4 - (intOf v13).toNat)
          case atStart => exact ⟨0, rfl, Nat.zero_le _, by rw [mix_zero]; exact HNL.out⟩
          case round =>
            obtain ⟨k, rfl, hk4, hnk⟩ := hrel
            have HNK := Lib.hid hnk
            clear hnk
            by_cases hk5 : k < 4
            · have hk6 : (k : Int) < 4 := by omega
              have HCQ := Lib.hid (counter_any g l2 c2 k wr HNK.out.fu HNK.out.ok (by unfold I64; omega))
              have hcn : cnV c2 k = .tuple #[.int .u32 (c2.getD k 0 : Nat), .int .i64 0] := by unfold cnV; rw [if_pos (by omega)]; rfl
              rw [hcn] at HCQ
              have hmg := mix_get HLC.out k (by rw [HNB.out.ok.lc]; exact hk5)
              have hms := mix_set HLC.out k (by rw [HNB.out.ok.lc]; exact hk5)
              have hbk := HNZ.out.bk.2 k
              generalize c2.getD k 0 = y2 at *
              generalize c.getD k 0 = y at *
              have hle : decide (y2 < y) = false := by simpa using hbk
              have HMS := Lib.hid hms
              have g5 := HNK.out.cellC k y hmg
              have f5 := HNK.out.cc.free k
              have HN6 := Lib.hid (HNK.out.setC k y2)
              clear hms hmg hcn hbk
              go_wp2_with fail
              refine HCQ.out.mono ?_
              rintro e w5 ⟨rfl, rfl⟩
              go_wp2_with fail
              go_roundw
              case rel => exact ⟨k + 1, by go_num, by omega, by rw [← HMS.out]; exact HN6.out⟩
              case measure => simp [intOf]; omega
            · obtain rfl : k = 4 := by omega
              have hq := HNK.out
              rw [mix_all HLC.out 4 (by rw [HNZ.out.ok.lc]; exact Nat.le_refl _)] at hq
              have HNM := Lib.hid hq
              clear hq HNK hk5
              go_wp2_with fail
              go_roundw
              case rel => exact ⟨g, m + 1, l2, c2, rfl, by go_num, by omega, by omega, ⟨HNM.out.fu, HNM.out.ok, HNM.out.un, Bk.refl _ _, HNM.out.hg, HNM.out.wa, HNM.out.cc, HNM.out.hw, HNM.out.hc, HNM.out.bl, HNM.out.sz⟩⟩
              case measure => simp [intOf]; omega
    · have hq : m = np ∨ m = 2000 := by omega
      rcases hq with rfl | rfl
      · clear hmn
        have HBL := Lib.hid HNB.out.bl
        go_wp2_with fail
        go_ret
        exact ⟨rfl, HBL.out⟩
      · by_cases h2 : 2000 < np
        · have q1 : (2000 : Int) < (np : Int) := by omega
          have HBL := Lib.hid HNB.out.bl
          clear hmn
          go_wp2_with fail
          go_ret
          exact ⟨rfl, HBL.out⟩
        · obtain rfl : np = 2000 := by omega
          have HBL := Lib.hid HNB.out.bl
          clear hmn
          go_wp2_with fail
          go_ret
          exact ⟨rfl, HBL.out⟩
    end Go.Proofs.Ytcjhjengggfpeaa
