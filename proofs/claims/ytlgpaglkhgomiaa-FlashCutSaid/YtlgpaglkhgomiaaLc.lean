/- FlashCut: the law's walk. No condition. -/
import Derived.Test.YtlgpaglkhgomiaaCw
import Derived.Deep.CutRange
namespace Go.Proofs.Ytlgpaglkhgomiaa
open Go.RowKit
set_option linter.unusedVariables false
set_option maxRecDepth 100000
set_option linter.unusedSimpArgs false
/-- what the second loop keeps -/
def ICut (w : World) (f mb g pk : Nat) (dn : Bool) (i many : Nat) (wr : World) : Prop :=
  ∃ (m : Nat) (hs : Int → Bool) (c : Int → List Nat) (L : Nat → List Nat), WAt wr g 8 L ∧ (∀ j, IsB (L j)) ∧ MAt wr mb m hs c ∧ m ≤ i ∧ (∀ j : Nat, j < 8 → c (j : Int) = L j) ∧ Below w.heap.size w wr ∧
    ((i ≤ pk ∧ FlB wr f mb 8 true (1 + (pk : Int) - (i : Int)) dn (i : Int) ∧ i = many) ∨ (pk < i ∧ FlB wr f mb 8 false 0 dn (many : Int) ∧ (if dn = true then pk + 1 else pk) = many))
theorem upCN {c : Int → List Nat} {L : Nat → List Nat} (h : ∀ j : Nat, j < 8 → c (j : Int) = L j) (k : Nat) (l : List Nat) : ∀ j : Nat, j < 8 → upC c (k : Int) l (j : Int) = upN L k l j := by
  intro j hj
  unfold upC upN
  by_cases e : j = k
  · subst e; simp
  · rw [if_neg (by omega), if_neg e]; exact h j hj
theorem FlB.grown {w w' : World} {f mb g : Nat} {N cut wr : Int} {on dn : Bool} (h : FlB w f mb N on cut dn wr) (hg : w.grownBy w' (some g)) (hne : f ≠ g) : FlB w' f mb N on cut dn wr := Blk.grown h hg (fun e => hne (by injection e with e))
theorem fill_b5 {w : World} {F : Nat → Prop} {f mb m : Nat} {N cut wr : Int} {on dn : Bool} {hs : Int → Bool} {c : Int → List Nat} (h : FlB w f mb N on cut dn wr) (k : MAt w mb m hs c) : ∀ q cs, Blk w q 5 cs → ¬ (q = f ∨ q = mb) := by
  rintro q cs hq (rfl | rfl)
  · exact blk_ne hq h (by decide) rfl
  · exact blk_map hq k rfl
set_option maxRecDepth 100000 in
set_option maxHeartbeats 12800000 in
theorem cut_walk (P : Option Addr) (np cp : Nat) (os : List OpR) (at0 : Int) (dn : Bool) (w : World) (hin : OIn w P np os) (hat : I64 at0) (hnp : np ≤ 140737488355328) :
    Calls Try.prog 4 #[.slice P np cp, .int .i64 at0, .bool dn] w fun e w' => e = .returned (.bool true) ∧ Below w.heap.size w w' := by
  have HN0 := Lib.hid (new_nil 8 w (by omega) (by omega) 0 0 rfl rfl)
  have HA := Lib.hid (fun w' => alive_any w')
  have HIN := Lib.hid hin
  obtain ⟨n, hn⟩ : ∃ n : Nat, (if np ≤ 400 then np else 400) = n := ⟨_, rfl⟩
  have hn4 : n ≤ 400 := by split at hn <;> omega
  have hnn : n ≤ np := by split at hn <;> omega
  have hmin : min (np : Int) 400 = (n : Int) := by rw [← hn]; split <;> omega
  have hp := pickI_lt (c := at0) (n := (n : Int) + 1) (by omega)
  obtain ⟨pk, hpk⟩ := Int.eq_ofNat_of_zero_le hp.1
  have hpk2 : pk ≤ n := by omega
  have HPK := Lib.hid (fun w' => show Calls Try.prog 19 #[.int .i64 at0, .int .i64 ((n : Int) + 1)] w' (fun e w'' => e = .returned (.int .i64 (pk : Int)) ∧ w' = w'') from by have := pick_any at0 ((n : Int) + 1) w' hat (by omega) (by omega); rwa [hpk] at this)
  unfold NewIs at HA
  clear hin hat hn hp hpk
  go_enter Try.func4, Try.ntmps4
  go_wp2_with fail
  refine HN0.out.mono ?_
  rintro e w1 ⟨f, mb, hf, hmb, rfl, hfl, hma, hb1⟩
  have HF1 := Lib.hid hfl
  have HM1 := Lib.hid hma
  have HB1 := Lib.hid hb1
  clear hfl hma hb1 HN0
  go_wp2_with fail
  refine (HA.out _).mono ?_
  rintro e w2 ⟨rfl, hb2⟩
  have HF2 := Lib.hid (HF1.out.gr hb2)
  have HM2 := Lib.hid (HM1.out.gr hb2)
  have HB2 := Lib.hid (HB1.out.trans (hb2.mono HB1.out.size))
  clear hb2 HF1 HM1 HB1 HA
  go_wp2_with fail
  clear hmin
  refine (HPK.out _).mono ?_
  rintro e w' ⟨rfl, rfl⟩
  have HC := Lib.hid (cut_ok f mb 8 0 0 (1 + (pk : Int)) dn false w2 HF2.out (by omega))
  unfold TurnF at HC
  go_wp2_with fail
  refine HC.out.mono ?_
  rintro e w3 ⟨rfl, hf3, hg3⟩
  have hfm := fl_map HF2.out HM2.out
  have HF3 := Lib.hid hf3
  have HM3 := Lib.hid (HM2.out.grown hg3 (fun e => hfm (by injection e with e; exact e.symm)))
  have HB3 := Lib.hid (HB2.out.trans (grown_new0 hg3 hf HB2.out.size))
  clear hf3 hg3 HF2 HM2 HB2 HC HPK
  obtain ⟨g, hg⟩ : ∃ g, w3.heap.size = g := ⟨_, rfl⟩
  obtain ⟨w4, hw4⟩ : ∃ w4, w3.alloc (.cells #[.slice none 0 0, .slice none 0 0, .slice none 0 0, .slice none 0 0, .slice none 0 0, .slice none 0 0, .slice none 0 0, .slice none 0 0] 52) = w4 := ⟨_, rfl⟩
  have hb4 : Below w3.heap.size w3 w4 := hw4 ▸ (Below.refl _ _).alloc (Nat.le_refl _) _
  have HW4 := Lib.hid (show WAt w4 g 0 (fun _ => zB) from by rw [← hw4, ← hg]; exact WAt.new w3)
  have HF4 := Lib.hid (HF3.out.gr hb4)
  have HM4 := Lib.hid (HM3.out.gr hb4)
  have HB4 := Lib.hid (HB3.out.trans (hb4.mono HB3.out.size))
  have hgf : f < g := by rw [← hg]; exact Blk.lt HF3.out
  have hgm : mb < g := by rw [← hg]; exact HM3.out.lt
  have hgw : w.heap.size ≤ g := by omega
  have HU4 := Lib.hid hw4
  have HG := Lib.hid hg
  clear hb4 hw4 hg HF3 HM3 HB3
  go_upto_region 9 with (fail)
  try rw [HU4.out]
  try rw [HG.out]
  clear HU4 HG
  go_wp2_with fail
  go_loopw [11] (fun v11 wr => ∃ (i : Nat) (L : Nat → List Nat), v11 = .int .i64 i ∧ i ≤ 8 ∧ WAt wr g i L ∧ (∀ j, L j = zB) ∧ FlB wr f mb 8 true (1 + (pk : Int)) dn 0 ∧ MAt wr mb 0 (fun _ => false) (fun _ => zB) ∧ Below w.heap.size w wr) (fun v11 _ => 8 - (intOf v11).toNat)
  case atStart => exact ⟨0, _, rfl, by omega, HW4.out, fun _ => rfl, HF4.out, HM4.out, HB4.out⟩
  case round =>
    obtain ⟨i, L, rfl, hi, hW, hL, hF, hM, hB⟩ := hrel
    have HW := Lib.hid hW
    have HL := Lib.hid hL
    have HF := Lib.hid hF
    have HM := Lib.hid hM
    have HB := Lib.hid hB
    clear hW hL hF hM hB HW4 HF4 HM4 HB4
    by_cases hi8 : i < 8
    · have HFI := Lib.hid (filled_any none 0 0 [] wr (bin_nil wr))
      unfold FillIs at HFI
      rw [fill_nil] at HFI
      have hi8' : (i : Int) < 8 := by omega
      go_wp2_with fail
      refine HFI.out.mono ?_
      rintro e w5 ⟨q, rfl, hq, hbq, hb5⟩
      have HW5 := Lib.hid ((HW.out.below hb5).set hi8 hbq (i + 1) (fun y hy => by omega))
      obtain ⟨v0, k0⟩ := (HW.out.below hb5).some hi8
      have f0 := (HW.out.below hb5).free i
      obtain ⟨w6, hw6⟩ : ∃ w6, w5.setCell ⟨g, i, none⟩ (.slice (some ⟨q, 0, none⟩) 512 512) = w6 := ⟨_, rfl⟩
      rw [hw6] at HW5
      have hg6 : w5.grownBy w6 (some g) := by rw [← hw6]; exact grown_setCell w5 ⟨g, i, none⟩ _
      have HF6 := Lib.hid (show FlB w6 f mb 8 true (1 + (pk : Int)) dn 0 from Blk.grown (HF.out.gr hb5) hg6 (fun e => by injection e with e; omega))
      have HM6 := Lib.hid ((HM.out.gr hb5).grown hg6 (fun e => by injection e with e; omega))
      have HB6 := Lib.hid ((HB.out.trans (hb5.mono HB.out.size)).trans (grown_new0 hg6 hgw (HB.out.trans (hb5.mono HB.out.size)).size))
      have HU6 := Lib.hid hw6
      clear hq hbq hb5 hg6 hw6 HFI
      go_wp2_with fail
      try rw [HU6.out]
      go_roundw
      case rel => exact ⟨i + 1, _, by go_num, by omega, HW5.out, fun j => (by unfold upN; split <;> first | rfl | exact HL.out j), HF6.out, HM6.out, HB6.out⟩
      case measure => simp [intOf]; omega
    · have e8 : i = 8 := by omega
      rw [e8] at HW
      have hi8' : ¬ (i : Int) < 8 := by omega
      clear e8 hi8
      go_wp2_with fail
      have HI8 := Lib.hid (show ICut w f mb g pk dn 0 0 wr from ⟨0, _, _, L, HW.out, fun j => (by rw [HL.out]; exact zB_is), HM.out, Nat.le_refl _, fun j _ => (HL.out j).symm, HB.out, .inl ⟨Nat.zero_le _, by have := HF.out; simpa using this, rfl⟩⟩)
      clear HW HL HF HM HB hi
      obtain ⟨wo, hwo⟩ : ∃ wo : World, wo = wr := ⟨_, rfl⟩
      rw [← hwo] at HI8
      subst hwo
      go_loopw [12, 13] (fun v12 v13 wr => ∃ (i many : Nat), v13 = .int .i64 i ∧ v12 = .int .i64 many ∧ i ≤ n ∧ ICut w f mb g pk dn i many wr) (fun _ v13 _ => n - (intOf v13).toNat)
      case atStart => exact ⟨0, 0, rfl, rfl, Nat.zero_le _, HI8.out⟩
      case round =>
        obtain ⟨i, many, rfl, rfl, hi, hic⟩ := hrel
        clear HI8
        obtain ⟨m, hs, c, L, hW, hLB, hM, hmi, hcL, hB, hph⟩ := hic
        have HW := Lib.hid hW
        have HLB := Lib.hid hLB
        have HM := Lib.hid hM
        have HCL := Lib.hid hcL
        have HB := Lib.hid hB
        clear hW hLB hM hcL hB
        by_cases hin : i < n
        · have hin' : (i : Int) < (n : Int) := by omega
          obtain ⟨b, off, rfl, hcell⟩ := HIN.out.2.2.resolve_left (by omega)
          obtain ⟨x, hx⟩ : ∃ x, os[i]? = some x := ⟨_, List.getElem?_eq_getElem (by rw [HIN.out.1]; omega)⟩
          have hr := range_gr (hcell i x hx) HB.out
          have hfit := (HIN.out.2.1 x (List.mem_of_getElem? hx)).below HB.out
          have k1 : wr.cell? ⟨b, off + i * 8 + 1, none⟩ = some (.int .i64 x.n) := range_cell hr rfl
          have k3 : wr.cell? ⟨b, off + i * 8 + 3, none⟩ = some (.slice x.a x.k x.c) := range_cell hr rfl
          have hpp := pickI_lt (c := x.n) (n := 8) (by omega)
          obtain ⟨kk, hkk⟩ := Int.eq_ofNat_of_zero_le hpp.1
          have hkk8 : kk < 8 := by omega
          have HPP := Lib.hid (show Calls Try.prog 19 #[.int .i64 x.n, .int .i64 8] wr (fun e w'' => e = .returned (.int .i64 (kk : Int)) ∧ wr = w'') from by have := pick_any x.n 8 wr hfit.2.2.1 (by omega) (by omega); rwa [hkk] at this)
          have HFI := Lib.hid (filled_any x.a x.k x.c x.l wr hfit.1)
          have hfb := fillL_is (l := x.l) hfit.1.1.2.2.1
          unfold FillIs at HFI
          obtain ⟨lx, hlx⟩ : ∃ lx, fillL x.l = lx := ⟨_, rfl⟩
          rw [hlx] at HFI hfb
          have HLX := Lib.hid hfb
          clear hlx hfb hpp hkk hr hcell hfit
          go_wp2_with (go_at_call 19; refine HPP.out.mono ?_; rintro e w9 ⟨rfl, rfl⟩)
          refine HFI.out.mono ?_
          rintro e w5 ⟨q, rfl, hq, hbq, hb5⟩
          clear k1 k3
          have HW5 := Lib.hid (HW.out.below hb5)
          have HM5 := Lib.hid (HM.out.gr hb5)
          have HB5 := Lib.hid (HB.out.trans (hb5.mono HB.out.size))
          have HQ5 := Lib.hid hbq
          have hbin := bin_blk hbq HLX.out
          have HN5 := Lib.hid hbin
          rcases hph with ⟨hph, hF, rfl⟩ | ⟨hph, hF, hmany⟩
          · by_cases hlt : i < pk
            · have HFL5 := Lib.hid (hF.gr hb5)
              clear hb5 hbq hbin hF
              have e1 : (i : Int) + 1 < 1 + (pk : Int) := by omega
              have HWR := Lib.hid (write_go f mb m 8 _ _ (kk : Int) dn hs c _ 512 lx w5 HFL5.out HM5.out (by omega) (by omega) (by omega) HN5.out (fun q0 h0 => by injection h0 with h0; subst h0; exact fun e => fill_b5 (F := fun _ => True) HFL5.out HM5.out q _ HQ5.out (.inl e)) (by unfold maxLen; omega) (by omega) (by omega) (1 + (pk : Int) - ((i : Int) + 1)) (.inr ⟨by omega, by omega, by omega⟩))
              unfold PutIs at HWR
              go_wp2_with fail
              refine HWR.out.mono ?_
              rintro e w6 ⟨rfl, hf6, hm6, hr6⟩
              have HR6 := Lib.hid hr6
              have HF6 := Lib.hid hf6
              have HM6 := Lib.hid hm6
              have HB6 := Lib.hid (hr6.toBelow HB5.out (fun j hj e => by rcases e with e | e <;> omega))
              have HW6 := Lib.hid (HW5.out.fr hr6 (by omega) (fill_b5 (F := fun _ => True) HFL5.out HM5.out))
              have HQ6 := Lib.hid (blk_fr HQ5.out hr6 (fill_b5 (F := fun _ => True) HFL5.out HM5.out q _ HQ5.out))
              have HON := Lib.hid (on_any f mb 8 _ _ _ _ w6 hf6)
              clear hr6 hf6 hm6 HWR HFL5
              obtain ⟨v0, k0⟩ := HW6.out.some hkk8
              have f0 := HW6.out.free kk
              have HW7 := Lib.hid (HW6.out.set hkk8 HQ6.out 8 (fun y hy => .inr hy))
              obtain ⟨w7, hw7⟩ : ∃ w7, w6.setCell ⟨g, kk, none⟩ (.slice (some ⟨q, 0, none⟩) 512 512) = w7 := ⟨_, rfl⟩
              rw [hw7] at HW7
              have hg7 : w6.grownBy w7 (some g) := by rw [← hw7]; exact grown_setCell w6 ⟨g, kk, none⟩ _
              have HF7 := Lib.hid (FlB.grown HF6.out hg7 (by omega))
              have HM7 := Lib.hid (HM6.out.grown hg7 (fun e => by injection e with e; omega))
              have HB7 := Lib.hid (HB6.out.trans (grown_new0 hg7 hgw HB6.out.size))
              have HU7 := Lib.hid hw7
              clear hg7 hw7
              go_wp2_with (first | (go_at_call 12; refine HON.out.mono ?_; rintro e w9 ⟨rfl, rfl⟩))
              try rw [HU7.out]
              go_roundw
              case rel => exact ⟨i + 1, i + 1, by go_num, by go_num, by omega, ⟨m + 1, _, _, _, HW7.out, fun j => (by unfold upN; split; exact HLX.out; exact HLB.out j), HM7.out, by omega, upCN HCL.out kk lx, HB7.out, .inl ⟨by omega, HF7.out, rfl⟩⟩⟩
              case measure => simp [intOf]; omega
            · cases dn
              · have HFL5 := Lib.hid (hF.gr hb5)
                clear hb5 hbq hbin hF
                obtain rfl : i = pk := by omega
                have e0 : (1 + (i : Int) - (i : Int)) = 1 := by omega
                rw [e0] at HFL5
                have e1 : ¬ ((i : Int) + 1 < 1 + (i : Int)) := by omega
                have e2 : ((i : Int) + 1 == 1 + (i : Int)) = true := by simp; omega
                clear e0
                have HWR := Lib.hid (write_lost f mb m 8 _ (kk : Int) hs c (some ⟨q, 0, none⟩) 512 w5 HFL5.out HM5.out (by omega) (by omega) (by omega))
                unfold PutIs at HWR
                go_wp2_with fail
                refine HWR.out.mono ?_
                rintro e w6 ⟨rfl, hf6, hm6, hr6⟩
                have HR6 := Lib.hid hr6
                have HF6 := Lib.hid hf6
                have HM6 := Lib.hid hm6
                have HB6 := Lib.hid (hr6.toBelow HB5.out (fun j hj e => by rcases e with e | e <;> omega))
                have HW6 := Lib.hid (HW5.out.fr hr6 (by omega) (fill_b5 (F := fun _ => True) HFL5.out HM5.out))
                have HQ6 := Lib.hid (blk_fr HQ5.out hr6 (fill_b5 (F := fun _ => True) HFL5.out HM5.out q _ HQ5.out))
                have HON := Lib.hid (on_any f mb 8 _ _ _ _ w6 hf6)
                clear hr6 hf6 hm6 HWR HFL5
                go_wp2_with (first | (go_at_call 12; refine HON.out.mono ?_; rintro e w9 ⟨rfl, rfl⟩))
                go_roundw
                case rel => exact ⟨i + 1, i, by go_num, rfl, by omega, ⟨m, _, _, _, HW6.out, HLB.out, HM6.out, by omega, HCL.out, HB6.out, .inr ⟨by omega, HF6.out, rfl⟩⟩⟩
                case measure => simp [intOf]; omega
              · have HFL5 := Lib.hid (hF.gr hb5)
                clear hb5 hbq hbin hF
                obtain rfl : i = pk := by omega
                have e0 : (1 + (i : Int) - (i : Int)) = 1 := by omega
                rw [e0] at HFL5
                have e1 : ¬ ((i : Int) + 1 < 1 + (i : Int)) := by omega
                have e2 : ((i : Int) + 1 == 1 + (i : Int)) = true := by simp; omega
                clear e0
                have HWR := Lib.hid (write_end f mb m 8 _ (kk : Int) hs c _ 512 lx w5 HFL5.out HM5.out (by omega) (by omega) (by omega) HN5.out (fun q0 h0 => by injection h0 with h0; subst h0; exact fun e => fill_b5 (F := fun _ => True) HFL5.out HM5.out q _ HQ5.out (.inl e)) (by unfold maxLen; omega) (by omega) (by omega))
                unfold PutIs at HWR
                go_wp2_with fail
                refine HWR.out.mono ?_
                rintro e w6 ⟨rfl, hf6, hm6, hr6⟩
                have HR6 := Lib.hid hr6
                have HF6 := Lib.hid hf6
                have HM6 := Lib.hid hm6
                have HB6 := Lib.hid (hr6.toBelow HB5.out (fun j hj e => by rcases e with e | e <;> omega))
                have HW6 := Lib.hid (HW5.out.fr hr6 (by omega) (fill_b5 (F := fun _ => True) HFL5.out HM5.out))
                have HQ6 := Lib.hid (blk_fr HQ5.out hr6 (fill_b5 (F := fun _ => True) HFL5.out HM5.out q _ HQ5.out))
                have HON := Lib.hid (on_any f mb 8 _ _ _ _ w6 hf6)
                clear hr6 hf6 hm6 HWR HFL5
                obtain ⟨v0, k0⟩ := HW6.out.some hkk8
                have f0 := HW6.out.free kk
                have HW7 := Lib.hid (HW6.out.set hkk8 HQ6.out 8 (fun y hy => .inr hy))
                obtain ⟨w7, hw7⟩ : ∃ w7, w6.setCell ⟨g, kk, none⟩ (.slice (some ⟨q, 0, none⟩) 512 512) = w7 := ⟨_, rfl⟩
                rw [hw7] at HW7
                have hg7 : w6.grownBy w7 (some g) := by rw [← hw7]; exact grown_setCell w6 ⟨g, kk, none⟩ _
                have HF7 := Lib.hid (FlB.grown HF6.out hg7 (by omega))
                have HM7 := Lib.hid (HM6.out.grown hg7 (fun e => by injection e with e; omega))
                have HB7 := Lib.hid (HB6.out.trans (grown_new0 hg7 hgw HB6.out.size))
                have HU7 := Lib.hid hw7
                clear hg7 hw7
                go_wp2_with (first | (go_at_call 12; refine HON.out.mono ?_; rintro e w9 ⟨rfl, rfl⟩))
                try rw [HU7.out]
                go_roundw
                case rel => exact ⟨i + 1, i + 1, by go_num, by go_num, by omega, ⟨m + 1, _, _, _, HW7.out, fun j => (by unfold upN; split; exact HLX.out; exact HLB.out j), HM7.out, by omega, upCN HCL.out kk lx, HB7.out, .inr ⟨by omega, HF7.out, rfl⟩⟩⟩
                case measure => simp [intOf]; omega
          · have HMN := Lib.hid hmany
            clear hmany
            have HFL5 := Lib.hid (hF.gr hb5)
            clear hb5 hbq hbin hF
            have e1 : ¬ ((i : Int) + 1 < 1 + (pk : Int)) := by omega
            have e2 : ((i : Int) + 1 == 1 + (pk : Int)) = false := by simp; omega
            have HWR := Lib.hid (write_no f mb 8 _ _ (kk : Int) false _ (.slice (some ⟨q, 0, none⟩) 512 512) w5 HFL5.out 143 (by simp [clE]) rfl)
            go_wp2_with fail
            refine HWR.out.mono ?_
            rintro e w6 ⟨rfl, rfl⟩
            have HON := Lib.hid (on_any f mb 8 _ _ _ _ w5 HFL5.out)
            clear HWR
            go_wp2_with (first | (go_at_call 12; refine HON.out.mono ?_; rintro e w9 ⟨rfl, rfl⟩))
            go_roundw
            case rel => exact ⟨i + 1, many, by go_num, rfl, by omega, ⟨m, _, _, _, HW5.out, HLB.out, HM5.out, by omega, HCL.out, HB5.out, .inr ⟨by omega, HFL5.out, HMN.out⟩⟩⟩
            case measure => simp [intOf]; omega
        · obtain rfl : i = n := by omega
          clear hin
          rcases hph with ⟨hph, hF, rfl⟩ | ⟨hph, hF, hmany⟩
          · have e1 : ¬ (1 + (pk : Int) ≤ (i : Int)) := by omega
            have HR := Lib.hid (read_ok f mb m 8 _ _ 0 dn hs c wr hF HM.out (by omega) (by omega) (by omega))
            unfold ReadIs at HR
            have HF := Lib.hid hF
            clear hF
            go_wp2_with fail
            refine HR.out.mono ?_
            rintro e v1 ⟨q, rfl, hq, hbq, hbv⟩
            have HW8 := Lib.hid (HW.out.below hbv)
            have HF8 := Lib.hid (HF.out.gr hbv)
            have HM8 := Lib.hid (HM.out.gr hbv)
            have HB8 := Lib.hid (HB.out.trans (hbv.mono HB.out.size))
            have HWS := Lib.hid (writes_any f mb 8 _ _ _ _ v1 HF8.out)
            clear hbq hbv HR HW HF HM HB
            go_wp2_with (go_at_call 13; refine HWS.out.mono ?_; rintro e w9 ⟨rfl, rfl⟩)
            have HP := Lib.hid (power_any f mb 8 _ _ _ dn v1 HF8.out)
            unfold TurnF at HP
            refine HP.out.mono ?_
            rintro e w9 ⟨rfl, hf9, hg9⟩
            have HF9 := Lib.hid hf9
            have HM9 := Lib.hid (HM8.out.grown hg9 (fun e => hfm (by injection e with e; exact e.symm)))
            have HW9 := Lib.hid (HW8.out.fr (Fr.grown (F := fun j => j = f ∨ j = mb) hg9 (fun j e _ => by injection e with e; exact .inl e.symm)) (by omega) (fill_b5 (F := fun _ => True) HF8.out HM8.out))
            have HB9 := Lib.hid (HB8.out.trans (grown_new0 hg9 hf HB8.out.size))
            clear hf9 hg9 HP HF8 HM8 HW8 HB8
            go_wp2_with fail
            go_loopw [19] (fun v19 wr => ∃ (i3 : Nat), v19 = .int .i64 i3 ∧ i3 ≤ 8 ∧ WAt wr g 8 L ∧ FlB wr f mb 8 true 0 dn (i : Int) ∧ MAt wr mb m hs c ∧ Below w.heap.size w wr) (fun v19 _ => 8 - (intOf v19).toNat)
            case atStart => exact ⟨0, rfl, by omega, HW9.out, HF9.out, HM9.out, HB9.out⟩
            case round =>
              clear HW9 HF9 HM9 HB9
              obtain ⟨i3, rfl, hi3, hW, hF, hM, hB⟩ := hrel
              have HW := Lib.hid hW
              have HF := Lib.hid hF
              have HM := Lib.hid hM
              have HB := Lib.hid hB
              clear hW hF hM hB
              by_cases hi8 : i3 < 8
              · have hi8x : (i3 : Int) < 8 := by omega
                have HR := Lib.hid (read_ok f mb m 8 0 _ (i3 : Int) dn hs c wr HF.out HM.out (by omega) (by omega) (by omega))
                rw [HCL.out i3 hi8] at HR
                unfold ReadIs at HR
                clear hi8
                go_wp2_with fail
                refine HR.out.mono ?_
                rintro e v1 ⟨q, rfl, hq, hbq, hbv⟩
                have HW1 := Lib.hid (HW.out.below hbv)
                have HF1 := Lib.hid (HF.out.gr hbv)
                have HM1 := Lib.hid (HM.out.gr hbv)
                have HB1 := Lib.hid (HB.out.trans (hbv.mono HB.out.size))
                obtain ⟨q2, k0, hb2⟩ := HW1.out.cell (j := i3) (by omega) (HLB.out i3)
                have HS := Lib.hid (sameB_any v1 _ _ 512 512 512 512 (L i3) (L i3) (bin_blk hbq (HLB.out i3)) hb2)
                rw [decide_eq_true (Eq.refl (L i3))] at HS
                clear hbq hbv hb2 HR
                go_wp2_with (go_at_call 25; refine HS.out.mono ?_; rintro e v2 ⟨rfl, hbs⟩; have HW2 := Lib.hid (HW1.out.below hbs); have HF2 := Lib.hid (HF1.out.gr hbs); have HM2 := Lib.hid (HM1.out.gr hbs); have HB2 := Lib.hid (HB1.out.trans (hbs.mono HB1.out.size)); clear hbs k0)
                go_roundw
                case rel => exact ⟨i3 + 1, by go_num, by omega, HW2.out, HF2.out, HM2.out, HB2.out⟩
                case measure => simp [intOf]; omega
              · have hi8x : ¬ (i3 : Int) < 8 := by omega
                have HON := Lib.hid (on_any f mb 8 _ _ _ _ wr HF.out)
                clear hi8
                go_wp2_with (go_at_call 12; refine HON.out.mono ?_; rintro e w9 ⟨rfl, rfl⟩)
                go_ret
                exact ⟨rfl, HB.out⟩
          · have e1 : (1 + (pk : Int) ≤ (i : Int)) := by omega
            clear hmany
            have HR := Lib.hid (read_no f mb 8 _ _ 0 false dn wr hF 143 (by simp [clE]) rfl)
            have HF8 := Lib.hid hF
            clear hF
            have HW8 := Lib.hid HW.out
            have HM8 := Lib.hid HM.out
            have HB8 := Lib.hid HB.out
            have HWS := Lib.hid (writes_any f mb 8 _ _ _ _ wr HF8.out)
            clear HW HM HB
            go_wp2_with fail
            refine HR.out.mono ?_
            rintro e v1 ⟨rfl, rfl⟩
            go_wp2_with (go_at_call 13; refine HWS.out.mono ?_; rintro e w9 ⟨rfl, rfl⟩)
            have HP := Lib.hid (power_any f mb 8 _ _ _ dn wr HF8.out)
            unfold TurnF at HP
            refine HP.out.mono ?_
            rintro e w9 ⟨rfl, hf9, hg9⟩
            have HF9 := Lib.hid hf9
            have HM9 := Lib.hid (HM8.out.grown hg9 (fun e => hfm (by injection e with e; exact e.symm)))
            have HW9 := Lib.hid (HW8.out.fr (Fr.grown (F := fun j => j = f ∨ j = mb) hg9 (fun j e _ => by injection e with e; exact .inl e.symm)) (by omega) (fill_b5 (F := fun _ => True) HF8.out HM8.out))
            have HB9 := Lib.hid (HB8.out.trans (grown_new0 hg9 hf HB8.out.size))
            clear hf9 hg9 HP HF8 HM8 HW8 HB8
            go_wp2_with fail
            go_loopw [19] (fun v19 wr => ∃ (i3 : Nat), v19 = .int .i64 i3 ∧ i3 ≤ 8 ∧ WAt wr g 8 L ∧ FlB wr f mb 8 true 0 dn (many : Int) ∧ MAt wr mb m hs c ∧ Below w.heap.size w wr) (fun v19 _ => 8 - (intOf v19).toNat)
            case atStart => exact ⟨0, rfl, by omega, HW9.out, HF9.out, HM9.out, HB9.out⟩
            case round =>
              clear HW9 HF9 HM9 HB9
              obtain ⟨i3, rfl, hi3, hW, hF, hM, hB⟩ := hrel
              have HW := Lib.hid hW
              have HF := Lib.hid hF
              have HM := Lib.hid hM
              have HB := Lib.hid hB
              clear hW hF hM hB
              by_cases hi8 : i3 < 8
              · have hi8x : (i3 : Int) < 8 := by omega
                have HR := Lib.hid (read_ok f mb m 8 0 _ (i3 : Int) dn hs c wr HF.out HM.out (by omega) (by omega) (by omega))
                rw [HCL.out i3 hi8] at HR
                unfold ReadIs at HR
                clear hi8
                go_wp2_with fail
                refine HR.out.mono ?_
                rintro e v1 ⟨q, rfl, hq, hbq, hbv⟩
                have HW1 := Lib.hid (HW.out.below hbv)
                have HF1 := Lib.hid (HF.out.gr hbv)
                have HM1 := Lib.hid (HM.out.gr hbv)
                have HB1 := Lib.hid (HB.out.trans (hbv.mono HB.out.size))
                obtain ⟨q2, k0, hb2⟩ := HW1.out.cell (j := i3) (by omega) (HLB.out i3)
                have HS := Lib.hid (sameB_any v1 _ _ 512 512 512 512 (L i3) (L i3) (bin_blk hbq (HLB.out i3)) hb2)
                rw [decide_eq_true (Eq.refl (L i3))] at HS
                clear hbq hbv hb2 HR
                go_wp2_with (go_at_call 25; refine HS.out.mono ?_; rintro e v2 ⟨rfl, hbs⟩; have HW2 := Lib.hid (HW1.out.below hbs); have HF2 := Lib.hid (HF1.out.gr hbs); have HM2 := Lib.hid (HM1.out.gr hbs); have HB2 := Lib.hid (HB1.out.trans (hbs.mono HB1.out.size)); clear hbs k0)
                go_roundw
                case rel => exact ⟨i3 + 1, by go_num, by omega, HW2.out, HF2.out, HM2.out, HB2.out⟩
                case measure => simp [intOf]; omega
              · have hi8x : ¬ (i3 : Int) < 8 := by omega
                have HON := Lib.hid (on_any f mb 8 _ _ _ _ wr HF.out)
                clear hi8
                go_wp2_with (go_at_call 12; refine HON.out.mono ?_; rintro e w9 ⟨rfl, rfl⟩)
                go_ret
                exact ⟨rfl, HB.out⟩
end Go.Proofs.Ytlgpaglkhgomiaa
