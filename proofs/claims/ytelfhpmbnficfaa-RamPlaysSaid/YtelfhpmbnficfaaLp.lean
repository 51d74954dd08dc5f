/- RamPlays: the law. Condition: sizes. -/
import Derived.Test.YtelfhpmbnficfaaSt
import Derived.Test.YtelfhpmbnficfaaLa
import Derived.Test.YtelfhpmbnficfaaDf
import Derived.Test.YtelfhpmbnficfaaSz
import Derived.Test.YtelfhpmbnficfaaLw
import Derived.Deep.CutRange
namespace Go.Proofs.Ytelfhpmbnficfaa
open Go.RowKit
set_option linter.unusedVariables false
set_option maxRecDepth 100000
set_option linter.unusedSimpArgs false
theorem get_all (base a : Nat) (m : List Nat) (t : List Reg) (A : Option Addr) (c : Nat) (w : World) (hp : RAt w base a m t A c) (km : MOk m) :
    Calls Try.prog 12 #[.pointer (some ⟨a, 0, none⟩), .int .u64 1073741824, .int .u64 65536] w fun e w' => ∃ g c', e = .returned (.slice (some ⟨g, 0, none⟩) 65536 c') ∧ w'.ownsRow w.heap.size 5 1 (.slice (some ⟨g, 0, none⟩) 65536 c') 65536 (bytesV m) ∧ Below w.heap.size w w' := by
  have h := get_any base a 1073741824 65536 0 m t A c w hp km rfl (by omega)
  have e2 : (m.drop 0).take 65536 = m := by rw [List.drop_zero, List.take_of_length_le (by rw [km.ln]; exact Nat.le_refl _)]
  rw [e2] at h
  refine h.mono ?_
  rintro e w' ⟨A', c', he, ho, hb⟩
  rw [km.ln] at he ho
  rcases ho.2 with ⟨h0, h1⟩ | ⟨g, cap, cur, hv, rest⟩
  · omega
  · injection hv with v1 v2 v3
    subst v1
    exact ⟨g, c', he, ho, hb⟩
set_option maxRecDepth 100000 in
set_option maxHeartbeats 25600000 in
theorem play_walk (P : Option Addr) (np cp : Nat) (os : List OpR) (w : World) (hin : OIn w P np os) (hnp : np ≤ 140737488355328) :
    Calls Try.prog 3 #[.slice P np cp] w fun e w' => e = .returned (.bool true) ∧ Below w.heap.size w w' := by
  have HIN := Lib.hid hin
  clear hin
  go_enter Try.func3, Try.ntmps3
  go_wp2_with fail
  refine (new_any w).mono ?_
  rintro e w1 ⟨rfl, hP, hb⟩
  have HB := Lib.hid hb
  have HP := Lib.hid hP
  clear hb hP
  go_wp2_with (refine wpList_run rfl (exec_build (cs := (natsV .u8 m0 ++ [Value.slice none 0 0]).toArray) rfl rfl bldD) ?_)
  have hba : Below w.heap.size w (w1.alloc (.cells (natsV .u8 m0 ++ [Value.slice none 0 0]).toArray 29)) := HB.out.alloc HB.out.size _
  have HGA := Lib.hid (show Good w.heap.size w.heap.size w1.heap.size m0 [] (w1.alloc (.cells (natsV .u8 m0 ++ [Value.slice none 0 0]).toArray 29)) from ⟨⟨none, 0, HP.out.bel (Gr.alloc w1 _)⟩, ⟨none, 0, ⟨Blk.new w1 _ _, own_nil _ _ _ _⟩⟩, m0_ok, TOk.nil, Nat.le_refl _, HB.out.size, hba.size⟩)
  have HBA := Lib.hid hba
  clear hba HB HP
  refine (alive_any _).mono ?_
  rintro e w2 ⟨rfl, hb2⟩
  have HB2 := Lib.hid (HBA.out.trans (hb2.mono HBA.out.size))
  have HG2 := Lib.hid (HGA.out.grow hb2)
  obtain ⟨r, hr⟩ : ∃ r, w1.heap.size = r := ⟨_, rfl⟩
  rw [hr] at HG2
  rw [hr]
  clear hb2 HBA HGA hr
  go_wp2_with fail
  go_loopw [5] (fun v5 wr => ∃ (i : Nat) (m : List Nat) (t : List Reg), v5 = .int .i64 (i : Nat) ∧ i ≤ np ∧ i ≤ 300 ∧ Good w.heap.size w.heap.size r m t wr ∧ Below w.heap.size w wr) (fun v5 _ => 300 - (intOf v5).toNat)
  case atStart => exact ⟨0, m0, [], rfl, Nat.zero_le _, Nat.zero_le _, HG2.out, HB2.out⟩
  case round =>
    obtain ⟨i, m, t, rfl, hi, hi2, hgd, hbl⟩ := hrel
    have HG := Lib.hid hgd
    have HB := Lib.hid hbl
    clear hgd hbl HB2 HG2
    go_upto_region 6 with (fail)
    go_cut [25] from 18 to 36 (fun v25 wx => v25 = .bool (decide (i < np ∧ i < 300)) ∧ wr = wx)
    case first =>
      by_cases h1 : i < np
      · have q1 : (i : Int) < (np : Int) := by omega
        by_cases h2 : i < 300
        · have q2 : (i : Int) < 300 := by omega
          go_wp2_with fail
          go_meet
          case rel => exact ⟨congrArg Value.bool (decide_eq_true (p := i < np ∧ i < 300) ⟨h1, h2⟩).symm, rfl⟩
        · have q2 : ¬ (i : Int) < 300 := by omega
          go_wp2_with fail
          go_meet
          case rel => exact ⟨congrArg Value.bool (decide_eq_false (p := i < np ∧ i < 300) (fun h => h2 h.2)).symm, rfl⟩
      · have q1 : ¬ (i : Int) < (np : Int) := by omega
        go_wp2_with fail
        go_meet
        case rel => exact ⟨congrArg Value.bool (decide_eq_false (p := i < np ∧ i < 300) (fun h => h1 h.1)).symm, rfl⟩
    case rest =>
      obtain ⟨rfl, rfl⟩ := hcut
      by_cases hmn : i < np ∧ i < 300
      · have hd : decide (i < np ∧ i < 300) = true := decide_eq_true hmn
        rw [hd]
        obtain ⟨hmn1, hmn2⟩ := hmn
        have q1 : (i : Int) < (np : Int) := by omega
        obtain ⟨bk, off, rfl, hcell⟩ := HIN.out.2.2.resolve_left (by omega)
        obtain ⟨x, hx⟩ : ∃ x, os[i]? = some x := ⟨_, List.getElem?_eq_getElem (by rw [HIN.out.1]; exact hmn1)⟩
        have hc := hcell i x hx
        have hfit := HIN.out.2.1 x (List.mem_of_getElem? hx)
        obtain ⟨kd, ⟨b, s, rd, wrt, ex, sc⟩, sec, ac, p, z, B, n, cb, bl⟩ := x
        have HS := Lib.hid (step_all ⟨kd, ⟨b, s, rd, wrt, ex, sc⟩, sec, ac, p, z, B, n, cb, bl⟩ w.heap.size w.heap.size r m t wr HG.out hfit.r hfit.ac hfit.p hfit.s (fun W hW => hfit.b.below (HB.out.trans hW)))
        have hcl : ∀ j u, (OpR.cs ⟨kd, ⟨b, s, rd, wrt, ex, sc⟩, sec, ac, p, z, B, n, cb, bl⟩)[j]? = some u → wr.cell? ⟨bk, off + i * 12 + j, none⟩ = some u := fun j u h => (HB.out.cell (World.block_lt_of_cell? w _ (hc j u h))).trans (hc j u h)
        have e0 : wr.cell? ⟨bk, off + i * 12, none⟩ = some (.int .i64 kd) := hcl 0 _ rfl
        have e1 : wr.cell? ⟨bk, off + i * 12 + 1, none⟩ = some (.int .u64 (b : Nat)) := hcl 1 _ rfl
        have e2 : wr.cell? ⟨bk, off + i * 12 + 2, none⟩ = some (.int .u64 (s : Nat)) := hcl 2 _ rfl
        have e3 : wr.cell? ⟨bk, off + i * 12 + 3, none⟩ = some (.bool rd) := hcl 3 _ rfl
        have e4 : wr.cell? ⟨bk, off + i * 12 + 4, none⟩ = some (.bool wrt) := hcl 4 _ rfl
        have e5 : wr.cell? ⟨bk, off + i * 12 + 5, none⟩ = some (.bool ex) := hcl 5 _ rfl
        have e6 : wr.cell? ⟨bk, off + i * 12 + 6, none⟩ = some (.bool sc) := hcl 6 _ rfl
        have e7 : wr.cell? ⟨bk, off + i * 12 + 7, none⟩ = some (.bool sec) := hcl 7 _ rfl
        have e8 : wr.cell? ⟨bk, off + i * 12 + 8, none⟩ = some (.int .i64 ac) := hcl 8 _ rfl
        have e9 : wr.cell? ⟨bk, off + i * 12 + 9, none⟩ = some (.int .u64 (p : Nat)) := hcl 9 _ rfl
        have e10 : wr.cell? ⟨bk, off + i * 12 + 10, none⟩ = some (.int .u64 (z : Nat)) := hcl 10 _ rfl
        have e11 : wr.cell? ⟨bk, off + i * 12 + 11, none⟩ = some (.slice B n cb) := hcl 11 _ rfl
        clear hcell hx hc hfit hcl
        go_wp2_with fail
        refine HS.out.mono ?_
        rintro e w3 ⟨rfl, ⟨m2, t2, hg3⟩, hb3⟩
        have HG3 := Lib.hid hg3
        have HB3 := Lib.hid (HB.out.trans hb3)
        clear hg3 hb3 HS e0 e1 e2 e3 e4 e5 e6 e7 e8 e9 e10 e11
        go_wp2_with fail
        go_roundw
        case rel => exact ⟨i + 1, m2, t2, by go_num, by omega, by omega, HG3.out, HB3.out⟩
        case measure => simp [intOf]; omega
      · have hd : decide (i < np ∧ i < 300) = false := decide_eq_false hmn
        rw [hd]
        obtain ⟨A1, c1, hpa⟩ := HG.out.pa
        obtain ⟨A2, c2, hra⟩ := HG.out.ra
        have HK := Lib.hid (peek_all w.heap.size w.heap.size m t A1 c1 wr hpa HG.out.km)
        have HPA := Lib.hid hpa
        have HRA := Lib.hid hra
        clear hmn hd hpa hra
        go_wp2_with fail
        refine HK.out.mono ?_
        rintro e w5 ⟨g1, d1, rfl, ho1, hb5⟩
        have HO1 := Lib.hid ho1
        have HP5 := Lib.hid (HPA.out.bel hb5)
        have HR5 := Lib.hid (HRA.out.bel hb5)
        have HB5 := Lib.hid (bel_gr HB.out HG.out.sz hb5)
        have HZ5 := Lib.hid (Nat.le_trans HG.out.sz hb5.size)
        clear ho1 hb5 HK HPA HRA
        go_upto_region 12 with (fail)
        have HTAB := Lib.hid (HR5.out.tab HG.out.km)
        refine wp_region_L (fun w_ => Gr w5 w_) [] [] (by kernel_rfl) (Gr.drew _) ?_
        refine wpAnyL_take (oi := _) (v := _) (fun _ _ hS_ hb_ => Gr.trans hS_ hb_) (i := 0) rfl (by kernel_rfl) (fun _ _ _ h => h) (pureG (by rfl) (by intro w; go_simp; first | done | with_reducible rfl)) ?_
        try simp only [Act.put, List.getElem_toArray, List.getElem_cons_succ, List.getElem_cons_zero, List.setIfInBounds_toArray, List.set_cons_zero, List.set_cons_succ]
        refine wpAnyL_take (oi := _) (v := _) (fun _ _ hS_ hb_ => Gr.trans hS_ hb_) (i := 1) rfl (by kernel_rfl) (fun _ _ _ h => h) (pureG (by rfl) (by intro w; go_simp; first | done | with_reducible rfl)) ?_
        try simp only [Act.put, List.getElem_toArray, List.getElem_cons_succ, List.getElem_cons_zero, List.setIfInBounds_toArray, List.set_cons_zero, List.set_cons_succ]
        refine wpAnyL_take (oi := _) (v := _) (fun _ _ hS_ hb_ => Gr.trans hS_ hb_) (i := 2) rfl (by kernel_rfl) (fun _ _ _ h => h) (pureG (by rfl) (by intro w; go_simp; first | done | with_reducible rfl)) ?_
        try simp only [Act.put, List.getElem_toArray, List.getElem_cons_succ, List.getElem_cons_zero, List.setIfInBounds_toArray, List.set_cons_zero, List.set_cons_succ]
        refine wpAnyL_take (oi := _) (v := _) (fun _ _ hS_ hb_ => Gr.trans hS_ hb_) (i := 3) rfl (by kernel_rfl) (fun _ _ _ h => h) (pureG (by rfl) (by intro w; go_simp; first | done | with_reducible rfl)) ?_
        try simp only [Act.put, List.getElem_toArray, List.getElem_cons_succ, List.getElem_cons_zero, List.setIfInBounds_toArray, List.set_cons_zero, List.set_cons_succ]
        refine wpAnyL_take (oi := _) (v := _) (fun _ _ hS_ hb_ => Gr.trans hS_ hb_) (i := 4) rfl (by kernel_rfl) (fun _ _ _ h => h) (pureG (by rfl) (by intro w; go_simp; first | done | with_reducible rfl)) ?_
        try simp only [Act.put, List.getElem_toArray, List.getElem_cons_succ, List.getElem_cons_zero, List.setIfInBounds_toArray, List.set_cons_zero, List.set_cons_succ]
        refine wpAnyL_one (i := 5) (by kernel_rfl) rfl (fun W1 hW1 hS1 => ?_)
        refine wpOp_callE (i := 5) rfl (by rfl) rfl Try.func12 (by kernel_rfl) (by kernel_rfl) #[.pointer (some ⟨r, 0, none⟩), .int .u64 1073741824, .int .u64 65536] (by simp [Act.eval]) ((get_all w.heap.size r m t A2 c2 W1 (HR5.out.bel hS1) HG.out.km).mono ?_)
        rintro e W2 ⟨g2, d2, rfl, ho2, hb2⟩
        refine ⟨_, rfl, Gr.trans hS1 hb2, ?_⟩
        try simp only [Act.put, List.getElem_toArray, List.getElem_cons_succ, List.getElem_cons_zero, List.setIfInBounds_toArray, List.set_cons_zero, List.set_cons_succ]
        refine wpAnyL_one (i := 6) (by kernel_rfl) rfl (fun W3 hW3 hS3 => ?_)
        have hx3 := own_below HO1.out hS3
        have hy3 := own_below ho2 hW3
        obtain ⟨_, _, ex, hbx, _⟩ := own_in hx3 HG.out.km.bd (by omega)
        injection ex with ex1 ex2 ex3
        subst ex1 ex3
        obtain ⟨_, _, ey, hby, _⟩ := own_in hy3 HG.out.km.bd (by omega)
        injection ey with ey1 ey2 ey3
        subst ey1 ey3
        have hs := sameB_any W3 _ _ _ _ _ _ m m hbx hby
        rw [show decide (m = m) = true from by simp] at hs
        refine wpOp_callE (i := 6) rfl (by rfl) rfl Try.func11 (by kernel_rfl) (by kernel_rfl) #[.slice (some ⟨g1, 0, none⟩) 65536 d1, .slice (some ⟨g2, 0, none⟩) 65536 d2] (by simp [Act.eval]) (hs.mono ?_)
        rintro e W4 ⟨rfl, hb4⟩
        refine ⟨_, rfl, Gr.trans hS3 hb4, ?_⟩
        try simp only [Act.put, List.getElem_toArray, List.getElem_cons_succ, List.getElem_cons_zero, List.setIfInBounds_toArray, List.set_cons_zero, List.set_cons_succ]
        refine wpAnyL_take (oi := _) (v := _) (fun _ _ hS_ hb_ => Gr.trans hS_ hb_) (i := 7) rfl (by kernel_rfl) (fun _ _ _ h => h) (pureG (by rfl) (by intro w; go_simp; first | done | with_reducible rfl)) ?_
        try simp only [Act.put, List.getElem_toArray, List.getElem_cons_succ, List.getElem_cons_zero, List.setIfInBounds_toArray, List.set_cons_zero, List.set_cons_succ]
        refine wpAnyL_take (oi := _) (v := _) (fun _ _ hS_ hb_ => Gr.trans hS_ hb_) (i := 8) rfl (by kernel_rfl) (fun _ _ _ h => h) (pureG (by rfl) (by intro w; go_simp; first | done | with_reducible rfl)) ?_
        try simp only [Act.put, List.getElem_toArray, List.getElem_cons_succ, List.getElem_cons_zero, List.setIfInBounds_toArray, List.set_cons_zero, List.set_cons_succ]
        refine wpAnyL_take (oi := _) (v := _) (fun _ _ hS_ hb_ => Gr.trans hS_ hb_) (i := 9) rfl (by kernel_rfl) (fun _ _ _ h => h) (pureG (by rfl) (by intro w; go_simp; first | done | with_reducible rfl)) ?_
        try simp only [Act.put, List.getElem_toArray, List.getElem_cons_succ, List.getElem_cons_zero, List.setIfInBounds_toArray, List.set_cons_zero, List.set_cons_succ]
        refine wpAnyL_take (oi := _) (v := _) (fun _ _ hS_ hb_ => Gr.trans hS_ hb_) (i := 11) rfl (by kernel_rfl) (fun _ _ _ h => h) (pureG (by rfl) (by intro w; go_simp; first | done | with_reducible rfl)) ?_
        try simp only [Act.put, List.getElem_toArray, List.getElem_cons_succ, List.getElem_cons_zero, List.setIfInBounds_toArray, List.set_cons_zero, List.set_cons_succ]
        refine wpAnyL_take (oi := _) (v := _) (fun _ _ hS_ hb_ => Gr.trans hS_ hb_) (i := 12) rfl (by kernel_rfl) (fun _ _ _ h => h) (pureG (by rfl) (by intro w; go_simp; first | done | with_reducible rfl)) ?_
        try simp only [Act.put, List.getElem_toArray, List.getElem_cons_succ, List.getElem_cons_zero, List.setIfInBounds_toArray, List.set_cons_zero, List.set_cons_succ]
        refine wpAnyL_take (oi := _) (v := _) (fun _ _ hS_ hb_ => Gr.trans hS_ hb_) (i := 13) rfl (by kernel_rfl) (fun _ _ _ h => h) (pureG (by rfl) (by intro w; go_simp; first | done | with_reducible rfl)) ?_
        try simp only [Act.put, List.getElem_toArray, List.getElem_cons_succ, List.getElem_cons_zero, List.setIfInBounds_toArray, List.set_cons_zero, List.set_cons_succ]
        refine wpAnyL_take (oi := _) (v := _) (fun _ _ hS_ hb_ => Gr.trans hS_ hb_) (i := 14) rfl (by kernel_rfl) (fun _ _ _ h => h) (worldG (by rfl) (by intro w_ hS_; have q0_ := gcell HTAB.out hS_; go_simp; first | done | with_reducible rfl)) ?_
        try simp only [Act.put, List.getElem_toArray, List.getElem_cons_succ, List.getElem_cons_zero, List.setIfInBounds_toArray, List.set_cons_zero, List.set_cons_succ]
        refine wpAnyL_one (i := 10) (by kernel_rfl) rfl (fun W5 hW5 hS5 => ?_)
        refine wpOp_callE (i := 10) rfl (by rfl) rfl Try.func14 (by kernel_rfl) (by kernel_rfl) #[.pointer (some ⟨w.heap.size, 0, none⟩)] (by simp [Act.eval]) ((regions_any w.heap.size w.heap.size m t A1 c1 W5 (HP5.out.bel hS5) HG.out.km HG.out.kt (Nat.le_trans HZ5.out hS5.size)).mono ?_)
        rintro e W6 ⟨AL, cL, rfl, ho6, hb6⟩
        refine ⟨_, rfl, Gr.trans hS5 hb6, ?_⟩
        try simp only [Act.put, List.getElem_toArray, List.getElem_cons_succ, List.getElem_cons_zero, List.setIfInBounds_toArray, List.set_cons_zero, List.set_cons_succ]
        refine wpAnyL_one (i := 15) (by kernel_rfl) rfl (fun W7 hW7 hS7 => ?_)
        have hrd := (HR5.out.bel hS7).head t.length (Nat.le_refl _)
        rw [List.take_length] at hrd
        have hs7 := same_regs W7 AL A2 t.length cL c2 t (own_rin (own_below ho6 hW7)) hrd HG.out.kt.len
        refine wpOp_callE (i := 15) rfl (by rfl) rfl Try.func13 (by kernel_rfl) (by kernel_rfl) #[.slice AL t.length cL, .slice A2 t.length c2] (by simp [Act.eval]) (hs7.mono ?_)
        rintro e W8 ⟨rfl, hb8⟩
        refine ⟨_, rfl, Gr.trans hS7 hb8, ?_⟩
        try simp only [Act.put, List.getElem_toArray, List.getElem_cons_succ, List.getElem_cons_zero, List.setIfInBounds_toArray, List.set_cons_zero, List.set_cons_succ]
        refine wpAnyL_take (oi := _) (v := _) (fun _ _ hS_ hb_ => Gr.trans hS_ hb_) (i := 16) rfl (by kernel_rfl) (fun _ _ _ h => h) (pureG (by rfl) (by intro w; go_simp; first | done | with_reducible rfl)) ?_
        try simp only [Act.put, List.getElem_toArray, List.getElem_cons_succ, List.getElem_cons_zero, List.setIfInBounds_toArray, List.set_cons_zero, List.set_cons_succ]
        refine wpAnyL_take (oi := _) (v := _) (fun _ _ hS_ hb_ => Gr.trans hS_ hb_) (i := 17) rfl (by kernel_rfl) (fun _ _ _ h => h) (pureG (by rfl) (by intro w; go_simp; first | done | with_reducible rfl)) ?_
        try simp only [Act.put, List.getElem_toArray, List.getElem_cons_succ, List.getElem_cons_zero, List.setIfInBounds_toArray, List.set_cons_zero, List.set_cons_succ]
        refine wpAnyL_done (by kernel_rfl) (fun WA hWA => ?_) _
        have HBF := Lib.hid (bel_gr HB5.out HZ5.out (Gr.trans (Gr.trans hS7 hb8) hWA))
        clear hWA hb8 hS7 hs7 hrd ho6 hb6 hS5 hW5 hb4 hs hbx hby ho2 hb2 hW7 hW3 hS3 hx3 hy3 hW1 hS1
        go_wp2_with fail
        go_ret
        exact ⟨by simp, HBF.out⟩
end Go.Proofs.Ytelfhpmbnficfaa
