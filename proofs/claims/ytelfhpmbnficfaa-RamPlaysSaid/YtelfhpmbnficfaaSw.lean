/- RamPlays: Regions. No condition. -/
import Derived.Test.YtelfhpmbnficfaaSt
import Derived.Test.YtelfhpmbnficfaaLa
import Derived.Test.YtelfhpmbnficfaaDf
import Derived.Test.YtelfhpmbnficfaaSh
namespace Go.Proofs.Ytelfhpmbnficfaa
open Go.RowKit
set_option linter.unusedVariables false
set_option maxRecDepth 100000
set_option linter.unusedSimpArgs false
theorem bldR : Try.prog.built 34 [] = some (regD r0).toArray := by kernel_rfl
set_option maxRecDepth 100000 in
set_option maxHeartbeats 12800000 in
theorem step_3 (b s : Nat) (rd wrt ex sc sec : Bool) (ac : Int) (p z : Nat) (B : Option Addr) (n cb : Nat) (bl : List Nat) (base a r : Nat) (m : List Nat) (t : List Reg) (w : World) (h : Good base a r m t w) (hx : RFit ⟨b, s, rd, wrt, ex, sc⟩) (hac : I64 ac) (hp : U64 p) (hz : U64 z) (hB : ∀ W, Below base w W → BIn W B n cb bl) :
    Calls Try.prog 9 #[.pointer (some ⟨a, 0, none⟩), .pointer (some ⟨r, 0, none⟩), .agg #[.int .i64 3, .int .u64 (b : Nat), .int .u64 (s : Nat), .bool rd, .bool wrt, .bool ex, .bool sc, .bool sec, .int .i64 ac, .int .u64 (p : Nat), .int .u64 (z : Nat), .slice B n cb]] w (StepOk base a r w) := by
  have hg0 := Gr.alloc w (.cells #[.int .i64 3, .int .u64 (b : Nat), .int .u64 (s : Nat), .bool rd, .bool wrt, .bool ex, .bool sc, .bool sec, .int .i64 ac, .int .u64 (p : Nat), .int .u64 (z : Nat), .slice B n cb] 38)
  have HX := Lib.hid (Blk.new w 38 [.int .i64 3, .int .u64 (b : Nat), .int .u64 (s : Nat), .bool rd, .bool wrt, .bool ex, .bool sc, .bool sec, .int .i64 ac, .int .u64 (p : Nat), .int .u64 (z : Nat), .slice B n cb])
  have HG0 := Lib.hid hg0
  have HG := Lib.hid (h.grow hg0)
  have HSZ := Lib.hid h.sz
  have HFX := Lib.hid hx
  have HAC := Lib.hid hac
  have HPU := Lib.hid hp
  have HZU := Lib.hid hz
  have HBB := Lib.hid hB
  clear h hg0 hx hac hp hz hB
  go_enter Try.func9, Try.ntmps9
  go_upto_region 7 with (fail)
  obtain ⟨w1, hw1⟩ : ∃ w1, w.alloc (.cells #[.int .i64 3, .int .u64 (b : Nat), .int .u64 (s : Nat), .bool rd, .bool wrt, .bool ex, .bool sc, .bool sec, .int .i64 ac, .int .u64 (p : Nat), .int .u64 (z : Nat), .slice B n cb] 38) = w1 := ⟨_, rfl⟩
  try rw [hw1]
  have hw1' : w.alloc (.cells ([.int .i64 3, .int .u64 (b : Nat), .int .u64 (s : Nat), .bool rd, .bool wrt, .bool ex, .bool sc, .bool sec, .int .i64 ac, .int .u64 (p : Nat), .int .u64 (z : Nat), .slice B n cb] : List Value).toArray 38) = w1 := hw1
  rw [hw1] at HG0 HG
  rw [hw1'] at HX
  clear hw1 hw1'
  have HB1 := Lib.hid (show Below base w w1 from bel_gr ((HG0.out : Below w.heap.size w w1).mono HSZ.out) HG.out.sz (Gr.refl w1))
  obtain ⟨A1, c1, hpa⟩ := HG.out.pa
  obtain ⟨A2, c2, hra⟩ := HG.out.ra
  have HPA := Lib.hid hpa
  have HRA := Lib.hid hra
  have HC := Lib.hid (regions_any base a m t A1 c1 w1 hpa HG.out.km HG.out.kt HG.out.sz)
  clear hpa hra
  go_wp2_with fail
  refine HC.out.mono ?_
  rintro e w2 ⟨AL, cL, rfl, hown, hb2⟩
  have htb := (HRA.out.bel hb2).tab HG.out.km
  have HR2 := Lib.hid (HRA.out.bel hb2)
  have HP2 := Lib.hid (HPA.out.bel hb2)
  have HB2 := Lib.hid (bel_gr HB1.out HG.out.sz hb2)
  have HS2 := Lib.hid (show w1.heap.size ≤ w2.heap.size from hb2.size)
  have hl := HG.out.kt.len
  have hrd := HR2.out.head t.length (Nat.le_refl _)
  rw [List.take_length] at hrd
  have HSM := Lib.hid (same_regs w2 AL A2 t.length cL c2 t (own_rin hown) hrd hl)
  have hth : t.length = 0 ∨ ∃ g cs, AL = some ⟨g, 0, none⟩ ∧ w1.heap.size ≤ g ∧ Blk w2 g 34 cs ∧ t.length * 6 ≤ cs.length := by
    rcases hown.2 with ⟨h0, h1⟩ | ⟨g, cap, cur, he, hbg, hg, h1, h2, h3, h4⟩
    · exact .inl h1
    · injection he with e1 e2 e3
      subst e1 e3
      exact .inr ⟨g, cur.toList, rfl, hbg, (by unfold Blk; simpa using hg), by have h5 : cur.toList.length = cur.size := Array.length_toList; omega⟩
  have HTH := Lib.hid hth
  obtain ⟨n, hn⟩ : ∃ n, t.length = n := ⟨_, rfl⟩
  rw [hn] at htb hl HSM HTH ⊢
  clear hown hb2 HC hrd hth hn
  go_wp2_with fail
  refine HSM.out.mono ?_
  rintro e w3 ⟨rfl, hb3⟩
  have HP3 := Lib.hid (HP2.out.bel hb3)
  have HR3 := Lib.hid (HR2.out.bel hb3)
  have HB3 := Lib.hid (bel_gr HB2.out (Nat.le_trans HG.out.sz HS2.out) hb3)
  have HT3 := Lib.hid (show n = 0 ∨ ∃ g, AL = some ⟨g, 0, none⟩ ∧ w1.heap.size ≤ g ∧ w3.there g 0 (n * 6) from by
    rcases HTH.out with h0 | ⟨g, cs, h1, h2, h3, h4⟩
    · exact .inl h0
    · exact .inr ⟨g, h1, h2, fun j hj => by rw [Nat.zero_add]; exact (Blk.below' h3 hb3).there j (by omega)⟩)
  clear hb3 HSM htb
  go_wp2_with fail
  go_loopw [9] (fun v9 wk => ∃ k : Nat, v9 = .int .i64 (k : Nat) ∧ k ≤ n ∧ PAt wk base a m t A1 c1 ∧ RAt wk base r m t A2 c2 ∧ Below base w wk ∧ (n = 0 ∨ ∃ g, AL = some ⟨g, 0, none⟩ ∧ w1.heap.size ≤ g ∧ wk.there g 0 (n * 6))) (fun v9 _ => n - (intOf v9).toNat)
  case atStart => exact ⟨0, rfl, Nat.zero_le _, HP3.out, HR3.out, HB3.out, HT3.out⟩
  case round =>
    obtain ⟨k, rfl, hk, hpk, hrk, hbk, htk⟩ := hrel
    have HPK := Lib.hid hpk
    have HRK := Lib.hid hrk
    have HBK := Lib.hid hbk
    clear hpk hrk hbk HP3 HR3 HB3 HT3
    by_cases hkn : k < n
    · have hkI : (k : Int) < (n : Int) := by omega
      obtain ⟨g, rfl, hg, hth⟩ := htk.resolve_left (by omega)
      have HTK := Lib.hid hth
      have HGE := Lib.hid hg
      clear htk hth hg
      go_upto_region 12 with (fail)
      refine wp_region_lit ?_
      refine wpList_run (v := _) (w' := wr) rfl (by go_simp; first | done | with_reducible rfl) ?_
      try simp only [Act.put, List.getElem_toArray, List.getElem_cons_succ, List.getElem_cons_zero, List.setIfInBounds_toArray, List.set_cons_zero, List.set_cons_succ]
      refine wpList_run (v := _) (w' := wr) rfl (by go_simp; first | done | with_reducible rfl) ?_
      try simp only [Act.put, List.getElem_toArray, List.getElem_cons_succ, List.getElem_cons_zero, List.setIfInBounds_toArray, List.set_cons_zero, List.set_cons_succ]
      refine wpList_run (v := .agg (regD r0).toArray) (w' := wr) rfl (exec_build (cs := (regD r0).toArray) rfl rfl bldR) ?_
      try simp only [Act.put, List.getElem_toArray, List.getElem_cons_succ, List.getElem_cons_zero, List.setIfInBounds_toArray, List.set_cons_zero, List.set_cons_succ]
      refine wpList_run (v := .pointer (some ⟨g, k * 6, none⟩)) (w' := wr) rfl (by go_simp; first | done | with_reducible rfl) ?_
      try simp only [Act.put, List.getElem_toArray, List.getElem_cons_succ, List.getElem_cons_zero, List.setIfInBounds_toArray, List.set_cons_zero, List.set_cons_succ]
      refine wpList_store_mid rfl 34 (.tmp 60) (.tmp 59) rfl g (k * 6) (regD r0).toArray rfl rfl (fun j hj => by
        have hj6 : j < 6 := by simpa [regD] using hj
        have := HTK.out (k * 6 + j) (by omega)
        rwa [Nat.zero_add] at this) info34 (allD r0) ?_
      have hgr := grown_setCells g (regD r0).toArray.toList (k * 6) wr
      have HTN := Lib.hid (World.there_setCells HTK.out g (k * 6) (regD r0).toArray.toList)
      obtain ⟨w5, hw5⟩ : ∃ w5, wr.setCells g (k * 6) (regD r0).toArray.toList = w5 := ⟨_, rfl⟩
      rw [hw5] at hgr HTN
      try rw [hw5]
      try simp only [Act.put, List.getElem_toArray, List.getElem_cons_succ, List.getElem_cons_zero, List.setIfInBounds_toArray, List.set_cons_zero, List.set_cons_succ]
      unfold wpList
      have HP5 := Lib.hid (HPA.out.held HPK.out hgr HGE.out)
      have HR5 := Lib.hid (HRA.out.held HRK.out hgr HGE.out)
      have HB5 := Lib.hid (below_grown HBK.out hgr (Nat.le_trans HG.out.sz HGE.out) (Nat.le_trans HSZ.out HBK.out.size))
      clear hgr hw5 HPK HRK HBK HTK
      go_wp2_with fail
      go_roundw
      case rel => exact ⟨k + 1, by go_num, hkn, HP5.out, HR5.out, HB5.out, .inr ⟨g, rfl, HGE.out, HTN.out⟩⟩
      case measure => simp [intOf]; omega
    · obtain rfl : k = n := by omega
      clear htk hkn
      go_wp2_with fail
      go_ret
      exact ⟨by simp, ⟨m, t, ⟨A1, c1, HPK.out⟩, ⟨A2, c2, HRK.out⟩, HG.out.km, HG.out.kt, HG.out.ha, HG.out.hr, Nat.le_trans HSZ.out HBK.out.size⟩, HBK.out⟩
end Go.Proofs.Ytelfhpmbnficfaa
