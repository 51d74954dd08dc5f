/- RamPlays: Find and Wipe. No condition. -/
import Derived.Test.YtelfhpmbnficfaaSt
import Derived.Test.YtelfhpmbnficfaaLa
import Derived.Test.YtelfhpmbnficfaaDf
namespace Go.Proofs.Ytelfhpmbnficfaa
open Go.RowKit
set_option linter.unusedVariables false
set_option maxRecDepth 100000
set_option linter.unusedSimpArgs false
set_option maxRecDepth 100000 in
set_option maxHeartbeats 12800000 in
theorem step_4 (b s : Nat) (rd wrt ex sc sec : Bool) (ac : Int) (p z : Nat) (B : Option Addr) (n cb : Nat) (bl : List Nat) (base a r : Nat) (m : List Nat) (t : List Reg) (w : World) (h : Good base a r m t w) (hx : RFit ⟨b, s, rd, wrt, ex, sc⟩) (hac : I64 ac) (hp : U64 p) (hz : U64 z) (hB : ∀ W, Below base w W → BIn W B n cb bl) :
    Calls Try.prog 9 #[.pointer (some ⟨a, 0, none⟩), .pointer (some ⟨r, 0, none⟩), .agg #[.int .i64 4, .int .u64 (b : Nat), .int .u64 (s : Nat), .bool rd, .bool wrt, .bool ex, .bool sc, .bool sec, .int .i64 ac, .int .u64 (p : Nat), .int .u64 (z : Nat), .slice B n cb]] w (StepOk base a r w) := by
  have hg0 := Gr.alloc w (.cells #[.int .i64 4, .int .u64 (b : Nat), .int .u64 (s : Nat), .bool rd, .bool wrt, .bool ex, .bool sc, .bool sec, .int .i64 ac, .int .u64 (p : Nat), .int .u64 (z : Nat), .slice B n cb] 38)
  have HX := Lib.hid (Blk.new w 38 [.int .i64 4, .int .u64 (b : Nat), .int .u64 (s : Nat), .bool rd, .bool wrt, .bool ex, .bool sc, .bool sec, .int .i64 ac, .int .u64 (p : Nat), .int .u64 (z : Nat), .slice B n cb])
  have HG0 := Lib.hid hg0
  have HG := Lib.hid (h.grow hg0)
  have HSZ := Lib.hid h.sz
  have HFX := Lib.hid hx
  have HAC := Lib.hid hac
  have HPU := Lib.hid hp
  have HZU := Lib.hid hz
  have HBB := Lib.hid hB
  clear h hg0 hx hac hp hz hB
  go_enter Try.func9, Try.ntmps9
  go_upto_region 15 with (fail)
  obtain ⟨w1, hw1⟩ : ∃ w1, w.alloc (.cells #[.int .i64 4, .int .u64 (b : Nat), .int .u64 (s : Nat), .bool rd, .bool wrt, .bool ex, .bool sc, .bool sec, .int .i64 ac, .int .u64 (p : Nat), .int .u64 (z : Nat), .slice B n cb] 38) = w1 := ⟨_, rfl⟩
  try rw [hw1]
  have hw1' : w.alloc (.cells ([.int .i64 4, .int .u64 (b : Nat), .int .u64 (s : Nat), .bool rd, .bool wrt, .bool ex, .bool sc, .bool sec, .int .i64 ac, .int .u64 (p : Nat), .int .u64 (z : Nat), .slice B n cb] : List Value).toArray 38) = w1 := hw1
  rw [hw1] at HG0 HG
  rw [hw1'] at HX
  clear hw1 hw1'
  have HB1 := Lib.hid (show Below base w w1 from bel_gr ((HG0.out : Below w.heap.size w w1).mono HSZ.out) HG.out.sz (Gr.refl w1))
  have e9 : w1.cell? ⟨w.heap.size, 9, none⟩ = some (.int .u64 (p : Nat)) := (HX.out).cell 9
  obtain ⟨A1, c1, hpa⟩ := HG.out.pa
  obtain ⟨A2, c2, hra⟩ := HG.out.ra
  have hfv : ∃ (fb fs : Nat) (fr fw fx fc fq : Bool), fndV (fnd t p) = .tuple #[.agg #[.int .u64 (fb : Nat), .int .u64 (fs : Nat), .bool fr, .bool fw, .bool fx, .bool fc], .bool fq] := by
    cases fnd t p with
    | none => exact ⟨_, _, _, _, _, _, _, rfl⟩
    | some y => exact ⟨_, _, _, _, _, _, _, rfl⟩
  obtain ⟨fb, fs, fr, fw, fx, fc, fq, hfv⟩ := hfv
  have hc := find_any base a m t A1 c1 p w1 hpa HG.out.km HG.out.kt
  rw [hfv] at hc
  have HC := Lib.hid hc
  have HC2 := Lib.hid (fun W (hW : RAt W base r m t A2 c2) => by have := rfind_any base r m t A2 c2 p W hW HG.out.km HG.out.kt HPU.out; rw [hfv] at this; exact this)
  have HPA := Lib.hid hpa
  have HRA := Lib.hid hra
  clear hpa hra hfv hc
  go_wp2_with fail
  refine HC.out.mono ?_
  rintro e w2 ⟨rfl, hb2⟩
  have HG2 := Lib.hid (show Gr w1 w2 from hb2)
  clear hb2 e9
  go_upto_region 16 with (fail)
  obtain ⟨w3, hw3⟩ : ∃ w3, w2.alloc (.cells (regD ⟨fb, fs, fr, fw, fx, fc⟩).toArray 34) = w3 := ⟨_, rfl⟩
  have hw3' : w2.alloc (.cells #[.int .u64 (fb : Nat), .int .u64 (fs : Nat), .bool fr, .bool fw, .bool fx, .bool fc] 34) = w3 := hw3
  try rw [hw3']
  have HG3 := Lib.hid (show Gr w1 w3 from by rw [← hw3]; exact HG2.out.trans (Gr.alloc w2 _))
  have HX3 := Lib.hid (show Blk w3 w2.heap.size 34 (regD ⟨fb, fs, fr, fw, fx, fc⟩) from by rw [← hw3]; exact Blk.new w2 _ _)
  have e9 : w3.cell? ⟨w.heap.size, 9, none⟩ = some (.int .u64 (p : Nat)) := (HX.out.gr HG3.out).cell 9
  clear hw3 hw3' HG2
  go_wp2_with fail
  refine (HC2.out w3 (HRA.out.bel HG3.out)).mono ?_
  rintro e w4 ⟨rfl, hb4⟩
  have HG4 := Lib.hid (show Gr w3 w4 from hb4)
  clear hb4 e9
  go_upto_region 17 with (fail)
  obtain ⟨w5, hw5⟩ : ∃ w5, w4.alloc (.cells (regD ⟨fb, fs, fr, fw, fx, fc⟩).toArray 34) = w5 := ⟨_, rfl⟩
  have hw5' : w4.alloc (.cells #[.int .u64 (fb : Nat), .int .u64 (fs : Nat), .bool fr, .bool fw, .bool fx, .bool fc] 34) = w5 := hw5
  try rw [hw5']
  have HG5 := Lib.hid (show Gr w3 w5 from by rw [← hw5]; exact HG4.out.trans (Gr.alloc w4 _))
  have HX5 := Lib.hid (show Blk w5 w4.heap.size 34 (regD ⟨fb, fs, fr, fw, fx, fc⟩) from by rw [← hw5]; exact Blk.new w4 _ _)
  have HY5 := Lib.hid (HX3.out.gr HG5.out)
  clear hw5 hw5' HG4
  obtain ⟨g0, g1, g2, g3, g4, g5⟩ := reg6 (blk_part (a := []) (b := regD ⟨fb, fs, fr, fw, fx, fc⟩) (c := []) (k := 0) HX5.out rfl)
  obtain ⟨k0, k1, k2, k3, k4, k5⟩ := reg6 (blk_part (a := []) (b := regD ⟨fb, fs, fr, fw, fx, fc⟩) (c := []) (k := 0) HY5.out rfl)
  simp only [Nat.zero_add] at g1 g2 g3 g4 g5 k1 k2 k3 k4 k5
  have HGF := Lib.hid (HG3.out.trans HG5.out)
  go_wp2_with (refine wpList_grun (by rfl) (exec_eqs (u := (regD ⟨fb, fs, fr, fw, fx, fc⟩).toArray) (v := (regD ⟨fb, fs, fr, fw, fx, fc⟩).toArray) rfl rfl rfl grdReg (eqReg ⟨fb, fs, fr, fw, fx, fc⟩ w5)) ?_)
  go_ret
  exact ⟨by simp, ⟨m, t, HG.out.grow HGF.out⟩, bel_gr HB1.out HG.out.sz HGF.out⟩
set_option maxRecDepth 100000 in
set_option maxHeartbeats 12800000 in
theorem step_11 (b s : Nat) (rd wrt ex sc sec : Bool) (ac : Int) (p z : Nat) (B : Option Addr) (n cb : Nat) (bl : List Nat) (base a r : Nat) (m : List Nat) (t : List Reg) (w : World) (h : Good base a r m t w) (hx : RFit ⟨b, s, rd, wrt, ex, sc⟩) (hac : I64 ac) (hp : U64 p) (hz : U64 z) (hB : ∀ W, Below base w W → BIn W B n cb bl) :
    Calls Try.prog 9 #[.pointer (some ⟨a, 0, none⟩), .pointer (some ⟨r, 0, none⟩), .agg #[.int .i64 11, .int .u64 (b : Nat), .int .u64 (s : Nat), .bool rd, .bool wrt, .bool ex, .bool sc, .bool sec, .int .i64 ac, .int .u64 (p : Nat), .int .u64 (z : Nat), .slice B n cb]] w (StepOk base a r w) := by
  have hg0 := Gr.alloc w (.cells #[.int .i64 11, .int .u64 (b : Nat), .int .u64 (s : Nat), .bool rd, .bool wrt, .bool ex, .bool sc, .bool sec, .int .i64 ac, .int .u64 (p : Nat), .int .u64 (z : Nat), .slice B n cb] 38)
  have HX := Lib.hid (Blk.new w 38 [.int .i64 11, .int .u64 (b : Nat), .int .u64 (s : Nat), .bool rd, .bool wrt, .bool ex, .bool sc, .bool sec, .int .i64 ac, .int .u64 (p : Nat), .int .u64 (z : Nat), .slice B n cb])
  have HG0 := Lib.hid hg0
  have HG := Lib.hid (h.grow hg0)
  have HSZ := Lib.hid h.sz
  have HFX := Lib.hid hx
  have HAC := Lib.hid hac
  have HPU := Lib.hid hp
  have HZU := Lib.hid hz
  have HBB := Lib.hid hB
  clear h hg0 hx hac hp hz hB
  go_enter Try.func9, Try.ntmps9
  go_upto_region 28 with (fail)
  obtain ⟨w1, hw1⟩ : ∃ w1, w.alloc (.cells #[.int .i64 11, .int .u64 (b : Nat), .int .u64 (s : Nat), .bool rd, .bool wrt, .bool ex, .bool sc, .bool sec, .int .i64 ac, .int .u64 (p : Nat), .int .u64 (z : Nat), .slice B n cb] 38) = w1 := ⟨_, rfl⟩
  try rw [hw1]
  have hw1' : w.alloc (.cells ([.int .i64 11, .int .u64 (b : Nat), .int .u64 (s : Nat), .bool rd, .bool wrt, .bool ex, .bool sc, .bool sec, .int .i64 ac, .int .u64 (p : Nat), .int .u64 (z : Nat), .slice B n cb] : List Value).toArray 38) = w1 := hw1
  rw [hw1] at HG0 HG
  rw [hw1'] at HX
  clear hw1 hw1'
  have HB1 := Lib.hid (show Below base w w1 from bel_gr ((HG0.out : Below w.heap.size w w1).mono HSZ.out) HG.out.sz (Gr.refl w1))
  obtain ⟨A1, c1, hpa⟩ := HG.out.pa
  obtain ⟨A2, c2, hra⟩ := HG.out.ra
  have HRA := Lib.hid hra
  have HC := Lib.hid (wipe_any base a m t A1 c1 w1 hpa HG.out.km HG.out.ha)
  clear hpa hra
  go_wp2_with fail
  refine HC.out.mono ?_
  rintro e w2 ⟨rfl, ⟨A3, c3, hp2⟩, hf2⟩
  have HP2 := Lib.hid hp2
  have HR2 := Lib.hid (HRA.out.frP hf2)
  have HB2 := Lib.hid (HB1.out.trans (hf2.below HG.out.sz))
  have HS2 := Lib.hid (Nat.le_trans HG.out.sz hf2.size)
  have HZ := Lib.hid (plen HG.out.km (.slice A2 t.length c2))
  clear hp2 hf2 HC HRA
  go_wp2_with (first
    | (refine wpList_run rfl (exec_build (cs := (natsV .u8 m0 ++ [Value.slice none 0 0]).toArray) rfl rfl bldD) ?_)
    | (refine wpList_store_row rfl 29 (.tmp 160) (.tmp 159) rfl r (natsV .u8 m0 ++ [Value.slice none 0 0]).toArray rfl rfl 29 _ HR2.out.blk (by rw [zlen]; exact size29) (by rw [zlen]; exact HZ.out) all_zero ?_))
  have HGR := Lib.hid (grown_setRow w2 r (natsV .u8 m0 ++ [Value.slice none 0 0]).toArray)
  have HRB := Lib.hid (HR2.out.blk.setRow (natsV .u8 m0 ++ [Value.slice none 0 0]))
  obtain ⟨w3, hw3⟩ : ∃ w3, w2.setRow r (natsV .u8 m0 ++ [Value.slice none 0 0]).toArray = w3 := ⟨_, rfl⟩
  rw [hw3] at HGR HRB
  try rw [hw3]
  have hfr : FrT base tyD w2 w3 := FrT.grown HR2.out.blk HG.out.hr (by decide) HGR.out
  have HFI := Lib.hid (show Good base a r m0 [] w3 from ⟨⟨A3, c3, HP2.out.frD hfr⟩, ⟨none, 0, ⟨HRB.out, own_nil _ _ _ _⟩⟩, m0_ok, TOk.nil, HG.out.ha, HG.out.hr, Nat.le_trans HS2.out hfr.size⟩)
  have HBF := Lib.hid (HB2.out.trans (hfr.below HS2.out))
  clear hw3 hfr HGR HRB HR2
  go_wp2_with fail
  go_ret
  exact ⟨by simp, ⟨m0, [], HFI.out⟩, HBF.out⟩
end Go.Proofs.Ytelfhpmbnficfaa
