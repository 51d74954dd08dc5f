/- RamPlays: Store. No condition. -/
import Derived.Test.YtelfhpmbnficfaaSt
import Derived.Test.YtelfhpmbnficfaaLa
import Derived.Test.YtelfhpmbnficfaaDf
import Derived.Test.YtelfhpmbnficfaaCl
namespace Go.Proofs.Ytelfhpmbnficfaa
open Go.RowKit
set_option linter.unusedVariables false
set_option maxRecDepth 100000
set_option linter.unusedSimpArgs false
set_option maxRecDepth 100000 in
set_option maxHeartbeats 12800000 in
theorem step_7 (b s : Nat) (rd wrt ex sc sec : Bool) (ac : Int) (p z : Nat) (B : Option Addr) (n cb : Nat) (bl : List Nat) (base a r : Nat) (m : List Nat) (t : List Reg) (w : World) (h : Good base a r m t w) (hx : RFit ⟨b, s, rd, wrt, ex, sc⟩) (hac : I64 ac) (hp : U64 p) (hz : U64 z) (hB : ∀ W, Below base w W → BIn W B n cb bl) :
    Calls Try.prog 9 #[.pointer (some ⟨a, 0, none⟩), .pointer (some ⟨r, 0, none⟩), .agg #[.int .i64 7, .int .u64 (b : Nat), .int .u64 (s : Nat), .bool rd, .bool wrt, .bool ex, .bool sc, .bool sec, .int .i64 ac, .int .u64 (p : Nat), .int .u64 (z : Nat), .slice B n cb]] w (StepOk base a r w) := by
  have hg0 := Gr.alloc w (.cells #[.int .i64 7, .int .u64 (b : Nat), .int .u64 (s : Nat), .bool rd, .bool wrt, .bool ex, .bool sc, .bool sec, .int .i64 ac, .int .u64 (p : Nat), .int .u64 (z : Nat), .slice B n cb] 38)
  have HX := Lib.hid (Blk.new w 38 [.int .i64 7, .int .u64 (b : Nat), .int .u64 (s : Nat), .bool rd, .bool wrt, .bool ex, .bool sc, .bool sec, .int .i64 ac, .int .u64 (p : Nat), .int .u64 (z : Nat), .slice B n cb])
  have HG0 := Lib.hid hg0
  have HG := Lib.hid (h.grow hg0)
  have HSZ := Lib.hid h.sz
  have HFX := Lib.hid hx
  have HAC := Lib.hid hac
  have HPU := Lib.hid hp
  have HZU := Lib.hid hz
  have HBB := Lib.hid hB
  clear h hg0 hx hac hp hz hB
  go_enter Try.func9, Try.ntmps9
  go_upto_region 21 with (fail)
  obtain ⟨w1, hw1⟩ : ∃ w1, w.alloc (.cells #[.int .i64 7, .int .u64 (b : Nat), .int .u64 (s : Nat), .bool rd, .bool wrt, .bool ex, .bool sc, .bool sec, .int .i64 ac, .int .u64 (p : Nat), .int .u64 (z : Nat), .slice B n cb] 38) = w1 := ⟨_, rfl⟩
  try rw [hw1]
  have hw1' : w.alloc (.cells ([.int .i64 7, .int .u64 (b : Nat), .int .u64 (s : Nat), .bool rd, .bool wrt, .bool ex, .bool sc, .bool sec, .int .i64 ac, .int .u64 (p : Nat), .int .u64 (z : Nat), .slice B n cb] : List Value).toArray 38) = w1 := hw1
  rw [hw1] at HG0 HG
  rw [hw1'] at HX
  clear hw1 hw1'
  have HB1 := Lib.hid (show Below base w w1 from bel_gr ((HG0.out : Below w.heap.size w w1).mono HSZ.out) HG.out.sz (Gr.refl w1))
  have e11 : (w1.alloc (.cells #[] 5)).cell? ⟨w.heap.size, 11, none⟩ = some (.slice B n cb) := (HX.out.gr (Gr.alloc w1 _)).cell 11
  have hbi := HBB.out w1 HB1.out
  have hn47 := hbi.2.2.2.1
  go_wp2_with (at_builtin; refine wpList_append_bytes _ rfl (.tmp 111) (.tmp 113) rfl w1.heap.size _ 0 [] rfl (zero_row w1) B n cb bl rfl (hbi.below ((Below.refl _ _).alloc (Nat.le_refl _) _)) (by omega) (by simp) ?_)
  intro v' w2 hown hg
  have hg2 : Gr w1 w2 := ((Below.refl _ _).alloc (Nat.le_refl _) _).grown hg (by simp) (by simp [Value.ownBlock])
  have hlen : bl.length = n := hbi.1.1
  obtain ⟨a', c', rfl, hbu, _⟩ := own_in hown hbi.1.2.2.1 hn47
  obtain ⟨A1, c1, hpa⟩ := (HG.out.grow hg2).pa
  obtain ⟨A2, c2, hra⟩ := (HG.out.grow hg2).ra
  have HRA := Lib.hid hra
  have HOW := Lib.hid hown
  have HB2 := Lib.hid (bel_gr HB1.out HG.out.sz hg2)
  have HS2 := Lib.hid (Nat.le_trans HG.out.sz hg2.size)
  have HX2 := Lib.hid (HX.out.gr hg2)
  have HC := Lib.hid (store_any base a p n c' sec a' bl m t A1 c1 w2 hpa HG.out.km HG.out.kt HG.out.ha HPU.out hbu)
  have HMK := Lib.hid (stM_ok (t := t) (sec := sec) (p := p) HG.out.km hbi.1.2.2.1)
  obtain ⟨E, hE⟩ : ∃ E, mayE t sec 2 p n = E := ⟨_, rfl⟩
  obtain ⟨M, hM⟩ : ∃ M, stM m t sec p bl = M := ⟨_, rfl⟩
  rw [hE, hM] at HC
  rw [hM] at HMK
  have HE := Lib.hid hE
  have HM := Lib.hid hM
  have HNB := Lib.hid hn47
  have HLT := Lib.hid hbi.1.2.2.1
  have e7 : w2.cell? ⟨w.heap.size, 7, none⟩ = some (.bool sec) := HX2.out.cell 7
  have e9 : w2.cell? ⟨w.heap.size, 9, none⟩ = some (.int .u64 (p : Nat)) := HX2.out.cell 9
  clear hbi hown hg hg2 hbu hpa hra hE hM hlen e11 hn47
  go_wp2_with fail
  refine HC.out.mono ?_
  rintro e w3 ⟨rfl, ⟨A3, c3, hp3⟩, hf3⟩
  have HP3 := Lib.hid hp3
  have HR3 := Lib.hid (HRA.out.frP hf3)
  have HB3 := Lib.hid (HB2.out.trans (hf3.below HS2.out))
  have HS3 := Lib.hid (Nat.le_trans HS2.out hf3.size)
  have HX3 := Lib.hid (hf3.blk HX2.out (by decide))
  have ho3 := hf3.own HOW.out (by decide)
  obtain ⟨_, _, ex, hbx, _⟩ := own_in ho3 HLT.out HNB.out
  injection ex with ex1 ex2 ex3
  subst ex1 ex3
  have HS := Lib.hid (sameB_any w3 _ _ _ _ _ _ bl bl hbx (HBB.out w3 HB3.out))
  rw [show decide (bl = bl) = true from by simp] at HS
  have e11 : w3.cell? ⟨w.heap.size, 11, none⟩ = some (.slice B n cb) := HX3.out.cell 11
  clear hp3 hf3 HC ho3 hbx ex2 e7 e9
  go_wp2_with fail
  refine HS.out.mono ?_
  rintro e w4 ⟨rfl, hb4⟩
  have HP4 := Lib.hid (HP3.out.bel hb4)
  have HR4 := Lib.hid (HR3.out.bel hb4)
  have HB4 := Lib.hid (bel_gr HB3.out HS3.out hb4)
  have HS4 := Lib.hid (Nat.le_trans HS3.out hb4.size)
  have HX4 := Lib.hid (HX3.out.gr hb4)
  have hc := rstore_any base r p n cb sec B bl m t A2 c2 w4 HR4.out HG.out.km HG.out.kt HG.out.hr HPU.out (fun W hW => HBB.out W (HB4.out.trans (hW.below HS4.out)))
  rw [HE.out, HM.out] at hc
  have HC := Lib.hid hc
  have k7 : w4.cell? ⟨w.heap.size, 7, none⟩ = some (.bool sec) := HX4.out.cell 7
  have k9 : w4.cell? ⟨w.heap.size, 9, none⟩ = some (.int .u64 (p : Nat)) := HX4.out.cell 9
  have k11 : w4.cell? ⟨w.heap.size, 11, none⟩ = some (.slice B n cb) := HX4.out.cell 11
  clear hb4 HS hc e11
  go_wp2_with fail
  refine HC.out.mono ?_
  rintro e w5 ⟨rfl, ⟨A5, c5, hp5⟩, hf5⟩
  have HFI := Lib.hid (show Good base a r M t w5 from ⟨⟨_, _, HP4.out.frD hf5⟩, ⟨A5, c5, hp5⟩, HMK.out, HG.out.kt, HG.out.ha, HG.out.hr, Nat.le_trans HS4.out hf5.size⟩)
  have HBF := Lib.hid (HB4.out.trans (hf5.below HS4.out))
  clear hp5 hf5 HC k7 k9 k11
  go_wp2_with fail
  go_ret
  exact ⟨by simp, ⟨M, t, HFI.out⟩, HBF.out⟩
end Go.Proofs.Ytelfhpmbnficfaa
