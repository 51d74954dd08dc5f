/- RamPlays: any step. No condition. -/
import Derived.Test.YtelfhpmbnficfaaSt
import Derived.Test.YtelfhpmbnficfaaLa
import Derived.Test.YtelfhpmbnficfaaDf
import Derived.Test.YtelfhpmbnficfaaSv
import Derived.Test.YtelfhpmbnficfaaSw
import Derived.Test.YtelfhpmbnficfaaSx
import Derived.Test.YtelfhpmbnficfaaSy
namespace Go.Proofs.Ytelfhpmbnficfaa
open Go.RowKit
set_option linter.unusedVariables false
set_option maxRecDepth 100000
set_option linter.unusedSimpArgs false
theorem reads_all (kd : Int) (b s : Nat) (rd wrt ex sc sec : Bool) (ac : Int) (p z : Nat) (B : Option Addr) (n cb : Nat) (bl : List Nat) (base a r : Nat) (m : List Nat) (t : List Reg) (w : World) (h : Good base a r m t w) (hx : RFit ⟨b, s, rd, wrt, ex, sc⟩) (hac : I64 ac) (hp : U64 p) (hz : U64 z) (hB : ∀ W, Below base w W → BIn W B n cb bl) :
    Calls Try.prog 30 #[.pointer (some ⟨a, 0, none⟩), .pointer (some ⟨r, 0, none⟩), .agg #[.int .i64 kd, .int .u64 (b : Nat), .int .u64 (s : Nat), .bool rd, .bool wrt, .bool ex, .bool sc, .bool sec, .int .i64 ac, .int .u64 (p : Nat), .int .u64 (z : Nat), .slice B n cb]] w (StepOk base a r w) := by
  by_cases h6 : kd = 6
  · subst h6; exact reads_6 b s rd wrt ex sc sec ac p z B n cb bl base a r m t w h hx hac hp hz hB
  by_cases h8 : kd = 8
  · subst h8; exact reads_8 b s rd wrt ex sc sec ac p z B n cb bl base a r m t w h hx hac hp hz hB
  by_cases h10 : kd = 10
  · subst h10; exact reads_10 b s rd wrt ex sc sec ac p z B n cb bl base a r m t w h hx hac hp hz hB
  exact reads_0 kd b s rd wrt ex sc sec ac p z B n cb bl base a r m t w h hx hac hp hz hB h6 h8 h10
set_option maxRecDepth 100000 in
set_option maxHeartbeats 12800000 in
theorem step_0 (kd : Int) (b s : Nat) (rd wrt ex sc sec : Bool) (ac : Int) (p z : Nat) (B : Option Addr) (n cb : Nat) (bl : List Nat) (base a r : Nat) (m : List Nat) (t : List Reg) (w : World) (h : Good base a r m t w) (hx : RFit ⟨b, s, rd, wrt, ex, sc⟩) (hac : I64 ac) (hp : U64 p) (hz : U64 z) (hB : ∀ W, Below base w W → BIn W B n cb bl) (hk1 : kd ≠ 1) (hk2 : kd ≠ 2) (hk3 : kd ≠ 3) (hk4 : kd ≠ 4) (hk5 : kd ≠ 5) (hk7 : kd ≠ 7) (hk9 : kd ≠ 9) (hk11 : kd ≠ 11) :
    Calls Try.prog 9 #[.pointer (some ⟨a, 0, none⟩), .pointer (some ⟨r, 0, none⟩), .agg #[.int .i64 kd, .int .u64 (b : Nat), .int .u64 (s : Nat), .bool rd, .bool wrt, .bool ex, .bool sc, .bool sec, .int .i64 ac, .int .u64 (p : Nat), .int .u64 (z : Nat), .slice B n cb]] w (StepOk base a r w) := by
  have t1 : (kd == 1) = false := by simpa using hk1
  have t2 : (kd == 2) = false := by simpa using hk2
  have t3 : (kd == 3) = false := by simpa using hk3
  have t4 : (kd == 4) = false := by simpa using hk4
  have t5 : (kd == 5) = false := by simpa using hk5
  have t7 : (kd == 7) = false := by simpa using hk7
  have t9 : (kd == 9) = false := by simpa using hk9
  have t11 : (kd == 11) = false := by simpa using hk11
  clear hk1 hk2 hk3 hk4 hk5 hk7 hk9 hk11
  have hg0 := Gr.alloc w (.cells #[.int .i64 kd, .int .u64 (b : Nat), .int .u64 (s : Nat), .bool rd, .bool wrt, .bool ex, .bool sc, .bool sec, .int .i64 ac, .int .u64 (p : Nat), .int .u64 (z : Nat), .slice B n cb] 38)
  have HX := Lib.hid (Blk.new w 38 [.int .i64 kd, .int .u64 (b : Nat), .int .u64 (s : Nat), .bool rd, .bool wrt, .bool ex, .bool sc, .bool sec, .int .i64 ac, .int .u64 (p : Nat), .int .u64 (z : Nat), .slice B n cb])
  have HG0 := Lib.hid hg0
  have HG := Lib.hid (h.grow hg0)
  have HSZ := Lib.hid h.sz
  have HFX := Lib.hid hx
  have HAC := Lib.hid hac
  have HPU := Lib.hid hp
  have HZU := Lib.hid hz
  have HBB := Lib.hid hB
  clear h hg0 hx hac hp hz hB
  go_enter Try.func9, Try.ntmps9
  go_upto_region 31 with (fail)
  obtain ⟨w1, hw1⟩ : ∃ w1, w.alloc (.cells #[.int .i64 kd, .int .u64 (b : Nat), .int .u64 (s : Nat), .bool rd, .bool wrt, .bool ex, .bool sc, .bool sec, .int .i64 ac, .int .u64 (p : Nat), .int .u64 (z : Nat), .slice B n cb] 38) = w1 := ⟨_, rfl⟩
  try rw [hw1]
  have hw1' : w.alloc (.cells ([.int .i64 kd, .int .u64 (b : Nat), .int .u64 (s : Nat), .bool rd, .bool wrt, .bool ex, .bool sc, .bool sec, .int .i64 ac, .int .u64 (p : Nat), .int .u64 (z : Nat), .slice B n cb] : List Value).toArray 38) = w1 := hw1
  rw [hw1] at HG0 HG
  rw [hw1'] at HX
  clear hw1 hw1'
  have HB1 := Lib.hid (show Below base w w1 from bel_gr ((HG0.out : Below w.heap.size w w1).mono HSZ.out) HG.out.sz (Gr.refl w1))
  have e0 : w1.cell? ⟨w.heap.size, 0, none⟩ = some (.int .i64 kd) := (HX.out).cell 0
  have e1 : w1.cell? ⟨w.heap.size, 1, none⟩ = some (.int .u64 (b : Nat)) := (HX.out).cell 1
  have e2 : w1.cell? ⟨w.heap.size, 2, none⟩ = some (.int .u64 (s : Nat)) := (HX.out).cell 2
  have e3 : w1.cell? ⟨w.heap.size, 3, none⟩ = some (.bool rd) := (HX.out).cell 3
  have e4 : w1.cell? ⟨w.heap.size, 4, none⟩ = some (.bool wrt) := (HX.out).cell 4
  have e5 : w1.cell? ⟨w.heap.size, 5, none⟩ = some (.bool ex) := (HX.out).cell 5
  have e6 : w1.cell? ⟨w.heap.size, 6, none⟩ = some (.bool sc) := (HX.out).cell 6
  have e7 : w1.cell? ⟨w.heap.size, 7, none⟩ = some (.bool sec) := (HX.out).cell 7
  have e8 : w1.cell? ⟨w.heap.size, 8, none⟩ = some (.int .i64 ac) := (HX.out).cell 8
  have e9 : w1.cell? ⟨w.heap.size, 9, none⟩ = some (.int .u64 (p : Nat)) := (HX.out).cell 9
  have e10 : w1.cell? ⟨w.heap.size, 10, none⟩ = some (.int .u64 (z : Nat)) := (HX.out).cell 10
  have e11 : w1.cell? ⟨w.heap.size, 11, none⟩ = some (.slice B n cb) := (HX.out).cell 11
  have HC := Lib.hid (reads_all kd b s rd wrt ex sc sec ac p z B n cb bl base a r m t w1 HG.out HFX.out HAC.out HPU.out HZU.out (fun W hW => HBB.out W (HB1.out.trans hW)))
  go_wp2_with fail
  refine HC.out.mono ?_
  rintro e w2 ⟨rfl, ⟨m2, t2, hg2⟩, hb2⟩
  have HG2 := Lib.hid hg2
  have HB2 := Lib.hid (HB1.out.trans hb2)
  clear hg2 hb2 HC
  go_wp2_with fail
  go_ret
  exact ⟨by simp, ⟨m2, t2, HG2.out⟩, HB2.out⟩
theorem step_all (x : OpR) (base a r : Nat) (m : List Nat) (t : List Reg) (w : World) (h : Good base a r m t w) (hx : RFit x.r) (hac : I64 x.ac) (hp : U64 x.p) (hz : U64 x.s) (hB : ∀ W, Below base w W → BIn W x.B x.n x.cb x.b) :
    Calls Try.prog 9 #[.pointer (some ⟨a, 0, none⟩), .pointer (some ⟨r, 0, none⟩), .agg x.cs.toArray] w (StepOk base a r w) := by
  obtain ⟨kd, ⟨b, s, rd, wrt, ex, sc⟩, sec, ac, p, z, B, n, cb, bl⟩ := x
  simp only at hx hac hp hz hB
  change Calls _ _ #[_, _, .agg #[.int .i64 kd, .int .u64 (b : Nat), .int .u64 (s : Nat), .bool rd, .bool wrt, .bool ex, .bool sc, .bool sec, .int .i64 ac, .int .u64 (p : Nat), .int .u64 (z : Nat), .slice B n cb]] _ _
  by_cases h1 : kd = 1
  · subst h1; exact step_1 b s rd wrt ex sc sec ac p z B n cb bl base a r m t w h hx hac hp hz hB
  by_cases h2 : kd = 2
  · subst h2; exact step_2 b s rd wrt ex sc sec ac p z B n cb bl base a r m t w h hx hac hp hz hB
  by_cases h3 : kd = 3
  · subst h3; exact step_3 b s rd wrt ex sc sec ac p z B n cb bl base a r m t w h hx hac hp hz hB
  by_cases h4 : kd = 4
  · subst h4; exact step_4 b s rd wrt ex sc sec ac p z B n cb bl base a r m t w h hx hac hp hz hB
  by_cases h5 : kd = 5
  · subst h5; exact step_5 b s rd wrt ex sc sec ac p z B n cb bl base a r m t w h hx hac hp hz hB
  by_cases h7 : kd = 7
  · subst h7; exact step_7 b s rd wrt ex sc sec ac p z B n cb bl base a r m t w h hx hac hp hz hB
  by_cases h9 : kd = 9
  · subst h9; exact step_9 b s rd wrt ex sc sec ac p z B n cb bl base a r m t w h hx hac hp hz hB
  by_cases h11 : kd = 11
  · subst h11; exact step_11 b s rd wrt ex sc sec ac p z B n cb bl base a r m t w h hx hac hp hz hB
  exact step_0 kd b s rd wrt ex sc sec ac p z B n cb bl base a r m t w h hx hac hp hz hB h1 h2 h3 h4 h5 h7 h9 h11
end Go.Proofs.Ytelfhpmbnficfaa
