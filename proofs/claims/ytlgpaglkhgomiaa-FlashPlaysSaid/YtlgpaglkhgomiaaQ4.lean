/- The pair, a step: power. Condition: sizes. -/
import Derived.Test.YtlgpaglkhgomiaaQb
namespace Go.Proofs.Ytlgpaglkhgomiaa
open Go.RowKit
set_option linter.unusedVariables false
set_option maxRecDepth 100000
set_option linter.unusedSimpArgs false
theorem Good.rf_f {w1 w2 : World} {base i : Nat} {s : SR} (h : Good w1 base i s) (hg : w1.grownBy w2 (some s.f)) : RfAt w2 base s.r s.N (!s.on) s.cut s.dn s.wr s.bs :=
  h.rf.fr (Fr.grown (F := fun j => j = s.f) hg (fun j e _ => by injection e with e; exact e.symm)) (fun j t cs hb ht => blk_ne hb h.fl (by rcases ht with rfl | rfl <;> decide)) (fun b hb j hj => by
    obtain ⟨cs, hc⟩ := h.rf.dblk hb hj
    exact blk_ne hc h.fl (by decide))
theorem step_end {base i : Nat} {s : SR} {w w1 w3 : World} {e : Ending} (h : Good w base i s) (hb : Below w.heap.size w w1) (he : e = .returned (.bool true)) (hg : ∃ s', Good w3 base (i + 1) s' ∧ s'.f = s.f ∧ s'.r = s.r ∧ s'.p = s.p ∧ Below base w1 w3) : StepOk base i s w e w3 := by
  obtain ⟨s', h1, h2, h3, h4, h5⟩ := hg
  exact ⟨he, s', h1, h2, h3, h4, (h.bel hb).trans h5⟩
set_option maxHeartbeats 12800000 in
theorem step_4 (n m : Int) (A : Option Addr) (k c : Nat) (l : List Nat) (raw d : Bool) (fr sz : Nat) (base i : Nat) (s : SR) (w : World) (h : Good w base i s) (hi : i ≤ 1000) (hb : BIn w A k c l) (hn : I64 n) (hm : I64 m) (hfr : fr < 18446744073709551616) (hsz : sz < 18446744073709551616) :
    Calls Try.prog 11 #[.pointer (some ⟨s.p, 0, none⟩), .agg #[.int .i64 4, .int .i64 n, .int .i64 m, .slice A k c, .bool raw, .bool d, .int .u64 (fr : Nat), .int .u64 (sz : Nat)]] w (StepOk base i s w) := by
  have ha : Below w.heap.size w (w.alloc (.cells #[.int .i64 4, .int .i64 n, .int .i64 m, .slice A k c, .bool raw, .bool d, .int .u64 (fr : Nat), .int .u64 (sz : Nat)] 44)) := (Below.refl _ _).alloc (Nat.le_refl _) _
  have hg1 := h.below ha
  have HX := Lib.hid (Blk.new w 44 [.int .i64 4, .int .i64 n, .int .i64 m, .slice A k c, .bool raw, .bool d, .int .u64 (fr : Nat), .int .u64 (sz : Nat)])
  have HA := Lib.hid ha
  have HG := Lib.hid h
  have HG1 := Lib.hid hg1
  have HB1 := Lib.hid (hb.below ha)
  obtain ⟨a2, c2, a3, c3, hpb, hq2, hq3⟩ := hg1.pr
  have HP := Lib.hid hpb
  clear hpb hq2 hq3 ha h hg1 hb
  have h1 := show (w.alloc (.cells #[.int .i64 4, .int .i64 n, .int .i64 m, .slice A k c, .bool raw, .bool d, .int .u64 (fr : Nat), .int .u64 (sz : Nat)] 44)).cell? ⟨s.p, 0, none⟩ = some (.pointer (some ⟨s.f, 0, none⟩)) from HP.out.cell 0
  have HPW := Lib.hid (power_any s.f s.mb s.N s.cut s.wr s.on s.dn _ HG1.out.fl)
  unfold TurnF at HPW
  go_enter Try.func11, Try.ntmps11
  go_wp2_with fail
  refine HPW.out.mono ?_
  rintro e w2 ⟨rfl, hf2, hg2⟩
  have hp2 := HP.out.grown hg2 (fun e => by injection e with e; exact blk_ne HP.out HG1.out.fl (by decide) e)
  have h2 : w2.cell? ⟨s.p, 1, none⟩ = some (.pointer (some ⟨s.r, 0, none⟩)) := hp2.cell 1
  have hr2 := HG1.out.rf_f hg2
  have HRP := Lib.hid (rpower_any base s.r s.N s.cut s.wr (!s.on) s.dn s.bs w2 hr2)
  unfold RTurn at HRP
  have HF2 := Lib.hid hf2
  have HG2 := Lib.hid hg2
  clear hf2 hg2 hp2 hr2
  go_wp2_with fail
  refine HRP.out.mono ?_
  rintro e w3 ⟨rfl, hr3, hg3⟩
  have HR3 := Lib.hid hr3
  have HG3 := Lib.hid hg3
  clear hr3 hg3
  go_wp2_with fail
  go_ret
  exact step_end HG.out HA.out rfl (good_turn HG1.out HF2.out HG2.out (on' := true) (by simpa using HR3.out) HG3.out ⟨by omega, by omega⟩)
end Go.Proofs.Ytlgpaglkhgomiaa
