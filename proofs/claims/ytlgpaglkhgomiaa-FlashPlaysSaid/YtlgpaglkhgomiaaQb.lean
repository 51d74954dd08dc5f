/- Steps of both flashes: what is left. No condition. -/
import Derived.Test.YtlgpaglkhgomiaaQa
namespace Go.Proofs.Ytlgpaglkhgomiaa
open Go.RowKit
set_option linter.unusedVariables false
set_option maxRecDepth 100000
set_option linter.unusedSimpArgs false
/-- a step that is done -/
def StepOk (base i : Nat) (s : SR) (w : World) (e : Ending) (w' : World) : Prop := e = .returned (.bool true) ∧ ∃ s', Good w' base (i + 1) s' ∧ s'.f = s.f ∧ s'.r = s.r ∧ s'.p = s.p ∧ Below base w w'
theorem Good.up {w : World} {base i j : Nat} {s : SR} (h : Good w base i s) (hij : i ≤ j) : Good w base j s where
  fl := h.fl
  mp := h.mp
  rf := h.rf
  pr := h.pr
  an := h.an
  dj := h.dj
  lo := h.lo
  nb := by obtain ⟨n1, n2, n3, n4, n5, n6, n7, n8⟩ := h.nb; exact ⟨n1, n2, n3, n4, n5, by omega, by omega, by omega⟩
theorem Good.bel {w w' : World} {base i : Nat} {s : SR} (h : Good w base i s) (hb : Below w.heap.size w w') : Below base w w' := hb.mono h.lo.2.2.2.2.1
theorem good_turn {w1 w2 w3 : World} {base i : Nat} {s : SR} {on' dn' : Bool} {cut' : Int} (h : Good w1 base i s) (hf : FlB w2 s.f s.mb s.N on' cut' dn' s.wr) (g12 : w1.grownBy w2 (some s.f)) (hr : RfAt w3 base s.r s.N (!on') cut' dn' s.wr s.bs) (g23 : w2.grownBy w3 (some s.r)) (hc : 0 ≤ cut' ∧ cut' ≤ 9223372036854775807) :
    ∃ s', Good w3 base (i + 1) s' ∧ s'.f = s.f ∧ s'.r = s.r ∧ s'.p = s.p ∧ Below base w1 w3 := by
  have f12 : Fr w1 w2 (fun j => j = s.f) := Fr.grown g12 (fun j e _ => by injection e with e; exact e.symm)
  have f23 : Fr w2 w3 (fun j => j = s.r) := Fr.grown g23 (fun j e _ => by injection e with e; exact e.symm)
  obtain ⟨csr, hrb⟩ := h.rf.rblk
  have hrb2 : Blk w2 s.r 46 csr := blk_fr hrb f12 (fun e => blk_ne hrb h.fl (by decide) e)
  have f13 : Fr w1 w3 (fun j => j = s.f ∨ j = s.r) := (f12.mono (fun j _ e => .inl e)).trans f23 (fun j _ e => .inr e)
  have no : ∀ j t cs, Blk w1 j t cs → t ≠ 68 → t ≠ 46 → ¬ (j = s.f ∨ j = s.r) := fun j t cs hb ht1 ht2 e => by
    rcases e with e | e
    · exact blk_ne hb h.fl ht1 e
    · exact blk_ne hb hrb ht2 e
  refine ⟨⟨s.f, s.mb, s.r, s.p, s.N, on', cut', dn', s.wr, s.bs, s.ans, s.K⟩, ⟨?_, ?_, hr, ?_, ?_, h.dj, ?_, ?_⟩, rfl, rfl, rfl, ?_⟩
  · exact blk_fr hf f23 (fun e => blk_ne hf hrb2 (by decide) e)
  · exact map_fr h.mp f13 (fun e => by
      rcases e with e | e
      · exact blk_map h.fl h.mp e.symm
      · exact blk_map hrb h.mp e.symm)
  · exact h.pr.fr f13 (fun j ⟨t, cs, hb, ht⟩ => no j t cs hb (by rcases ht with rfl | rfl | rfl <;> decide) (by rcases ht with rfl | rfl | rfl <;> decide))
  · exact h.an.fr f13 (fun x hx j hj => by
      obtain ⟨t, cs, hb, ht⟩ := (h.an.1 x hx).blk hj
      exact no j t cs hb (by rcases ht with rfl | rfl <;> decide) (by rcases ht with rfl | rfl <;> decide))
  · exact ⟨h.lo.1, h.lo.2.1, h.lo.2.2.1, h.lo.2.2.2.1, Nat.le_trans h.lo.2.2.2.2.1 f13.size, h.lo.2.2.2.2.2⟩
  · obtain ⟨n1, n2, n3, n4, n5, n6, n7, n8⟩ := h.nb
    exact ⟨n1, n2, hc.1, hc.2, n5, by show s.wr ≤ _; omega, by show s.K ≤ _; omega, by show s.ans.length ≤ _; omega⟩
  · refine ⟨f13.1, f13.2.1, f13.2.2.1, f13.size, fun j hj => f13.2.2.2.2 j (Nat.lt_of_lt_of_le hj h.lo.2.2.2.2.1) (fun e => ?_)⟩
    have := h.lo
    rcases e with e | e <;> omega
/-- an answer more is kept -/
theorem good_put {w w' : World} {base i : Nat} {s : SR} {x : AnsR} {e : Ending} (h : Good w base i s) (hx : AOk w x) (hnd : ∀ y ∈ s.ans, ∀ j, y.b = some j → x.b ≠ some j) (hdj : ∀ b ∈ s.bs, ∀ j, x.b = some j → b.b ≠ some j) (hlo : ∀ j, x.b = some j → base ≤ j)
    (hp : PutA base s.p (.pointer (some ⟨s.f, 0, none⟩)) (.pointer (some ⟨s.r, 0, none⟩)) (s.ans ++ [x]) w e w') : ∃ s', Good w' base (i + 1) s' ∧ s'.f = s.f ∧ s'.r = s.r ∧ s'.p = s.p ∧ Below base w w' := by
  obtain ⟨_, hpr, hf, hfb⟩ := hp
  refine ⟨⟨s.f, s.mb, s.r, s.p, s.N, s.on, s.cut, s.dn, s.wr, s.bs, s.ans ++ [x], s.K⟩, ⟨?_, ?_, ?_, hpr, ?_, ?_, ?_, ?_⟩, rfl, rfl, rfl, ?_⟩
  · exact blk_fr h.fl hf (PF.no h.fl (by decide))
  · exact map_fr h.mp hf (PF.noMap h.mp)
  · exact h.rf.fr hf (fun j t cs hb ht => PF.no hb (by rcases ht with rfl | rfl <;> decide)) (fun b hb j hj => by
      obtain ⟨cs, hc⟩ := h.rf.dblk hb hj
      exact PF.no hc (by decide))
  · refine ⟨fun y hy => ?_, ?_⟩
    · rcases List.mem_append.1 hy with hy | hy
      · exact (h.an.1 y hy).fr hf (fun j hj => (h.an.1 y hy).noPF j hj)
      · obtain rfl := List.mem_singleton.1 hy
        exact hx.fr hf (fun j hj => hx.noPF j hj)
    · rw [List.pairwise_append]
      refine ⟨h.an.2, List.pairwise_singleton _ _, fun y hy z hz j hj => ?_⟩
      obtain rfl := List.mem_singleton.1 hz
      exact hnd y hy j hj
  · intro y hy b hb j hj
    rcases List.mem_append.1 hy with hy | hy
    · exact h.dj y hy b hb j hj
    · obtain rfl := List.mem_singleton.1 hy
      exact hdj b hb j hj
  · refine ⟨h.lo.1, h.lo.2.1, h.lo.2.2.1, h.lo.2.2.2.1, Nat.le_trans h.lo.2.2.2.2.1 hf.size, fun y hy j hj => ?_⟩
    rcases List.mem_append.1 hy with hy | hy
    · exact h.lo.2.2.2.2.2 y hy j hj
    · obtain rfl := List.mem_singleton.1 hy
      exact hlo j hj
  · obtain ⟨n1, n2, n3, n4, n5, n6, n7, n8⟩ := h.nb
    refine ⟨n1, n2, n3, n4, n5, by show s.wr ≤ _; omega, by show s.K ≤ _; omega, ?_⟩
    show (s.ans ++ [x]).length ≤ _
    simp; omega
  · exact ⟨hfb.1, hfb.2.1, hfb.2.2.1, hfb.size, fun j hj => hfb.2.2.2.2 j (Nat.lt_of_lt_of_le hj h.lo.2.2.2.2.1) (fun e => by omega)⟩
end Go.Proofs.Ytlgpaglkhgomiaa
