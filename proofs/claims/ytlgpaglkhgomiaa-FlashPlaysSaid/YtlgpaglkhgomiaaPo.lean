/- The answers that were kept are looked at again, and overwritten. Condition: sizes. -/
import Derived.Test.YtlgpaglkhgomiaaPa
namespace Go.Proofs.Ytlgpaglkhgomiaa
open Go.RowKit
set_option linter.unusedVariables false
set_option maxRecDepth 100000
set_option linter.unusedSimpArgs false
/-- the blocks of the answers -/
def AF (ans : List AnsR) (j : Nat) : Prop := ∃ x ∈ ans, x.b = some j
def PAns (w : World) (ans : List AnsR) : Prop := (∀ x ∈ ans, AOk w x) ∧ ans.Pairwise (fun x y => ∀ j, x.b = some j → y.b ≠ some j)
theorem own_cell1 {w : World} {B e n c : Nat} {a : Option Addr} {xs : List Value} (h : w.ownsRow B e 1 (.slice a n c) n xs) : n = 0 ∨ ∃ g, a = some ⟨g, 0, none⟩ ∧ ∀ i u, xs[i]? = some u → w.cell? ⟨g, i, none⟩ = some u := by
  rcases h.2 with ⟨e, h0⟩ | ⟨g, cap, cur, e, hbg, hg, h1, h2, h3, h4⟩
  · exact .inl h0
  · injection e with e1 e2 e3
    subst e1
    refine .inr ⟨g, rfl, fun i u hu => ?_⟩
    have hi := (List.getElem?_eq_some_iff.1 hu).1
    have hl := h.1
    have q := h.cellAt i (by omega)
    rw [q]; exact hu
theorem AF.noPF {w : World} {ans : List AnsR} (h : ∀ x ∈ ans, AOk w x) : ∀ j, PF w j → ¬ AF ans j := fun j hj ⟨x, hx, hb⟩ => (h x hx).noPF j hb hj
set_option maxHeartbeats 6400000 in
theorem over_any (base p : Nat) (fv rv : Value) (ans : List AnsR) (w : World) (h : PRow w base p fv rv ans) (ha : PAns w ans) (hn : ans.length ≤ 1000) :
    Calls Try.prog 15 #[.pointer (some ⟨p, 0, none⟩)] w fun e w' => e = .returned (.bool true) ∧ PRow w' base p fv rv ans ∧ Fr w w' (AF ans) := by
  have HPW := Lib.hid ha.2
  have HA0 := Lib.hid ha.1
  have HP0 := Lib.hid h
  have HNF := Lib.hid (AF.noPF ha.1)
  obtain ⟨m, hm⟩ : ∃ m, ans.length = m := ⟨_, rfl⟩
  have HM := Lib.hid hm
  rw [hm] at hn
  clear h ha hm
  go_enter Try.func15, Try.ntmps15
  go_wp2
  go_loopw [3] (fun v3 wr => ∃ i : Nat, v3 = .int .i64 i ∧ i ≤ m ∧ (∀ k x, i ≤ k → ans[k]? = some x → AOk wr x) ∧ PRow wr base p fv rv ans ∧ Fr w wr (AF ans)) (fun v3 _ => m - (intOf v3).toNat)
  case atStart => exact ⟨0, rfl, Nat.zero_le _, fun k x _ hx => HA0.out x (List.mem_of_getElem? hx), HP0.out, Fr.refl _ _⟩
  case round =>
    obtain ⟨i, rfl, hi, hok, hpr, hfr⟩ := hrel
    have HOK := Lib.hid hok
    have HPR := Lib.hid hpr
    have HFR := Lib.hid hfr
    obtain ⟨a2, c2, a3, c3, h1, h2, h3⟩ := hpr
    rw [HM.out] at h1 h2 h3
    have q2 := h1.cell 2
    have q3 := h1.cell 3
    have HR2 := Lib.hid (own_cell1 h2)
    have HR3 := Lib.hid (own_cell1 h3)
    have HH1 := Lib.hid h1
    have HH2 := Lib.hid h2
    clear hok hfr h1 h2 h3
    by_cases hik : i < m
    · have hik' : (i : Int) < (m : Int) := by omega
      obtain ⟨x, hx⟩ : ∃ x, ans[i]? = some x := ⟨_, List.getElem?_eq_getElem (by rw [HM.out]; exact hik)⟩
      obtain ⟨g2, rfl, hc2⟩ := HR2.out.resolve_left (by omega)
      obtain ⟨g3, rfl, hc3⟩ := HR3.out.resolve_left (by omega)
      have e2 : wr.cell? ⟨g2, i, none⟩ = some (.slice x.a x.n x.c) := hc2 i x.v (by rw [List.getElem?_map, hx]; rfl)
      have e3 : wr.cell? ⟨g3, i, none⟩ = some (.string (strV x.l)) := hc3 i x.s (by rw [List.getElem?_map, hx]; rfl)
      have hxk := HOK.out i x (Nat.le_refl _) hx
      have v1 := fun m => bin_str (hxk.1.below (below_drewN (Below.refl wr.heap.size wr) m))
      have HXK := Lib.hid hxk
      have HX := Lib.hid hx
      have hxn := hxk.2.1
      obtain ⟨w1, rfl⟩ : ∃ w1, w1 = wr := ⟨_, rfl⟩
      clear hc2 hc3 hxk hx
      go_wp2_with fail
      go_quiet (fail)
      have HDR := Lib.hid (below_drewN (Below.refl w1.heap.size w1) nq)
      go_wp2_with fail
      go_loopw [4] (fun v4 w9 => ∃ j : Nat, v4 = .int .i64 j ∧ j ≤ x.n ∧ Fr w1 w9 (fun q => x.b = some q) ∧ (x.n = 0 ∨ ∃ g t cs, x.a = some ⟨g, 0, none⟩ ∧ Blk w9 g t cs ∧ x.n ≤ cs.length)) (fun v4 _ => x.n - (intOf v4).toNat)
      case atStart => exact ⟨0, rfl, Nat.zero_le _, Fr.below HDR.out, by
        rcases HXK.out.2.2 with h0 | ⟨g, t, cs, e, hb, ht⟩
        · exact .inl h0
        · by_cases h0 : x.n = 0
          · exact .inl h0
          · refine .inr ⟨g, t, cs, e, hb, ?_⟩
            obtain ⟨b, o, e2, hc⟩ := HXK.out.1.1.2.2.2.resolve_left h0
            rw [e] at e2
            injection e2 with e2
            injection e2 with e3 e4
            have q := hc (x.n - 1) (by omega)
            rw [← e3, ← e4, Nat.zero_add, hb.cell] at q
            have := (List.getElem?_eq_some_iff.1 q).1
            omega⟩
      case round =>
        obtain ⟨j, rfl, hj, hf9, hbk⟩ := hrel
        have hnx : ∀ q, PF w1 q → ¬ x.b = some q := fun q hq e => HXK.out.noPF q e hq
        have hh1 := blk_fr HH1.out hf9 (hnx p ⟨_, _, HH1.out, .inl rfl⟩)
        have q2 := hh1.cell 2
        have HF9 := Lib.hid hf9
        have hh2 := own_fr HH2.out hf9 (fun q hq => by
          obtain ⟨cs, hc, _⟩ := own_blk HH2.out hq
          exact hnx q ⟨_, _, hc, .inr (.inl rfl)⟩)
        have e2 : wr.cell? ⟨g2, i, none⟩ = some (.slice x.a x.n x.c) := by
          obtain ⟨g, hg, hc⟩ := (own_cell1 hh2).resolve_left (by omega)
          injection hg with hg
          injection hg with hg1 _ _
          rw [hg1]
          exact hc i x.v (by rw [List.getElem?_map, HX.out]; rfl)
        clear hh1 hh2 hnx hf9 q3 e3
        by_cases hjx : j < x.n
        · have hjx' : (j : Int) < (x.n : Int) := by omega
          obtain ⟨g, t, cs, hxa, hb9, hcl⟩ := hbk.resolve_left (by omega)
          have HB9 := Lib.hid hb9
          have HXA := Lib.hid hxa
          rw [hxa] at e2
          have q5 : wr.cell? ⟨g, j, none⟩ = some (cs[j]'(by omega)) := by rw [hb9.cell]; exact List.getElem?_eq_getElem (by omega)
          have f5 := hb9.free j
          clear hbk hb9 hxa
          go_wp2_with fail
          go_roundw
          case rel => exact ⟨j + 1, by go_num, by omega, HF9.out.trans (Fr.grown (F := fun q => q = g) (grown_setCell wr ⟨g, j, none⟩ _) (fun q e _ => by injection e with e; exact e.symm)) (fun q _ e => by
            rw [e]; unfold AnsR.b; rw [if_neg (by omega), HXA.out]; rfl), .inr ⟨g, t, _, HXA.out, HB9.out.set j _, by rw [List.length_set]; exact hcl⟩⟩
          case measure => simp [intOf]; omega
        · obtain rfl : j = x.n := by omega
          clear hbk hjx
          go_wp2_with fail
          go_roundw
          case rel => exact ⟨i + 1, by go_num, by omega, fun k y hk hy => (HOK.out k y (by omega) hy).fr HF9.out (fun q hq e => by
            have h1 := List.getElem?_eq_some_iff.1 HX.out
            have h2 := List.getElem?_eq_some_iff.1 hy
            obtain ⟨h1a, h1b⟩ := h1
            obtain ⟨h2a, h2b⟩ := h2
            have h3 := List.pairwise_iff_getElem.1 HPW.out i k h1a h2a (by omega)
            rw [h1b, h2b] at h3
            exact h3 q e hq), HPR.out.fr HF9.out (fun q hq e => HXK.out.noPF q e hq), HFR.out.trans HF9.out (fun q _ e => ⟨x, List.mem_of_getElem? HX.out, e⟩)⟩
          case measure => simp [intOf]; omega
    · obtain rfl : i = m := by omega
      go_wp2_with fail
      go_ret
      exact ⟨rfl, HPR.out, HFR.out⟩
end Go.Proofs.Ytlgpaglkhgomiaa
