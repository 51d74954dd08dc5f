/- FuseNeverBack: what the law keeps. No condition. -/
import Derived.Test.YtcjhjengggfpeaaRg
namespace Go.Proofs.Ytcjhjengggfpeaa
open Go.RowKit
set_option linter.unusedVariables false
set_option maxRecDepth 100000
set_option linter.unusedSimpArgs false
/-- a byte as 'was' keeps it -/
def wasN (p : Nat × Bool) : Nat := if p.2 = true then p.1 + 1 else 0
/-- what is not burnt is 0 -/
def Un (l : List (Nat × Bool)) : Prop := ∀ k, (l.getD k (0, false)).2 = false → (l.getD k (0, false)).1 = 0
/-- no way back -/
def Bk (l l' : List (Nat × Bool)) (c c' : List Nat) : Prop := (∀ k, (l.getD k (0, false)).2 = true → l'.getD k (0, false) = l.getD k (0, false)) ∧ ∀ k, c.getD k 0 ≤ c'.getD k 0
structure NB (w0 : World) (base bw bc g : Nat) (l l' : List (Nat × Bool)) (c c' : List Nat) (A C : List Nat) (w : World) : Prop where
  fu : FuAt w g l' c'
  ok : FuOk l' c'
  un : Un l'
  bk : Bk l l' c c'
  hg : base ≤ g
  wa : Blk w bw 45 (natsV .i64 A)
  cc : Blk w bc 29 (natsV .u32 C)
  hw : base ≤ bw
  hc : base ≤ bc
  bl : Below base w0 w
  sz : base ≤ w0.heap.size
/-- the first k of one, the others of the other -/
def mix (a b : List Nat) (k : Nat) : List Nat := a.take k ++ b.drop k
theorem mix_get {a b : List Nat} (h : a.length = b.length) (k : Nat) (hk : k < b.length) : (mix a b k)[k]? = some (b.getD k 0) := by
  unfold mix
  rw [List.getElem?_append_right (by rw [List.length_take]; omega), List.length_take, show k - min k a.length = 0 by omega, List.getElem?_drop, Nat.add_zero, List.getElem?_eq_getElem hk, List.getD_eq_getElem?_getD, List.getElem?_eq_getElem hk]; rfl
theorem mix_set {a b : List Nat} (h : a.length = b.length) (k : Nat) (hk : k < b.length) : (mix a b k).set k (a.getD k 0) = mix a b (k + 1) := by
  unfold mix
  rw [List.set_append_right _ _ (by rw [List.length_take]; omega), List.length_take, show k - min k a.length = 0 by omega, List.take_succ_eq_append_getElem (by omega), List.drop_eq_getElem_cons hk, List.set_cons_zero, List.append_assoc, List.getD_eq_getElem?_getD, List.getElem?_eq_getElem (by omega : k < a.length)]
  rfl
theorem mix_same {a b : List Nat} (h : a.length = b.length) (k : Nat) (hk : k < b.length) (e : a.getD k 0 = b.getD k 0) : mix a b (k + 1) = mix a b k := by
  rw [← mix_set h k hk, e]
  apply List.ext_getElem?
  intro i
  by_cases hi : i = k
  · subst hi
    have hl : i < (mix a b i).length := by have := (List.getElem?_eq_some_iff.1 (mix_get h i hk)).1; exact this
    rw [List.getElem?_set_self hl, mix_get h i hk]
  · rw [List.getElem?_set_ne (fun x => hi x.symm)]
theorem mix_zero (a b : List Nat) : mix a b 0 = b := by simp [mix]
theorem mix_all {a b : List Nat} (h : a.length = b.length) (k : Nat) (hk : a.length ≤ k) : mix a b k = a := by
  unfold mix
  rw [List.take_of_length_le hk, List.drop_eq_nil_of_le (by omega), List.append_nil]
theorem getD_map (l : List (Nat × Bool)) (k : Nat) (hk : k < l.length) : (l.map wasN).getD k 0 = wasN (l.getD k (0, false)) := by
  simp [List.getD_eq_getElem?_getD, List.getElem?_eq_getElem hk]
theorem getD_set_self {α : Type} (l : List α) (i : Nat) (x d : α) (h : i < l.length) : (l.set i x).getD i d = x := by simp [List.getD_eq_getElem?_getD, h]
theorem getD_set_other {α : Type} (l : List α) (i k : Nat) (x d : α) (h : i ≠ k) : (l.set i x).getD k d = l.getD k d := by simp [List.getD_eq_getElem?_getD, List.getElem?_set_ne h]
theorem Bk.refl (l : List (Nat × Bool)) (c : List Nat) : Bk l l c c := ⟨fun _ _ => rfl, fun _ => Nat.le_refl _⟩
theorem un0 : Un l0 := fun k _ => by
  rw [l0, List.getD_eq_getElem?_getD, List.getElem?_replicate]
  split <;> rfl
theorem burn_un {l : List (Nat × Bool)} (h : Un l) (hl : l.length = 64) (i : Int) (v : Nat) : Un (burnL l i v) := by
  unfold burnL
  split
  · split
    · exact h
    · intro k hk
      by_cases e : i.toNat = k
      · rw [← e, getD_set_self _ _ _ _ (by omega)] at hk; cases hk
      · rw [getD_set_other _ _ _ _ _ e] at hk ⊢; exact h k hk
  · exact h
theorem burn_bk {l : List (Nat × Bool)} (hl : l.length = 64) (c : List Nat) (i : Int) (v : Nat) : Bk l (burnL l i v) c c := by
  refine ⟨fun k hk => ?_, fun _ => Nat.le_refl _⟩
  unfold burnL
  split
  · split
    · rfl
    · rename_i h2
      by_cases e : i.toNat = k
      · rw [e, hk] at h2; exact absurd rfl h2
      · rw [getD_set_other _ _ _ _ _ e]
  · rfl
theorem burn_ok {l : List (Nat × Bool)} {c : List Nat} (h : FuOk l c) (i : Int) (v : Nat) (hv : v < 256) : FuOk (burnL l i v) c := by
  unfold burnL
  split
  · split
    · exact h
    · exact h.put _ _ _ hv
  · exact h
theorem rais_bk {c : List Nat} (hc : c.length = 4) (l : List (Nat × Bool)) (i : Int) (v : Nat) : Bk l l c (raisC c i v) := by
  refine ⟨fun _ _ => rfl, fun k => ?_⟩
  unfold raisC
  split
  · split
    · exact Nat.le_refl _
    · rename_i h2
      by_cases e : i.toNat = k
      · rw [← e, getD_set_self _ _ _ _ (by omega)]; omega
      · rw [getD_set_other _ _ _ _ _ e]; exact Nat.le_refl _
  · exact Nat.le_refl _
theorem rais_ok {l : List (Nat × Bool)} {c : List Nat} (h : FuOk l c) (i : Int) (v : Nat) (hv : v < 4294967296) : FuOk l (raisC c i v) := by
  unfold raisC
  split
  · split
    · exact h
    · exact h.up _ _ hv
  · exact h
theorem row_weak (g : Nat) (l : List (Nat × Bool)) (c : List Nat) (i n : Int) (w : World) (h : FuAt w g l c) (k : FuOk l c) (hi : I64 i) (hn : I64 n) :
    Calls Try.prog 13 #[.pointer (some ⟨g, 0, none⟩), .int .i64 i, .int .i64 n] w fun e w' => (∃ v, e = .returned v) ∧ Below w.heap.size w w' := by
  by_cases hr : 0 ≤ i ∧ 0 ≤ n ∧ n ≤ 64 - i
  · obtain ⟨a, rfl⟩ : ∃ a : Nat, i = a := ⟨i.toNat, by omega⟩
    obtain ⟨b, rfl⟩ : ∃ b : Nat, n = b := ⟨n.toNat, by omega⟩
    refine (row_ok g l c a b w h k (by omega)).mono ?_
    rintro e w' ⟨x, y, rfl, _, hb⟩
    exact ⟨⟨_, rfl⟩, hb⟩
  · refine (row_bad g i n w hi hn hr).mono ?_
    rintro e w' ⟨rfl, rfl⟩
    exact ⟨⟨_, rfl⟩, Below.refl _ _⟩
theorem NB.grow {w0 : World} {base bw bc g : Nat} {l l' : List (Nat × Bool)} {c c' A C : List Nat} {w w' : World} (h : NB w0 base bw bc g l l' c c' A C w) (hb : Below w.heap.size w w') : NB w0 base bw bc g l l' c c' A C w' :=
  ⟨Blk.below' h.fu hb, h.ok, h.un, h.bk, h.hg, h.wa.below' hb, h.cc.below' hb, h.hw, h.hc, h.bl.trans (hb.mono (Nat.le_trans h.sz h.bl.size)), h.sz⟩
/-- the fuses turned -/
theorem NB.turn {w0 : World} {base bw bc g : Nat} {l : List (Nat × Bool)} {c A C : List Nat} {w w' : World} (h : NB w0 base bw bc g l l c c A C w) {l2 : List (Nat × Bool)} {c2 : List Nat} (hf : FuAt w' g l2 c2) (hk : FuOk l2 c2) (hu : Un l2) (hb : Bk l l2 c c2) (hg : w.grownBy w' (some g)) : NB w0 base bw bc g l l2 c c2 A C w' :=
  ⟨hf, hk, hu, hb, h.hg, h.wa.grown hg (fun e => by injection e with e; exact blk_ne h.wa h.fu (by decide) e), h.cc.grown hg (fun e => by injection e with e; exact blk_ne h.cc h.fu (by decide) e), h.hw, h.hc, grownB h.bl hg h.hg (Nat.le_trans h.sz h.bl.size), h.sz⟩
/-- 'was' turned -/
theorem NB.setW {w0 : World} {base bw bc g : Nat} {l l' : List (Nat × Bool)} {c c' A C : List Nat} {w : World} (h : NB w0 base bw bc g l l' c c' A C w) (k x : Nat) : NB w0 base bw bc g l l' c c' (A.set k x) C (w.setCell ⟨bw, k, none⟩ (.int .i64 (x : Nat))) :=
  ⟨Blk.other h.fu _ _ (blk_ne h.fu h.wa (by decide)), h.ok, h.un, h.bk, h.hg, h.wa.natSet k x, h.cc.other _ _ (blk_ne h.cc h.wa (by decide)), h.hw, h.hc, grownB h.bl (grown_setCell w ⟨bw, k, none⟩ _) h.hw (Nat.le_trans h.sz h.bl.size), h.sz⟩
theorem NB.setC {w0 : World} {base bw bc g : Nat} {l l' : List (Nat × Bool)} {c c' A C : List Nat} {w : World} (h : NB w0 base bw bc g l l' c c' A C w) (k x : Nat) : NB w0 base bw bc g l l' c c' A (C.set k x) (w.setCell ⟨bc, k, none⟩ (.int .u32 (x : Nat))) :=
  ⟨Blk.other h.fu _ _ (blk_ne h.fu h.cc (by decide)), h.ok, h.un, h.bk, h.hg, h.wa.other _ _ (blk_ne h.wa h.cc (by decide)), h.cc.natSet k x, h.hw, h.hc, grownB h.bl (grown_setCell w ⟨bc, k, none⟩ _) h.hc (Nat.le_trans h.sz h.bl.size), h.sz⟩
theorem NB.cellW {w0 : World} {base bw bc g : Nat} {l l' : List (Nat × Bool)} {c c' A C : List Nat} {w : World} (h : NB w0 base bw bc g l l' c c' A C w) (k x : Nat) (hx : A[k]? = some x) : w.cell? ⟨bw, k, none⟩ = some (.int .i64 (x : Nat)) := by
  rw [h.wa.cell]; unfold natsV; rw [List.getElem?_map, hx]; rfl
theorem NB.cellC {w0 : World} {base bw bc g : Nat} {l l' : List (Nat × Bool)} {c c' A C : List Nat} {w : World} (h : NB w0 base bw bc g l l' c c' A C w) (k x : Nat) (hx : C[k]? = some x) : w.cell? ⟨bc, k, none⟩ = some (.int .u32 (x : Nat)) := by
  rw [h.cc.cell]; unfold natsV; rw [List.getElem?_map, hx]; rfl
theorem NB.ex {w0 : World} {base bw bc g : Nat} {l l' : List (Nat × Bool)} {c c' A C : List Nat} {w : World} (h : NB w0 base bw bc g l l' c c' A C w) : ∃ l2 c2, NB w0 base bw bc g l l2 c c2 A C w := ⟨_, _, h⟩
end Go.Proofs.Ytcjhjengggfpeaa
