/- Both are made of like lists. Condition: sizes. -/
import Derived.Test.YtlgpaglkhgomiaaQc
namespace Go.Proofs.Ytlgpaglkhgomiaa
open Go.RowKit
set_option linter.unusedVariables false
set_option maxRecDepth 100000
set_option linter.unusedSimpArgs false
theorem newR_congr (N : Int) : ∀ (bs bs' : List BlkR) (hs : Int → Bool) (c : Int → List Nat), bs.map BlkR.key = bs'.map BlkR.key → (∀ x ∈ bs, x.l.length = x.n) → (∀ x ∈ bs', x.l.length = x.n) → newR N bs hs c = newR N bs' hs c
  | [], [], _, _, _, _, _ => rfl
  | [], y :: s, _, _, h, _, _ => by simp at h
  | x :: r, [], _, _, h, _, _ => by simp at h
  | x :: r, y :: s, hs, c, h, h1, h2 => by
    simp only [List.map_cons, List.cons.injEq] at h
    obtain ⟨hk, hr⟩ := h
    unfold BlkR.key at hk
    injection hk with e1 e2
    have e3 : x.n = y.n := by rw [← h1 x (by simp), ← h2 y (by simp), e2]
    unfold newR
    rw [e1, e2, e3, newR_congr N r s _ _ hr (fun z hz => h1 z (by simp [hz])) (fun z hz => h2 z (by simp [hz]))]
theorem newR_c (N : Int) : ∀ (bs : List BlkR) (hs0 : Int → Bool) (c0 : Int → List Nat) (hs : Int → Bool) (c : Int → List Nat), newR N bs hs0 c0 = (0, hs, c) →
    (∀ x, c x = match bs.find? (fun b => b.N == x) with | some b => b.l | none => c0 x) ∧ (∀ x, hs x = true ↔ hs0 x = true ∨ ∃ b ∈ bs, b.N = x) ∧ (∀ b ∈ bs, hs0 b.N = false ∧ 0 ≤ b.N ∧ b.N < N ∧ b.n = 512)
  | [], hs0, c0, hs, c, h => by
    unfold newR at h
    injection h with _ h
    injection h with h1 h2
    subst h1 h2
    exact ⟨fun x => rfl, fun x => by simp, fun b hb => (by cases hb)⟩
  | y :: r, hs0, c0, hs, c, h => by
    unfold newR at h
    split at h
    · injection h with h0 _; cases h0
    · rename_i q1
      split at h
      · injection h with h0 _; cases h0
      · rename_i q2
        obtain ⟨h1, h2, h3⟩ := newR_c N r _ _ hs c h
        have hy0 : hs0 y.N = false := by
          cases hh : hs0 y.N
          · rfl
          · exact absurd (.inl hh) q1
        have hyr : 0 ≤ y.N ∧ y.N < N := by
          by_cases hh : 0 ≤ y.N ∧ y.N < N
          · exact hh
          · exact absurd (.inr hh) q1
        have hne : ∀ b ∈ r, b.N ≠ y.N := fun b hb e => by
          have := (h3 b hb).1
          unfold upB at this
          rw [if_pos e] at this
          cases this
        refine ⟨fun x => ?_, fun x => ?_, fun b hb => ?_⟩
        · rw [h1 x]
          by_cases e : y.N = x
          · rw [List.find?_cons_of_pos (by simpa using e), List.find?_eq_none.2 (fun b hb => by simp; exact fun e2 => hne b hb (e2.trans e.symm))]
            unfold upC
            simp [e]
          · rw [List.find?_cons_of_neg (by simpa using e)]
            unfold upC
            rw [if_neg (fun e2 => e e2.symm)]
        · rw [h2 x]
          unfold upB
          by_cases e : x = y.N
          · rw [if_pos e]
            simp [e]
          · rw [if_neg e]
            constructor
            · rintro (h | ⟨b, hb, hN⟩)
              · exact .inl h
              · exact .inr ⟨b, by simp [hb], hN⟩
            · rintro (h | ⟨b, hb, hN⟩)
              · exact .inl h
              · rcases List.mem_cons.1 hb with hb | hb
                · subst hb; exact absurd hN.symm e
                · exact .inr ⟨b, hb, hN⟩
        · rcases List.mem_cons.1 hb with hb | hb
          · subst hb
            exact ⟨hy0, hyr.1, hyr.2, by omega⟩
          · obtain ⟨k1, k2⟩ := h3 b hb
            unfold upB at k1
            rw [if_neg (hne b hb)] at k1
            exact ⟨k1, k2⟩
theorem cOf_key : ∀ (bs bs' : List BlkR), bs.map BlkR.key = bs'.map BlkR.key → cOf bs = cOf bs'
  | [], [], _ => rfl
  | [], y :: s, h => by simp at h
  | x :: r, [], h => by simp at h
  | x :: r, y :: s, h => by
    simp only [List.map_cons, List.cons.injEq] at h
    obtain ⟨hk, hr⟩ := h
    unfold BlkR.key at hk
    injection hk with e1 e2
    have ih := cOf_key r s hr
    funext z
    have ih := congrFun ih z
    unfold cOf at *
    by_cases e : x.N = z
    · rw [List.find?_cons_of_pos (by simpa using e), List.find?_cons_of_pos (by simpa [← e1] using e)]
      exact e2
    · rw [List.find?_cons_of_neg (by simpa using e), List.find?_cons_of_neg (by simpa [← e1] using e)]
      exact ih
/-- the error of both -/
def nE (N : Int) (bs : List BlkR) : Int := if N < 1 ∨ 1048576 < N then 1 else (newR N bs (fun _ => false) (fun _ => zB)).1
theorem nE_key {N : Int} {bs bs' : List BlkR} (h : bs.map BlkR.key = bs'.map BlkR.key) (h1 : ∀ x ∈ bs, x.l.length = x.n) (h2 : ∀ x ∈ bs', x.l.length = x.n) : nE N bs = nE N bs' := by
  unfold nE
  rw [newR_congr N bs bs' _ _ h h1 h2]
def FNew (N : Int) (k : Nat) (bs : List BlkR) (w : World) (e : Ending) (w' : World) : Prop :=
  Below w.heap.size w w' ∧ ∃ pf : Option Addr, e = .returned (.tuple #[.pointer pf, .int .i64 (nE N bs)]) ∧ (nE N bs ≠ 0 → pf = none) ∧ (nE N bs = 0 → ∃ f mb, pf = some ⟨f, 0, none⟩ ∧ w.heap.size ≤ f ∧ w.heap.size ≤ mb ∧ 1 ≤ N ∧ N ≤ 1048576 ∧ FlB w' f mb N true 0 false 0 ∧ MAt w' mb k (hB bs) (cOf bs))
theorem newR_hB {N : Int} {bs : List BlkR} {hs : Int → Bool} {c : Int → List Nat} (h : newR N bs (fun _ => false) (fun _ => zB) = (0, hs, c)) : c = cOf bs ∧ ∀ x, keepB hs c (fun _ => false) x = hB bs x := by
  obtain ⟨h1, h2, h3⟩ := newR_c N bs _ _ hs c h
  have hc : c = cOf bs := funext fun x => h1 x
  refine ⟨hc, fun x => ?_⟩
  unfold keepB hB
  rw [← hc]
  cases hh : hs x
  · have hx : c x = zB := by
      rw [h1 x, List.find?_eq_none.2 (fun b hb => by
        simp
        intro e
        have := (h2 x).2 (.inr ⟨b, hb, e⟩)
        rw [hh] at this; cases this)]
    simp [hx]
  · simp
theorem fnew_any (N : Int) (A : Option Addr) (k cp : Nat) (bs : List BlkR) (w : World) (hin : LIn w A k bs) (hk : k ≤ 70368744177664) :
    Calls Try.prog 7 #[.int .i64 N, .slice A k cp] w (FNew N k bs w) := by
  unfold FNew nE
  by_cases hN : N < 1 ∨ 1048576 < N
  · rw [if_pos hN]
    refine (new_out N _ w hN).mono ?_
    rintro e w' ⟨rfl, rfl⟩
    exact ⟨Below.refl _ _, none, rfl, fun _ => rfl, fun h => by cases h⟩
  · rw [if_neg hN]
    refine (new_any N A k cp bs w (by omega) (by omega) hin hk).mono ?_
    rintro e w' ⟨hb, h1, h2⟩
    refine ⟨hb, ?_⟩
    obtain ⟨E, hs, c, hE⟩ : ∃ E hs c, newR N bs (fun _ => false) (fun _ => zB) = (E, hs, c) := ⟨_, _, _, rfl⟩
    rw [hE] at h1 h2 ⊢
    by_cases h0 : E = 0
    · subst h0
      obtain ⟨f, mb, hf, hm, rfl, hfl, hma⟩ := h2 rfl
      obtain ⟨e1, e2⟩ := newR_hB hE
      refine ⟨_, rfl, fun h => absurd rfl h, fun _ => ⟨f, mb, rfl, hf, hm, by omega, by omega, hfl, hma.congr (fun x _ => e2 x) (fun x _ => by rw [e1]) (fun x => ?_)⟩⟩
      obtain ⟨D, _, _, _, h4⟩ := hma
      rw [← e1]; exact h4 x
    · exact ⟨none, h1 h0, fun _ => rfl, fun h => absurd h h0⟩
def RNew (N : Int) (bs : List BlkR) (w : World) (e : Ending) (w' : World) : Prop :=
  Below w.heap.size w w' ∧ ∃ pr : Option Addr, e = .returned (.tuple #[.pointer pr, .int .i64 (nE N bs)]) ∧ (nE N bs = 0 → ∃ r bs', pr = some ⟨r, 0, none⟩ ∧ w.heap.size ≤ r ∧ RfAt w' w.heap.size r N false 0 false 0 bs' ∧ bs'.map BlkR.key = bs.map BlkR.key)
theorem rnew_all (N : Int) (A : Option Addr) (k cp : Nat) (bs : List BlkR) (w : World) (hin : LIn w A k bs) (hk : k ≤ 70368744177664) :
    Calls Try.prog 9 #[.int .i64 N, .slice A k cp] w (RNew N bs w) := by
  unfold RNew nE
  by_cases hN : N < 1 ∨ 1048576 < N
  · rw [if_pos hN]
    refine (rnew_out N _ w hN).mono ?_
    rintro e w' ⟨rfl, rfl⟩
    exact ⟨Below.refl _ _, none, rfl, fun h => by cases h⟩
  · rw [if_neg hN]
    refine (rnew_any N A k cp bs w (by omega) (by omega) hin hk).mono ?_
    rintro e w' ⟨hb, h1, h2⟩
    refine ⟨hb, ?_⟩
    by_cases h0 : (newR N bs (fun _ => false) (fun _ => zB)).1 = 0
    · obtain ⟨r, bs', hr, rfl, hrf, hk2⟩ := h2 h0
      rw [h0]
      exact ⟨_, rfl, fun _ => ⟨r, bs', rfl, hr, hrf, hk2⟩⟩
    · exact ⟨none, h1 h0, fun h => absurd h h0⟩
theorem RfAt.low {w : World} {base base' r : Nat} {N left many : Int} {off dn : Bool} {bs : List BlkR} (h : RfAt w base' r N off left dn many bs) (hb : base ≤ base') : RfAt w base r N off left dn many bs := by
  obtain ⟨⟨a, c, h1, h2⟩, h3⟩ := h
  exact ⟨⟨a, c, h1, own_low h2.1 hb, fun x hx => ⟨⟨own_low (h2.2 x hx).1.1 hb, (h2.2 x hx).1.2⟩, (h2.2 x hx).2⟩⟩, h3⟩
end Go.Proofs.Ytlgpaglkhgomiaa
