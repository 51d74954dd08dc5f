/- The bytes that a seed gives out, one at a call: the closure's memory, and its contract. Condition: the table of constants. -/
import Derived.Test.YtlbfnmmankoddaaDoorKMeth
import Derived.Test.YtlbfnmmankoddaaDoorKPc
import Derived.Test.YtlbfnmmankoddaaDoorG0
namespace Go.Proofs.YtlbfnmmankoddaaDoor
open Go.RowKit
set_option linter.unusedVariables false
set_option linter.unusedSimpArgs false
/-- all blocks but some are as they were -/
def KeepS (S : Nat → Prop) (w w' : World) : Prop := w'.os = w.os ∧ w'.tape = w.tape ∧ w'.output = w.output ∧ w.heap.size ≤ w'.heap.size ∧ ∀ k, k < w.heap.size → ¬ S k → w'.heap[k]? = w.heap[k]?
theorem KeepS.refl (S : Nat → Prop) (w : World) : KeepS S w w := ⟨rfl, rfl, rfl, Nat.le_refl _, fun _ _ _ => rfl⟩
theorem KeepS.trans {S : Nat → Prop} {a b c : World} (h : KeepS S a b) (k : KeepS S b c) : KeepS S a c :=
  ⟨k.1.trans h.1, k.2.1.trans h.2.1, k.2.2.1.trans h.2.2.1, Nat.le_trans h.2.2.2.1 k.2.2.2.1, fun i hi hs => (k.2.2.2.2 i (Nat.lt_of_lt_of_le hi h.2.2.2.1) hs).trans (h.2.2.2.2 i hi hs)⟩
theorem KeepS.mono {S T : Nat → Prop} {a b : World} (h : KeepS S a b) (hST : ∀ k, S k → T k) : KeepS T a b :=
  ⟨h.1, h.2.1, h.2.2.1, h.2.2.2.1, fun i hi hs => h.2.2.2.2 i hi (fun k => hs (hST i k))⟩
theorem KeepS.grown {S : Nat → Prop} {a b : World} {g : Nat} (h : a.grownBy b (some g)) (hg : S g) : KeepS S a b :=
  ⟨h.os, h.tape, h.output, h.size, fun i hi hs => h.block i hi (fun e => by injection e with e; subst e; exact hs hg)⟩
theorem KeepS.below {S : Nat → Prop} {a b : World} (h : Below a.heap.size a b) : KeepS S a b := ⟨h.os, h.tape, h.output, h.size, fun i hi _ => h.block i hi⟩
theorem KeepS.cell {S : Nat → Prop} (w : World) (g i : Nat) (v : Value) (hg : S g) : KeepS S w (w.setCell ⟨g, i, none⟩ v) := KeepS.grown (grown_setCell w ⟨g, i, none⟩ v) hg
theorem KeepS.bel {S : Nat → Prop} {a b w0 : World} (h : KeepS S a b) (hb : Below w0.heap.size w0 a) (hS : ∀ k, S k → w0.heap.size ≤ k) : Below w0.heap.size w0 b :=
  ⟨h.1.trans hb.os, h.2.1.trans hb.tape, h.2.2.1.trans hb.output, Nat.le_trans hb.size h.2.2.2.1, fun i hi => (h.2.2.2.2 i (Nat.lt_of_lt_of_le hi hb.size) (fun k => by have := hS i k; omega)).trans (hb.block i hi)⟩
theorem Blk.keep {S : Nat → Prop} {w w' : World} {g : Nat} {t : TypeId} {cs : List Value} (h : Blk w g t cs) (k : KeepS S w w') (hg : ¬ S g) : Blk w' g t cs := h.of (k.2.2.2.2 g h.lt hg)
theorem Tabs.keep {S : Nat → Prop} {w w' : World} (h : Tabs w) (k : KeepS S w w') (h0 : ¬ S 0) : Tabs w' := fun i hi => by
  rw [← h i hi]
  have h1 := h.size
  have e := k.2.2.2.2 0 (by omega) h0
  simp [World.cell?, e]
/-- where the bytes begin -/
def P0 (k : Nat) (L : List Nat) : List Nat × Nat := (endN k (absL (rateK k) (zeros 25, 0) L), 0)
/-- the byte at place i of what a seed gives out -/
def stY (k : Nat) (L : List Nat) (i : Nat) : Nat := byteN (sqS (rateK k) (P0 k L) i).1 (sqS (rateK k) (P0 k L) i).2
theorem tellG (f : Nat → Nat) (n i : Nat) (h : i < n) : (tell f n).getD i 0 = f i := by simp [tell, List.getD_eq_getElem?_getD, h]
theorem chunk_get (k : Nat) (L : List Nat) (q j : Nat) (hj : j < 168) : (sqB (rateK k) (sqS (rateK k) (P0 k L) q) 168).getD j 0 = stY k L (q + j) := by
  unfold sqB
  rw [tellG _ _ _ hj]
  unfold stY
  rw [sqS_add]
theorem stY_lt (k : Nat) (L : List Nat) (i : Nat) : stY k L i < 256 := by
  have h := sqB_lt (rateK k) (P0 k L) (i + 1) (stY k L i) (by unfold sqB tell; exact List.mem_map.2 ⟨i, List.mem_range.2 (by omega), rfl⟩)
  exact h
/-- the closure's memory when i bytes have been drawn -/
def Src (own : Nat → Prop) (k : Nat) (L : List Nat) (most g5 g9 g7 gS : Nat) (w : World) (i : Nat) : Prop :=
  (i ≤ most ∧ most ≤ 100000) ∧ Blk w g5 3 [.int .i64 ((most - i : Nat) : Int)] ∧ Blk w g7 55 [.pointer (some ⟨gS, 0, none⟩)] ∧ Tabs w ∧
  (g5 ≠ g9 ∧ g5 ≠ g7 ∧ g5 ≠ gS ∧ g9 ≠ g7 ∧ g9 ≠ gS ∧ g7 ≠ gS ∧ 1 ≤ g5 ∧ 1 ≤ g9 ∧ 1 ≤ g7 ∧ ¬ own g5 ∧ ¬ own g9 ∧ ¬ own g7 ∧ ¬ own gS) ∧
  ∃ m a gv s A c, SpAt w gS k a gv (-1) s ∧ (if gv then (s, a) else (endN k (s, a), 0)) = sqS (rateK k) (P0 k L) (168 * m) ∧ i ≤ 168 * m ∧ 168 * m < i + 168 ∧
    Blk w g9 22 [.slice A (168 * m - i) c] ∧
    (168 * m = i ∨ ∃ G o, A = some ⟨G, o, none⟩ ∧ o + (168 * m - i) = 168 ∧ c = 168 * m - i ∧ Blk w G 5 (natsV .u8 (sqB (rateK k) (sqS (rateK k) (P0 k L) (168 * (m - 1))) 168)) ∧ G ≠ g5 ∧ G ≠ g9 ∧ G ≠ g7 ∧ G ≠ gS ∧ ¬ own G)
def SrcS (g5 g9 gS : Nat) (k : Nat) : Prop := k = g5 ∨ k = g9 ∨ k = gS
/-- the source is as it was where others' blocks turned -/
theorem Src.keep {own : Nat → Prop} {k most g5 g9 g7 gS i : Nat} {L : List Nat} {w w' : World} (h : Src own k L most g5 g9 g7 gS w i) (hk : KeepS own w w') (h0 : ¬ own 0) : Src own k L most g5 g9 g7 gS w' i := by
  obtain ⟨h1, h2, h3, h4, h5, m, a, gv, s, A, c, s1, s2, s3, s4, s5, s6⟩ := h
  have h5' := h5
  obtain ⟨_, _, _, _, _, _, _, _, _, n5, n9, n7, nS⟩ := h5'
  refine ⟨h1, h2.keep hk n5, h3.keep hk n7, h4.keep hk h0, h5, m, a, gv, s, A, c, ⟨s1.1, s1.2.1, s1.2.2.1, s1.2.2.2.1, s1.2.2.2.2.keep hk nS⟩, s2, s3, s4, s5.keep hk n9, ?_⟩
  rcases s6 with e | ⟨G, o, e1, e2, e3, e4, e5, e6, e7, e8, e9⟩
  · exact .inl e
  · exact .inr ⟨G, o, e1, e2, e3, e4.keep hk e9, e5, e6, e7, e8, e9⟩
/-- what the closure answers -/
def NextIs (own : Nat → Prop) (k : Nat) (L : List Nat) (most g5 g9 g7 gS i : Nat) (w : World) (e : Ending) (w' : World) : Prop :=
  e = .returned (.tuple #[.int .u8 (stY k L i : Nat), .bool true]) ∧ Src own k L most g5 g9 g7 gS w' (i + 1) ∧ KeepS (SrcS g5 g9 gS) w w'
set_option maxHeartbeats 1600000 in
theorem next_end (own : Nat → Prop) (k : Nat) (L : List Nat) (most g5 g9 g7 gS : Nat) (w : World) (h : Src own k L most g5 g9 g7 gS w most) :
    Calls Tryd.prog 29 #[.pointer (some ⟨g5, 0, none⟩), .pointer (some ⟨g9, 0, none⟩), .pointer (some ⟨g7, 0, none⟩)] w fun e w' => e = .returned (.tuple #[.int .u8 0, .bool false]) ∧ w = w' := by
  have hc := h.2.1.cell 0
  have e0 : ((most - most : Nat) : Int) = 0 := by omega
  rw [e0] at hc
  have hc' : w.cell? ⟨g5, 0, none⟩ = some (.int .i64 0) := hc
  clear h hc e0
  go_enter Tryd.func29, Tryd.ntmps29
  go_wp2_with fail
  go_ret2
  exact ⟨rfl, rfl⟩
set_option maxHeartbeats 1600000 in
theorem next_some (own : Nat → Prop) (k : Nat) (L : List Nat) (most g5 g9 g7 gS i : Nat) (w : World) (h : Src own k L most g5 g9 g7 gS w i) (hi : i < most) (hne : ∀ m A c, Blk w g9 22 [.slice A (168 * m - i) c] → 168 * m ≠ i) :
    Calls Tryd.prog 29 #[.pointer (some ⟨g5, 0, none⟩), .pointer (some ⟨g9, 0, none⟩), .pointer (some ⟨g7, 0, none⟩)] w (NextIs own k L most g5 g9 g7 gS i w) := by
  obtain ⟨⟨h1, h1'⟩, h2, h3, h4, h5, m, a, gv, s, A, c, s1, s2, s3, s4, s5, s6⟩ := h
  have hmi := hne m A c s5
  obtain ⟨G, o, rfl, e2, rfl, e4, e5, e6, e7, e8, e9⟩ := s6.resolve_left hmi
  clear hne s6
  have h5' := h5
  obtain ⟨q1, q2, q3, q4, q5, q6, r1, r2, r3, n5, n9, n7, nS⟩ := h5'
  obtain ⟨n, hn⟩ : ∃ n, 168 * m - i = n := ⟨_, rfl⟩
  rw [hn] at s5 e2
  have hn1 : 1 ≤ n := by omega
  have c5 : w.cell? ⟨g5, 0, none⟩ = some (.int .i64 ((most - i : Nat) : Int)) := h2.cell 0
  have c9 : w.cell? ⟨g9, 0, none⟩ = some (.slice (some ⟨G, o, none⟩) n n) := s5.cell 0
  have hby := e4.nat o (by rw [sqB_length]; omega)
  rw [chunk_get k L _ o (by omega), show 168 * (m - 1) + o = i by omega] at hby
  have f5 := h2.free 0
  have f9 := s5.free 0
  have hyl := stY_lt k L i
  obtain ⟨r, hr⟩ : ∃ r, most - i = r := ⟨_, rfl⟩
  rw [hr] at c5
  have hr1 : 1 ≤ r := by omega
  have hr2 : r ≤ 100000 := by omega
  have HF := Lib.hid (show ∀ w', (w' = ((w.setCell ⟨g5, 0, none⟩ (.int .i64 ((r - 1 : Nat) : Int))).setCell ⟨g9, 0, none⟩ (.slice (some ⟨G, if n = 1 then o else o + 1, none⟩) (n - 1) (n - 1)))) → Src own k L most g5 g9 g7 gS w' (i + 1) ∧ KeepS (SrcS g5 g9 gS) w w' from by
    rintro w' rfl
    have k1 : KeepS (SrcS g5 g9 gS) w (w.setCell ⟨g5, 0, none⟩ (.int .i64 ((r - 1 : Nat) : Int))) := KeepS.cell w g5 0 _ (.inl rfl)
    have k2 := k1.trans (KeepS.cell (w.setCell ⟨g5, 0, none⟩ (.int .i64 ((r - 1 : Nat) : Int))) g9 0 (.slice (some ⟨G, if n = 1 then o else o + 1, none⟩) (n - 1) (n - 1)) (.inr (.inl rfl)))
    have b5 := (h2.set 0 (.int .i64 ((r - 1 : Nat) : Int))).other ⟨g9, 0, none⟩ (.slice (some ⟨G, if n = 1 then o else o + 1, none⟩) (n - 1) (n - 1)) q1
    have b9 := (s5.other ⟨g5, 0, none⟩ (.int .i64 ((r - 1 : Nat) : Int)) (Ne.symm q1)).set 0 (.slice (some ⟨G, if n = 1 then o else o + 1, none⟩) (n - 1) (n - 1))
    have bk := fun {g : Nat} {t : TypeId} {cs : List Value} (hb : Blk w g t cs) (x5 : g ≠ g5) (x9 : g ≠ g9) => (hb.other ⟨g5, 0, none⟩ (.int .i64 ((r - 1 : Nat) : Int)) x5).other ⟨g9, 0, none⟩ (.slice (some ⟨G, if n = 1 then o else o + 1, none⟩) (n - 1) (n - 1)) x9
    refine ⟨⟨⟨by omega, h1'⟩, ?_, bk h3 (Ne.symm q2) (Ne.symm q4), h4.keep k2 (by unfold SrcS; have := s1.2.2.2.1; omega), h5, m, a, gv, s, some ⟨G, if n = 1 then o else o + 1, none⟩, n - 1, ⟨s1.1, s1.2.1, s1.2.2.1, s1.2.2.2.1, bk s1.2.2.2.2 (Ne.symm q3) (Ne.symm q5)⟩, s2, by omega, by omega, ?_, ?_⟩, k2⟩
    · rw [show most - (i + 1) = r - 1 by omega]; exact b5
    · rw [show 168 * m - (i + 1) = n - 1 by omega]; exact b9
    · by_cases h1n : n = 1
      · left; omega
      · right
        exact ⟨G, o + 1, by rw [if_neg h1n], by omega, by omega, bk e4 e5 e6, e5, e6, e7, e8, e9⟩)
  have c9b : (w.setCell ⟨g5, 0, none⟩ (.int .i64 ((r - 1 : Nat) : Int))).cell? ⟨g9, 0, none⟩ = some (.slice (some ⟨G, o, none⟩) n n) := by
    have := (s5.other ⟨g5, 0, none⟩ (.int .i64 ((r - 1 : Nat) : Int)) (Ne.symm q1)).cell 0; exact this
  have f9b := (s5.other ⟨g5, 0, none⟩ (.int .i64 ((r - 1 : Nat) : Int)) (Ne.symm q1)).free 0
  have hbyb : (w.setCell ⟨g5, 0, none⟩ (.int .i64 ((r - 1 : Nat) : Int))).cell? ⟨G, o, none⟩ = some (.int .u8 (stY k L i : Nat)) := by
    have := (e4.other ⟨g5, 0, none⟩ (.int .i64 ((r - 1 : Nat) : Int)) e5).nat o (by rw [sqB_length]; omega)
    rw [chunk_get k L _ o (by omega), show 168 * (m - 1) + o = i by omega] at this; exact this
  have z1 : (r : Int) - 1 = ((r - 1 : Nat) : Int) := by omega
  unfold NextIs
  generalize stY k L i = y at *
  have Z1 := Lib.hid z1
  rw [← z1] at c9b f9b hbyb HF
  clear h2 h3 h4 h5 s1 s2 s3 s4 s5 e4 hn hr z1 h1 hi
  clear hmi
  by_cases h1n : n = 1
  · have HF1 := Lib.hid (by have := HF.out; rw [if_pos h1n] at this; exact this)
    clear HF
    subst h1n
    go_enter Tryd.func29, Tryd.ntmps29
    go_wp2_with fail
    go_ret2
    exact ⟨rfl, HF1.out _ rfl⟩
  · have HF1 := Lib.hid (by have := HF.out; rw [if_neg h1n] at this; exact this)
    clear HF
    have hn2 : 1 < n := by omega
    clear h1n
    go_enter Tryd.func29, Tryd.ntmps29
    go_wp2_with fail
    go_ret2
    exact ⟨rfl, HF1.out _ rfl⟩
set_option maxHeartbeats 1600000 in
theorem next_read (own : Nat → Prop) (OW : Nat) (hown : ∀ g, own g → g < OW) (k : Nat) (L : List Nat) (most g5 g9 g7 gS i : Nat) (w : World) (h : Src own k L most g5 g9 g7 gS w i) (hi : i < most) (m0 : Nat) (A0 : Option Addr) (c0 : Nat) (hbz : Blk w g9 22 [.slice A0 (168 * m0 - i) c0]) (hz : 168 * m0 = i) (hOW : OW ≤ w.heap.size) :
    Calls Tryd.prog 29 #[.pointer (some ⟨g5, 0, none⟩), .pointer (some ⟨g9, 0, none⟩), .pointer (some ⟨g7, 0, none⟩)] w (NextIs own k L most g5 g9 g7 gS i w) := by
  obtain ⟨⟨h1, h1'⟩, h2, h3, h4, h5, m, a, gv, s, A, c, s1, s2, s3, s4, s5, s6⟩ := h
  obtain rfl : m = m0 := by omega
  clear s6 hbz
  have h5' := h5
  obtain ⟨q1, q2, q3, q4, q5, q6, r1, r2, r3, n5, n9, n7, nS⟩ := h5'
  rw [show 168 * m - i = 0 by omega] at s5
  have c5 : w.cell? ⟨g5, 0, none⟩ = some (.int .i64 ((most - i : Nat) : Int)) := h2.cell 0
  have f5 := h2.free 0
  obtain ⟨r, hr⟩ : ∃ r, most - i = r := ⟨_, rfl⟩
  rw [hr] at c5
  have hr1 : 1 ≤ r := by omega
  have hr2 : r ≤ 100000 := by omega
  have z1 : (r : Int) - 1 = ((r - 1 : Nat) : Int) := by omega
  rw [hr] at h2
  -- behind the first store
  have b5 := h2.set 0 (.int .i64 ((r - 1 : Nat) : Int))
  have b9 := s5.other ⟨g5, 0, none⟩ (.int .i64 ((r - 1 : Nat) : Int)) (Ne.symm q1)
  have b7 := h3.other ⟨g5, 0, none⟩ (.int .i64 ((r - 1 : Nat) : Int)) (Ne.symm q2)
  have bS := s1.2.2.2.2.other ⟨g5, 0, none⟩ (.int .i64 ((r - 1 : Nat) : Int)) (Ne.symm q3)
  have k1 : KeepS (SrcS g5 g9 gS) w (w.setCell ⟨g5, 0, none⟩ (.int .i64 ((r - 1 : Nat) : Int))) := KeepS.cell w g5 0 _ (.inl rfl)
  have t1 := h4.keep k1 (by unfold SrcS; have := s1.2.2.2.1; omega)
  have sz1 : (w.setCell ⟨g5, 0, none⟩ (.int .i64 ((r - 1 : Nat) : Int))).heap.size = w.heap.size := by simp [World.setCell]
  have l5 := b5.lt
  have l9 := b9.lt
  have l7 := b7.lt
  have lS := bS.lt
  have HR := Lib.hid (readSp_any gS k a 168 gv (-1) s _ ⟨s1.1, s1.2.1, s1.2.2.1, s1.2.2.2.1, bS⟩ (by omega) (.inl rfl) t1 _ s2)
  have c9 : (w.setCell ⟨g5, 0, none⟩ (.int .i64 ((r - 1 : Nat) : Int))).cell? ⟨g9, 0, none⟩ = some (.slice A 0 c) := b9.cell 0
  have c7 : (w.setCell ⟨g5, 0, none⟩ (.int .i64 ((r - 1 : Nat) : Int))).cell? ⟨g7, 0, none⟩ = some (.pointer (some ⟨gS, 0, none⟩)) := b7.cell 0
  rw [← z1] at c9 c7 HR
  have K := Lib.hid (And.intro b5 (And.intro b9 (And.intro b7 (And.intro k1 (And.intro t1 (And.intro sz1 s1))))))
  rw [← z1] at K
  have LT := Lib.hid (And.intro l5 (And.intro l9 (And.intro l7 lS)))
  rw [← z1] at LT
  have Z1 := Lib.hid z1
  have HH := Lib.hid (And.intro h1 (And.intro h1' (And.intro h5 (And.intro s3 (And.intro s4 (And.intro hr hi))))))
  clear h2 h3 h4 h5 s1 s2 s3 s4 s5 b5 b9 b7 bS k1 t1 sz1 l5 l9 l7 lS hr hi h1 h1' z1
  go_enter Tryd.func29, Tryd.ntmps29
  go_wp2_with fail
  refine HR.out.mono ?_
  rintro e w2 ⟨G, rfl, hG, bG, sp, hgr⟩
  obtain ⟨b5, b9, b7, k1, t1, sz1, s1⟩ := K.out
  obtain ⟨l5, l9, l7, lS⟩ := LT.out
  obtain ⟨h1, h1', h5, s3, s4, hr, hi⟩ := HH.out
  have sz2 := hgr.size
  have x5 : G ≠ g5 := by omega
  have x9 : G ≠ g9 := by omega
  have x7 : G ≠ g7 := by omega
  have xS : G ≠ gS := by omega
  have xo : ¬ own G := fun ho => by have := hown G ho; omega
  have e5 := b5.grown hgr (by simpa using q3)
  have e9 := b9.grown hgr (by simpa using q5)
  have e7 := b7.grown hgr (by simpa using q6)
  have k2 := k1.trans (KeepS.grown (S := SrcS g5 g9 gS) hgr (.inr (.inr rfl)))
  have k3 := k2.trans (KeepS.cell (S := SrcS g5 g9 gS) w2 g9 0 (.slice (some ⟨G, 0, none⟩) 168 168) (.inr (.inl rfl)))
  have k4 := k3.trans (KeepS.cell (S := SrcS g5 g9 gS) (w2.setCell ⟨g9, 0, none⟩ (.slice (some ⟨G, 0, none⟩) 168 168)) g9 0 (.slice (some ⟨G, 1, none⟩) 167 167) (.inr (.inl rfl)))
  have t2 := t1.grown hgr (by have := s1.2.2.2.1; omega)
  have c9 : w2.cell? ⟨g9, 0, none⟩ = some (.slice A 0 c) := e9.cell 0
  have f9 := e9.free 0
  have bk := fun {g : Nat} {t : TypeId} {cs : List Value} (hb : Blk w2 g t cs) (y9 : g ≠ g9) => (hb.other ⟨g9, 0, none⟩ (.slice (some ⟨G, 0, none⟩) 168 168) y9).other ⟨g9, 0, none⟩ (.slice (some ⟨G, 1, none⟩) 167 167) y9
  have d9 := (e9.set 0 (.slice (some ⟨G, 0, none⟩) 168 168)).set 0 (.slice (some ⟨G, 1, none⟩) 167 167)
  have hby := (bG.other ⟨g9, 0, none⟩ (.slice (some ⟨G, 0, none⟩) 168 168) x9).nat 0 (by rw [sqB_length]; omega)
  rw [chunk_get k L _ 0 (by omega), Nat.add_zero, show 168 * m = i by omega] at hby
  have hs2 : (sqS (rateK k) (sqS (rateK k) (P0 k L) (168 * m)) 168) = sqS (rateK k) (P0 k L) (168 * (m + 1)) := by rw [← sqS_add]; congr 1
  rw [hs2] at sp
  have HF := Lib.hid (show Src own k L most g5 g9 g7 gS ((w2.setCell ⟨g9, 0, none⟩ (.slice (some ⟨G, 0, none⟩) 168 168)).setCell ⟨g9, 0, none⟩ (.slice (some ⟨G, 1, none⟩) 167 167)) (i + 1) from by
    refine ⟨⟨by omega, h1'⟩, ?_, bk e7 (Ne.symm q4), ?_, h5, m + 1, (sqS (rateK k) (P0 k L) (168 * (m + 1))).2, true, (sqS (rateK k) (P0 k L) (168 * (m + 1))).1, some ⟨G, 1, none⟩, 167, ⟨sp.1, sp.2.1, sp.2.2.1, sp.2.2.2.1, bk sp.2.2.2.2 (Ne.symm q5)⟩, rfl, by omega, by omega, ?_, ?_⟩
    · rw [show most - (i + 1) = r - 1 by omega, ← Z1.out]; exact bk e5 q1
    · exact (t2.keep (KeepS.cell (S := fun j => j = g9) w2 g9 0 (.slice (some ⟨G, 0, none⟩) 168 168) rfl) (by omega)).keep (KeepS.cell (S := fun j => j = g9) (w2.setCell ⟨g9, 0, none⟩ (.slice (some ⟨G, 0, none⟩) 168 168)) g9 0 (.slice (some ⟨G, 1, none⟩) 167 167) rfl) (by omega)
    · rw [show 168 * (m + 1) - (i + 1) = 167 by omega]; exact d9
    · right
      exact ⟨G, 1, rfl, by omega, by omega, by rw [show m + 1 - 1 = m by omega]; exact bk bG x9, x5, x9, x7, xS, xo⟩)
  have HK := Lib.hid k4
  obtain ⟨y, hy⟩ : ∃ y, stY k L i = y := ⟨_, rfl⟩
  rw [hy] at hby
  have HY := Lib.hid hy
  clear hy
  clear K LT HH HR k1 k2 k3 k4 b5 b9 b7 t1 t2 s1 e5 e9 e7 bk d9 bG sp hgr hs2 h5 s3 s4 hr hi h1 h1' sz1 sz2 l5 l9 l7 lS
  go_wp2_with fail
  go_ret2
  exact ⟨by rw [HY.out]; rfl, HF.out, HK.out⟩
theorem next_any (own : Nat → Prop) (OW : Nat) (hown : ∀ g, own g → g < OW) (k : Nat) (L : List Nat) (most g5 g9 g7 gS i : Nat) (w : World) (h : Src own k L most g5 g9 g7 gS w i) (hi : i < most) (hOW : OW ≤ w.heap.size) :
    Calls Tryd.prog 29 #[.pointer (some ⟨g5, 0, none⟩), .pointer (some ⟨g9, 0, none⟩), .pointer (some ⟨g7, 0, none⟩)] w (NextIs own k L most g5 g9 g7 gS i w) := by
  have h' := h
  obtain ⟨_, _, _, _, _, m, a, gv, s, A, c, _, _, s3, s4, s5, _⟩ := h'
  by_cases e : 168 * m = i
  · exact next_read own OW hown k L most g5 g9 g7 gS i w h hi m A c s5 e hOW
  · refine next_some own k L most g5 g9 g7 gS i w h hi ?_
    intro m2 A2 c2 hb2 e2
    have h1 := s5.cell 0
    have h2 := hb2.cell 0
    rw [h1] at h2
    have h3 := Option.some.inj h2
    injection h3 with _ h4 _
    omega
end Go.Proofs.YtlbfnmmankoddaaDoor
