/- For KecPlays: both sponges side by side; the law's 'read' (func 39). Condition: the table of constants. -/
import Derived.Test.YtidnlaibfkjgpaaDoorKCt
import Derived.Test.YtidnlaibfkjgpaaDoorOwn
namespace Go.Proofs.YtidnlaibfkjgpaaDoor
open Go.RowKit
set_option linter.unusedVariables false
set_option linter.unusedSimpArgs false
def s0K (k : Nat) (L : List Nat) : List Nat := endN k (absL (rateK k) (zeros 25, 0) L)
/-- how many bytes were given out -/
def NK : Option Nat → Nat
  | none => 0
  | some b => b
/-- both sponges: nothing given out yet (none), or so many bytes (some b) -/
def KT (w : World) (B ga gb k : Nat) (ph : Option Nat) (L : List Nat) (v : Value) : Prop :=
  IsKind k ∧ (∀ x ∈ L, x < 256) ∧ w.ownsRow B 5 1 v L.length (bytesV L) ∧ (sizeK k = -1 ∨ ((NK ph : Nat) : Int) ≤ sizeK k) ∧ match ph with
  | none => SpAt w ga k (absL (rateK k) (zeros 25, 0) L).2 false (sizeK k) (absL (rateK k) (zeros 25, 0) L).1 ∧ Blk w gb 72 (rsV (.int .i64 (k : Nat)) v (.bool false) (.int .i64 0) (zeros 25) (.int .i64 0))
  | some b => SpAt w ga k (sqS (rateK k) (s0K k L, 0) b).2 true (leftN (sizeK k) b) (sqS (rateK k) (s0K k L, 0) b).1 ∧ Blk w gb 72 (rsG (.int .i64 (k : Nat)) v k (s0K k L) b)
def TwK (w : World) (gt ga gb : Nat) : Prop := Blk w gt 44 [.pointer (some ⟨ga, 0, none⟩), .pointer (some ⟨gb, 0, none⟩)]
theorem leftN_zero {k : Nat} (hk : IsKind k) : leftN (sizeK k) 0 = sizeK k := by
  unfold leftN; split
  · rename_i h; exact h.symm
  · simp
theorem KT.sp {w : World} {B ga gb k : Nat} {ph : Option Nat} {L : List Nat} {v : Value} (h : KT w B ga gb k ph L v) : ∃ a s, SpAt w ga k a ph.isSome (leftN (sizeK k) (NK ph)) s := by
  obtain ⟨hk, _, _, _, h⟩ := h
  cases ph with
  | none => exact ⟨_, _, by have := h.1; rw [show leftN (sizeK k) (NK none) = sizeK k from leftN_zero hk]; exact this⟩
  | some b => exact ⟨_, _, h.1⟩
theorem KT.doc {w : World} {B ga gb k : Nat} {ph : Option Nat} {L : List Nat} {v : Value} (h : KT w B ga gb k ph L v) : (∃ cs, Blk w gb 72 cs) ∧ w.cell? ⟨gb, 0, none⟩ = some (.int .i64 (k : Nat)) ∧ w.cell? ⟨gb, 1, none⟩ = some v ∧ w.cell? ⟨gb, 2, none⟩ = some (.bool ph.isSome) ∧ w.cell? ⟨gb, 3, none⟩ = some (.int .i64 (NK ph : Nat)) := by
  obtain ⟨hk, _, _, _, h⟩ := h
  cases ph with
  | none => exact ⟨⟨_, h.2⟩, rs_kind h.2, rs_in h.2, rs_out h.2, rs_n h.2⟩
  | some b => exact ⟨⟨_, h.2⟩, rs_kind h.2, rs_in h.2, rs_out h.2, rs_n h.2⟩
theorem KT.fr {w w' : World} {B ga gb k : Nat} {ph : Option Nat} {L : List Nat} {v : Value} {F : Nat → Prop} (h : KT w B ga gb k ph L v) (hf : Fr w w' F) (h1 : ¬ F ga) (h2 : ¬ F gb) (h3 : ∀ j, v.ownBlock = some j → ¬ F j) : KT w' B ga gb k ph L v := by
  obtain ⟨q1, q2, q3, q4, h⟩ := h
  refine ⟨q1, q2, own_fr q3 hf h3, q4, ?_⟩
  cases ph with
  | none => exact ⟨sp_fr h.1 hf h1, blk_fr h.2 hf h2⟩
  | some b => exact ⟨sp_fr h.1 hf h1, blk_fr h.2 hf h2⟩
theorem KT.apart {w : World} {B ga gb k : Nat} {ph : Option Nat} {L : List Nat} {v : Value} (h : KT w B ga gb k ph L v) : ga ≠ gb ∧ v.ownBlock ≠ some ga ∧ v.ownBlock ≠ some gb ∧ ga < w.heap.size ∧ gb < w.heap.size ∧ 1 ≤ ga := by
  obtain ⟨a, s, hs⟩ := h.sp
  obtain ⟨⟨cs, hd⟩, _⟩ := h.doc
  have h3 := h.2.2.1
  exact ⟨blk_ne hs.2.2.2.2 hd (by decide), (own_ne_t h3 hs.2.2.2.2 (by decide)).symm, (own_ne_t h3 hd (by decide)).symm, hs.2.2.2.2.lt, hd.lt, hs.2.2.2.1⟩
theorem leftN_add (z : Int) (b n : Nat) (hb : z = -1 ∨ (b : Int) ≤ z) : leftN (leftN z b) n = leftN z (b + n) := by
  unfold leftN
  by_cases hz : z = -1
  · simp [hz]
  · have h1 : ¬ z - (b : Int) = -1 := by rcases hb with h | h <;> omega
    rw [if_neg hz, if_neg h1, if_neg hz]
    push_cast; omega
theorem s0K_good {k : Nat} (hk : IsKind k) (L : List Nat) : Good (s0K k L) := by
  have hr := rateK_le hk
  exact endN_good (k := k) (absL_good (r := rateK k) (by omega) L (zeros 25, 0) good_nought (by show 0 < rateK k; omega)).1
/-- the project's Read, whether it is the first or not -/
def RdA (ga k n b0 : Nat) (s0 : List Nat) (w : World) (e : Ending) (w' : World) : Prop := ∃ G, e = .returned (.tuple #[.slice (some ⟨G, 0, none⟩) n n, .int .i64 0]) ∧ w.heap.size ≤ G ∧ Blk w' G 5 (natsV .u8 (partK k s0 b0 n)) ∧ SpAt w' ga k (sqS (rateK k) (s0, 0) (b0 + n)).2 true (leftN (sizeK k) (b0 + n)) (sqS (rateK k) (s0, 0) (b0 + n)).1 ∧ w.grownBy w' (some ga)
theorem rd_a {w : World} {B ga gb k : Nat} {ph : Option Nat} {L : List Nat} {v : Value} (h : KT w B ga gb k ph L v) (n : Nat) (hn : n ≤ 65536) (hl : leftN (sizeK k) (NK ph) = -1 ∨ (n : Int) ≤ leftN (sizeK k) (NK ph)) (htab : Tabs w) :
    Calls Tryd.prog 24 #[.pointer (some ⟨ga, 0, none⟩), .int .i64 (n : Nat)] w (RdA ga k n (NK ph) (s0K k L) w) := by
  obtain ⟨hk, _, _, hb, h⟩ := h
  have hs := sizeK_cases hk
  have hl64 : leftN (sizeK k) (NK ph) = -1 ∨ ((n : Int) ≤ leftN (sizeK k) (NK ph) ∧ leftN (sizeK k) (NK ph) ≤ 64) := by
    rcases hl with q | q
    · exact .inl q
    · refine .inr ⟨q, ?_⟩
      unfold leftN; split <;> omega
  cases ph with
  | none =>
    have h0 : leftN (sizeK k) (NK none) = sizeK k := leftN_zero hk
    rw [h0] at hl64
    refine (readSp_any ga k _ n false (sizeK k) _ w h.1 hn hl64 htab (s0K k L, 0) rfl).mono fun e w' hr => ?_
    obtain ⟨G, e1, e2, e3, e4, e5⟩ := hr
    refine ⟨G, e1, e2, ?_, ?_, e5⟩
    · rw [← sqB_part k hk]; exact e3
    · rw [show NK none + n = 0 + n from rfl, Nat.zero_add]; exact e4
  | some b =>
    refine (readSp_any ga k _ n true _ _ w h.1 hn hl64 htab (sqS (rateK k) (s0K k L, 0) b) rfl).mono fun e w' hr => ?_
    obtain ⟨G, e1, e2, e3, e4, e5⟩ := hr
    refine ⟨G, e1, e2, ?_, ?_, e5⟩
    · rw [← sqB_part k hk]; exact e3
    · rw [show NK (some b) + n = b + n from rfl, sqS_add, ← leftN_add _ b n hb]; exact e4
/-- the document's Read, whether it is the first or not -/
theorem rd_b {w : World} {B ga gb k : Nat} {ph : Option Nat} {L : List Nat} {v : Value} (h : KT w B ga gb k ph L v) (w3 : World) (hw : Fr w w3 (fun j => j = ga)) (n : Nat) (hn : n ≤ 65536) (hL : L.length ≤ 10000000) (hph : NK ph ≤ 10000000) :
    Calls Tryd.prog 37 #[.pointer (some ⟨gb, 0, none⟩), .int .i64 (n : Nat)] w3 (MoreIs gb n (partK k (s0K k L) (NK ph) n) (rsG (.int .i64 (k : Nat)) v k (s0K k L) (NK ph + n)) w3) := by
  obtain ⟨p1, p2, p3, p4, p5, p6⟩ := h.apart
  obtain ⟨hk, hL2, ho, hb, h⟩ := h
  have ho3 := own_fr ho hw (fun j hj e => p2 (e ▸ hj))
  cases ph with
  | none =>
    have hblk := blk_fr h.2 hw (fun e => p1 e.symm)
    obtain ⟨a, c, rfl, hin, _⟩ := own_in ho3 hL2 (by omega)
    have := read_first gb k n a L.length c L w3 hk hin (by omega) hn hblk
    rw [allK_part k hk] at this
    rw [show NK none + n = n from Nat.zero_add n]
    exact this
  | some b => exact read_more gb k n b v (s0K k L) w3 hk (s0K_good hk L) (by have : NK (some b) = b := rfl; omega) (blk_fr h.2 hw (fun e => p1 e.symm))
end Go.Proofs.YtidnlaibfkjgpaaDoor
