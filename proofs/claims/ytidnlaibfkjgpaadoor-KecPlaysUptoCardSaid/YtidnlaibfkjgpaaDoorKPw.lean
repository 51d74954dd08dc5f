/- What came in: a list of lists of bytes, a list of numbers. No condition. -/
import Derived.Test.YtidnlaibfkjgpaaDoorKMeth
import Derived.Test.YtidnlaibfkjgpaaDoorKPc
import Derived.Test.YtidnlaibfkjgpaaDoorKShake
import Derived.Test.YtidnlaibfkjgpaaDoorSame
namespace Go.Proofs.YtidnlaibfkjgpaaDoor
open Go.RowKit
set_option linter.unusedVariables false
theorem bin_grownR {w w' : World} {a : Option Addr} {n c : Nat} {l : List Nat} {r : Option Nat} (h : BIn w a n c l) (hg : w.grownBy w' r) (ha : ∀ b, a = some b → 0 < n → some b.block ≠ r) : BIn w' a n c l := by
  obtain ⟨⟨h1, h2, h3, h4⟩, h5⟩ := h
  refine ⟨⟨h1, h2, h3, ?_⟩, h5⟩
  rcases h4 with h4 | ⟨b, off, rfl, hc⟩
  · exact .inl h4
  · exact .inr ⟨b, off, rfl, fun i hi => hg.cell (hc i hi) (fun e => ha _ rfl (by omega) e)⟩
/-- one piece: where it lies, its length, its capacity, its bytes -/
structure Piece where
  a : Option Addr
  n : Nat
  c : Nat
  l : List Nat
/-- the pieces that came in -/
def PsIn (w : World) (P : Option Addr) (np : Nat) (ps : List Piece) : Prop :=
  ps.length = np ∧ (∀ x ∈ ps, BIn w x.a x.n x.c x.l) ∧ (np = 0 ∨ ∃ b off, P = some ⟨b, off, none⟩ ∧ ∀ i x, ps[i]? = some x → w.cell? ⟨b, off + i, none⟩ = some (.slice x.a x.n x.c))
/-- the numbers that came in -/
def ZsIn (w : World) (P : Option Addr) (no : Nat) (zs : List Int) : Prop :=
  zs.length = no ∧ (∀ z ∈ zs, -9223372036854775808 ≤ z ∧ z ≤ 9223372036854775807) ∧ (no = 0 ∨ ∃ b off, P = some ⟨b, off, none⟩ ∧ ∀ i z, zs[i]? = some z → w.cell? ⟨b, off + i, none⟩ = some (.int .i64 z))
theorem PsIn.below {w w' : World} {P : Option Addr} {np : Nat} {ps : List Piece} (h : PsIn w P np ps) (hb : Below w.heap.size w w') : PsIn w' P np ps := by
  refine ⟨h.1, fun x hx => (h.2.1 x hx).below hb, ?_⟩
  rcases h.2.2 with h0 | ⟨b, off, rfl, hc⟩
  · exact .inl h0
  · exact .inr ⟨b, off, rfl, fun i x hx => (hb.cell (World.block_lt_of_cell? w _ (hc i x hx))).trans (hc i x hx)⟩
theorem ZsIn.below {w w' : World} {P : Option Addr} {no : Nat} {zs : List Int} (h : ZsIn w P no zs) (hb : Below w.heap.size w w') : ZsIn w' P no zs := by
  refine ⟨h.1, h.2.1, ?_⟩
  rcases h.2.2 with h0 | ⟨b, off, rfl, hc⟩
  · exact .inl h0
  · exact .inr ⟨b, off, rfl, fun i x hx => (hb.cell (World.block_lt_of_cell? w _ (hc i x hx))).trans (hc i x hx)⟩
/-- the bytes of the first pieces -/
def flatP (ps : List Piece) (i : Nat) : List Nat := ((ps.take i).map Piece.l).flatten
theorem flatP_succ (ps : List Piece) (i : Nat) (x : Piece) (h : ps[i]? = some x) : flatP ps (i + 1) = flatP ps i ++ x.l := by
  unfold flatP
  rw [List.take_add_one, h]
  simp
theorem flatP_lt {ps : List Piece} (h : ∀ x ∈ ps, ∀ y ∈ x.l, y < 256) (i : Nat) : ∀ y ∈ flatP ps i, y < 256 := by
  intro y hy
  unfold flatP at hy
  obtain ⟨m, hm, hy⟩ := List.mem_flatten.1 hy
  obtain ⟨x, hx, rfl⟩ := List.mem_map.1 hm
  exact h x (List.mem_of_mem_take hx) y hy
theorem flatP_len (ps : List Piece) (i : Nat) : (flatP ps i).length ≤ (flatP ps ps.length).length := by
  unfold flatP
  rw [List.take_length]
  conv => rhs; rw [← List.take_append_drop i ps]
  rw [List.map_append, List.flatten_append, List.length_append]
  exact Nat.le_add_right _ _
end Go.Proofs.YtidnlaibfkjgpaaDoor
