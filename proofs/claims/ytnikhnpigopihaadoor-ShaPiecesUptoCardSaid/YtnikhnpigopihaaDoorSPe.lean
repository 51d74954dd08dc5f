/- ShaPieces' walk. Condition: the tables; all pieces together at most 1048576 bytes. -/
import Derived.Test.YtnikhnpigopihaaDoorSPd
import Derived.Test.YtnikhnpigopihaaDoorAwake
import Derived.Test.YtnikhnpigopihaaDoorSame
import Derived.Deep.CutRange
namespace Go.Proofs.YtnikhnpigopihaaDoor
open Go.RowKit
set_option linter.unusedVariables false
set_option linter.unusedSimpArgs false
/-- one piece: where it lies, its length, its capacity, its bytes -/
structure Piece where
  a : Option Addr
  n : Nat
  c : Nat
  l : List Nat
/-- the pieces that came in -/
def PsIn (w : World) (P : Option Addr) (np : Nat) (ps : List Piece) : Prop :=
  ps.length = np ∧ (∀ x ∈ ps, BIn w x.a x.n x.c x.l) ∧ (np = 0 ∨ ∃ b off, P = some ⟨b, off, none⟩ ∧ ∀ i x, ps[i]? = some x → w.cell? ⟨b, off + i, none⟩ = some (.slice x.a x.n x.c))
/-- the bytes of the first pieces -/
def flatP (ps : List Piece) (i : Nat) : List Nat := ((ps.take i).map Piece.l).flatten
theorem flatP_succ (ps : List Piece) (i : Nat) (x : Piece) (h : ps[i]? = some x) : flatP ps (i + 1) = flatP ps i ++ x.l := by
  unfold flatP
  rw [List.take_add_one, h]
  simp
theorem flatP_lt {ps : List Piece} (h : ∀ x ∈ ps, ∀ y ∈ x.l, y < 256) (i : Nat) : ∀ y ∈ flatP ps i, y < 256 := by
  intro y hy
  unfold flatP at hy
  obtain ⟨m, hm, hy⟩ := List.mem_flatten.1 hy
  obtain ⟨x, hx, rfl⟩ := List.mem_map.1 hm
  exact h x (List.mem_of_mem_take hx) y hy
theorem flatP_len (ps : List Piece) (i : Nat) : (flatP ps i).length ≤ (flatP ps ps.length).length := by
  unfold flatP
  rw [List.take_length]
  conv => rhs; rw [← List.take_append_drop i ps]
  rw [List.map_append, List.flatten_append, List.length_append]
  exact Nat.le_add_right _ _
/-- a hash is put down and taken up again -/
def ReIs (k : Nat) (L : List Nat) (w : World) (e : Ending) (w' : World) : Prop := ∃ g, e = .returned (.tuple #[.pointer (some ⟨g, 0, none⟩), .int .i64 0]) ∧ w.heap.size ≤ g ∧ HX w' g k L ∧ Below w.heap.size w w'
/-- the bytes that a hash is told as -/
def StIs (k : Nat) (L : List Nat) (w : World) (e : Ending) (w' : World) : Prop := ∃ G c, e = .returned (.slice (some ⟨G, 0, none⟩) (stateN k L.length (goes (wW k) (firstN k) L).1 (goes (wW k) (firstN k) L).2).length c) ∧
  BIn w' (some ⟨G, 0, none⟩) (stateN k L.length (goes (wW k) (firstN k) L).1 (goes (wW k) (firstN k) L).2).length c (stateN k L.length (goes (wW k) (firstN k) L).1 (goes (wW k) (firstN k) L).2) ∧ Below w.heap.size w w'
theorem own_some {w : World} {base n : Nat} {v : Value} {xs : List Value} (h : w.ownsRow base 5 1 v n xs) (hn : 0 < n) : ∃ G cap, v = .slice (some ⟨G, 0, none⟩) n cap := by
  rcases h.2 with ⟨rfl, h2⟩ | ⟨G, cap, cur, rfl, _⟩
  · have := h.1; subst h2; simp at this; omega
  · exact ⟨G, cap, rfl⟩
theorem st_any (g k : Nat) (L : List Nat) (w : World) (h : HX w g k L) : Calls Tryd.prog 26 #[.pointer (some ⟨g, 0, none⟩)] w (StIs k L w) :=
  (state_any g k L.length _ _ w h.2).mono fun e w' ⟨v, h1, h2, h3⟩ => by
    have hk := h.2.1
    have hS := h.2.2.2.1
    have hT := h.2.2.2.2.2.1
    have hlen := state_len (k := k) (n := L.length) (T := (goes (wW k) (firstN k) L).2) hS
    have hTl := goes_bytes (wW_pos k) L.length (firstN k) L rfl h.1
    have hlt := state_lt (n := L.length) (S := (goes (wW k) (firstN k) L).1) hk hTl
    obtain ⟨G, cap, rfl⟩ := own_some h2 (by rw [hlen]; omega)
    obtain ⟨a, c, he, hin, _⟩ := own_in h2 hlt (by
      rw [hlen, hT]
      have h1 : L.length % (2 * wW k) < 2 * wW k := Nat.mod_lt _ (by have := wW_pos k; omega)
      have h2 : wW k ≤ 64 ∧ wB k ≤ 8 := by unfold wW wB; split <;> omega
      omega)
    simp only [Value.slice.injEq] at he
    obtain ⟨rfl, _, rfl⟩ := he
    exact ⟨G, _, h1, hin, h3⟩
theorem re_any (G c k : Nat) (L : List Nat) (hL : ∀ x ∈ L, x < 256) (hk : IsKind k) (hn : L.length ≤ 2305843009213693951) (w : World)
    (hs : (goes (wW k) (firstN k) L).1.length = 8 ∧ ∀ x ∈ (goes (wW k) (firstN k) L).1, x < 2 ^ wW k) (ht : (goes (wW k) (firstN k) L).2.length = L.length % (2 * wW k))
    (hb : BIn w (some ⟨G, 0, none⟩) (stateN k L.length (goes (wW k) (firstN k) L).1 (goes (wW k) (firstN k) L).2).length c (stateN k L.length (goes (wW k) (firstN k) L).1 (goes (wW k) (firstN k) L).2)) (hw2 : 2 ≤ w.heap.size) :
    Calls Tryd.prog 24 #[.slice (some ⟨G, 0, none⟩) (stateN k L.length (goes (wW k) (firstN k) L).1 (goes (wW k) (firstN k) L).2).length c] w (ReIs k L w) := by
  have h := open_ok G 0 _ c _ k L.length w hb hk rfl (state_be (by omega)) hn (by rw [state_len hs.1, ht]) hw2
  rw [words_state hs.1 hs.2, rest_state hs.1] at h
  exact h.mono fun e w' ⟨g, h1, h2, h3, h4⟩ => ⟨g, h1, h2, ⟨hL, h3⟩, h4⟩
theorem sum_HX (g k : Nat) (L : List Nat) (w : World) (h : HX w g k L) (htab : Tabs w) : Calls Tryd.prog 29 #[.pointer (some ⟨g, 0, none⟩)] w (AppIs w.heap.size (msgD k L) w) := by
  have hn : L.length % 2 ^ 64 = L.length := Nat.mod_eq_of_lt h.2.2.1
  have := sum_any g k L.length _ _ w h.2 htab
  unfold msgD
  rw [hn]; exact this
end Go.Proofs.YtnikhnpigopihaaDoor
