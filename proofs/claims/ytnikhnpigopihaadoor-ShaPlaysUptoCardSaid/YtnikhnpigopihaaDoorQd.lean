/- The digest at once, by the number of bits. Condition: the tables. -/
/- ShaPieces' walk. Condition: the tables; all pieces together at most 1048576 bytes. -/
/- What a list of lists of bytes and a list of numbers that came in give: where they lie, and that they are no larger than their bulk. No condition. -/
/- For ShaPlays: a script that came in: where it lies, and that it is no larger than its bulk. No condition. -/
import Derived.Test.YtnikhnpigopihaaDoorSPm
import Derived.Test.YtnikhnpigopihaaDoorAwake
import Derived.Test.YtnikhnpigopihaaDoorSame
import Derived.Deep.CutRange
import Derived.Test.YtnikhnpigopihaaDoorFrame
import Derived.Deep.Slices
import Derived.Test.YtnikhnpigopihaaDoorQc
import Derived.Deep.Strs
namespace Go.Proofs.YtnikhnpigopihaaDoor
open Go.RowKit
set_option linter.unusedVariables false
set_option linter.unusedSimpArgs false
/-- what 'digest' answers -/
def DigIs (k : Nat) (l : List Nat) (w : World) (e : Ending) (w' : World) : Prop := ∃ G t, e = .returned (.slice (some ⟨G, 0, none⟩) (dgB k) (dgB k)) ∧ w.heap.size ≤ G ∧ Blk w' G t (natsV .u8 (msgD k l)) ∧ Below w.heap.size w w'
theorem new_row (w : World) (t : TypeId) (z cs : List Value) : (w.alloc (.cells z.toArray t)).setRow w.heap.size cs.toArray = w.alloc (.cells cs.toArray t) := World.setRow_alloc_new _ _ _ _
set_option maxRecDepth 100000 in
set_option maxHeartbeats 1600000 in
theorem digest_1 (a : Option Addr) (m c : Nat) (l : List Nat) (w : World) (hb : BIn w a m c l) (htab : Tabs w) :
    Calls Tryd.prog 31 #[.int .i64 256, .slice a m c] w (DigIs 1 l w) := by
  have H1 := Lib.hid (Sum256_any a m c l w hb htab)
  have H2 := Lib.hid (fun (w' : World) (h : Below w.heap.size w w') => Sum384_any a m c l w' (hb.below h) (htab.below h))
  have H3 := Lib.hid (fun (w' : World) (h : Below w.heap.size w w') => Sum512_any a m c l w' (hb.below h) (htab.below h))
  have L1 := Lib.hid (show (msgD 1 l).length = 32 from msgD_length 1 l)
  have L2 := Lib.hid (show (msgD 2 l).length = 48 from msgD_length 2 l)
  have L3 := Lib.hid (show (msgD 3 l).length = 64 from msgD_length 3 l)
  unfold DigIs
  clear hb htab
  generalize msgD 1 l = D1 at *
  generalize msgD 2 l = D2 at *
  generalize msgD 3 l = D3 at *
  go_enter Tryd.func31, Tryd.ntmps31
  go_wp2_with fail
  refine H1.out.mono ?_
  rintro e w1 ⟨rfl, hb1⟩
  have HB1 := Lib.hid hb1
  go_wp2_with (refine wpList_store_row rfl 25 (.tmp 5) (.tmp 9) rfl w1.heap.size (natsV .u8 D1).toArray rfl rfl 25 (natsV .u8 (zeros 32)).toArray (Blk.new w1 25 (natsV .u8 (zeros 32))) (by rw [info25s, size_nats, L1.out]) (by rw [size_nats, size_nats, L1.out]; rfl) (all_nats _ _) ?_)
  rw [World.setRow_alloc_new]
  obtain ⟨W1, hW1⟩ : ∃ W1 : World, w1.alloc (.cells (natsV .u8 D1).toArray 25) = W1 := ⟨_, rfl⟩
  have B1 := Lib.hid (show Blk W1 w1.heap.size 25 (natsV .u8 D1) by rw [← hW1]; exact Blk.new w1 25 _)
  have HC1 := Lib.hid (show Below w.heap.size w W1 by rw [← hW1]; exact HB1.out.alloc HB1.out.size _)
  have G1 := Lib.hid HB1.out.size
  rw [hW1]
  clear hW1 hb1 HB1
  generalize w1.heap.size = g1 at *
  refine (H2.out W1 HC1.out).mono ?_
  rintro e w2 ⟨rfl, hb2⟩
  have B1' := Lib.hid (B1.out.below' hb2)
  have HB2 := Lib.hid (HC1.out.trans (hb2.mono HC1.out.size))
  clear hb2 HC1 B1
  go_wp2_with (refine wpList_store_row rfl 27 (.tmp 6) (.tmp 11) rfl w2.heap.size (natsV .u8 D2).toArray rfl rfl 27 (natsV .u8 (zeros 48)).toArray (Blk.new w2 27 (natsV .u8 (zeros 48))) (by rw [info27s, size_nats, L2.out]) (by rw [size_nats, size_nats, L2.out]; rfl) (all_nats _ _) ?_)
  rw [World.setRow_alloc_new]
  obtain ⟨W2, hW2⟩ : ∃ W2 : World, w2.alloc (.cells (natsV .u8 D2).toArray 27) = W2 := ⟨_, rfl⟩
  have B2 := Lib.hid (show Blk W2 w2.heap.size 27 (natsV .u8 D2) by rw [← hW2]; exact Blk.new w2 27 _)
  have C1 := Lib.hid (show Blk W2 g1 25 (natsV .u8 D1) by rw [← hW2]; exact B1'.out.alloc _)
  have HC2 := Lib.hid (show Below w.heap.size w W2 by rw [← hW2]; exact HB2.out.alloc HB2.out.size _)
  have G2 := Lib.hid HB2.out.size
  rw [hW2]
  clear hW2 HB2 B1'
  generalize w2.heap.size = g2 at *
  refine (H3.out W2 HC2.out).mono ?_
  rintro e w3 ⟨rfl, hb3⟩
  have C1' := Lib.hid (C1.out.below' hb3)
  have B2' := Lib.hid (B2.out.below' hb3)
  have HB3 := Lib.hid (HC2.out.trans (hb3.mono HC2.out.size))
  clear hb3 HC2 C1 B2
  go_wp2_with (refine wpList_store_row rfl 29 (.tmp 7) (.tmp 13) rfl w3.heap.size (natsV .u8 D3).toArray rfl rfl 29 (natsV .u8 (zeros 64)).toArray (Blk.new w3 29 (natsV .u8 (zeros 64))) (by rw [info29s, size_nats, L3.out]) (by rw [size_nats, size_nats, L3.out]; rfl) (all_nats _ _) ?_)
  rw [World.setRow_alloc_new]
  go_ret
  exact ⟨g1, 25, rfl, G1.out, C1'.out.alloc _, HB3.out.alloc HB3.out.size _⟩
set_option maxRecDepth 100000 in
set_option maxHeartbeats 1600000 in
theorem digest_2 (a : Option Addr) (m c : Nat) (l : List Nat) (w : World) (hb : BIn w a m c l) (htab : Tabs w) :
    Calls Tryd.prog 31 #[.int .i64 384, .slice a m c] w (DigIs 2 l w) := by
  have H1 := Lib.hid (Sum256_any a m c l w hb htab)
  have H2 := Lib.hid (fun (w' : World) (h : Below w.heap.size w w') => Sum384_any a m c l w' (hb.below h) (htab.below h))
  have H3 := Lib.hid (fun (w' : World) (h : Below w.heap.size w w') => Sum512_any a m c l w' (hb.below h) (htab.below h))
  have L1 := Lib.hid (show (msgD 1 l).length = 32 from msgD_length 1 l)
  have L2 := Lib.hid (show (msgD 2 l).length = 48 from msgD_length 2 l)
  have L3 := Lib.hid (show (msgD 3 l).length = 64 from msgD_length 3 l)
  unfold DigIs
  clear hb htab
  generalize msgD 1 l = D1 at *
  generalize msgD 2 l = D2 at *
  generalize msgD 3 l = D3 at *
  go_enter Tryd.func31, Tryd.ntmps31
  go_wp2_with fail
  refine H1.out.mono ?_
  rintro e w1 ⟨rfl, hb1⟩
  have HB1 := Lib.hid hb1
  go_wp2_with (refine wpList_store_row rfl 25 (.tmp 5) (.tmp 9) rfl w1.heap.size (natsV .u8 D1).toArray rfl rfl 25 (natsV .u8 (zeros 32)).toArray (Blk.new w1 25 (natsV .u8 (zeros 32))) (by rw [info25s, size_nats, L1.out]) (by rw [size_nats, size_nats, L1.out]; rfl) (all_nats _ _) ?_)
  rw [World.setRow_alloc_new]
  obtain ⟨W1, hW1⟩ : ∃ W1 : World, w1.alloc (.cells (natsV .u8 D1).toArray 25) = W1 := ⟨_, rfl⟩
  have B1 := Lib.hid (show Blk W1 w1.heap.size 25 (natsV .u8 D1) by rw [← hW1]; exact Blk.new w1 25 _)
  have HC1 := Lib.hid (show Below w.heap.size w W1 by rw [← hW1]; exact HB1.out.alloc HB1.out.size _)
  have G1 := Lib.hid HB1.out.size
  rw [hW1]
  clear hW1 hb1 HB1
  generalize w1.heap.size = g1 at *
  refine (H2.out W1 HC1.out).mono ?_
  rintro e w2 ⟨rfl, hb2⟩
  have B1' := Lib.hid (B1.out.below' hb2)
  have HB2 := Lib.hid (HC1.out.trans (hb2.mono HC1.out.size))
  clear hb2 HC1 B1
  go_wp2_with (refine wpList_store_row rfl 27 (.tmp 6) (.tmp 11) rfl w2.heap.size (natsV .u8 D2).toArray rfl rfl 27 (natsV .u8 (zeros 48)).toArray (Blk.new w2 27 (natsV .u8 (zeros 48))) (by rw [info27s, size_nats, L2.out]) (by rw [size_nats, size_nats, L2.out]; rfl) (all_nats _ _) ?_)
  rw [World.setRow_alloc_new]
  obtain ⟨W2, hW2⟩ : ∃ W2 : World, w2.alloc (.cells (natsV .u8 D2).toArray 27) = W2 := ⟨_, rfl⟩
  have B2 := Lib.hid (show Blk W2 w2.heap.size 27 (natsV .u8 D2) by rw [← hW2]; exact Blk.new w2 27 _)
  have C1 := Lib.hid (show Blk W2 g1 25 (natsV .u8 D1) by rw [← hW2]; exact B1'.out.alloc _)
  have HC2 := Lib.hid (show Below w.heap.size w W2 by rw [← hW2]; exact HB2.out.alloc HB2.out.size _)
  have G2 := Lib.hid HB2.out.size
  rw [hW2]
  clear hW2 HB2 B1'
  generalize w2.heap.size = g2 at *
  refine (H3.out W2 HC2.out).mono ?_
  rintro e w3 ⟨rfl, hb3⟩
  have C1' := Lib.hid (C1.out.below' hb3)
  have B2' := Lib.hid (B2.out.below' hb3)
  have HB3 := Lib.hid (HC2.out.trans (hb3.mono HC2.out.size))
  clear hb3 HC2 C1 B2
  go_wp2_with (refine wpList_store_row rfl 29 (.tmp 7) (.tmp 13) rfl w3.heap.size (natsV .u8 D3).toArray rfl rfl 29 (natsV .u8 (zeros 64)).toArray (Blk.new w3 29 (natsV .u8 (zeros 64))) (by rw [info29s, size_nats, L3.out]) (by rw [size_nats, size_nats, L3.out]; rfl) (all_nats _ _) ?_)
  rw [World.setRow_alloc_new]
  go_ret
  exact ⟨g2, 27, rfl, G2.out, B2'.out.alloc _, HB3.out.alloc HB3.out.size _⟩
set_option maxRecDepth 100000 in
set_option maxHeartbeats 1600000 in
theorem digest_3 (a : Option Addr) (m c : Nat) (l : List Nat) (w : World) (hb : BIn w a m c l) (htab : Tabs w) :
    Calls Tryd.prog 31 #[.int .i64 512, .slice a m c] w (DigIs 3 l w) := by
  have H1 := Lib.hid (Sum256_any a m c l w hb htab)
  have H2 := Lib.hid (fun (w' : World) (h : Below w.heap.size w w') => Sum384_any a m c l w' (hb.below h) (htab.below h))
  have H3 := Lib.hid (fun (w' : World) (h : Below w.heap.size w w') => Sum512_any a m c l w' (hb.below h) (htab.below h))
  have L1 := Lib.hid (show (msgD 1 l).length = 32 from msgD_length 1 l)
  have L2 := Lib.hid (show (msgD 2 l).length = 48 from msgD_length 2 l)
  have L3 := Lib.hid (show (msgD 3 l).length = 64 from msgD_length 3 l)
  unfold DigIs
  clear hb htab
  generalize msgD 1 l = D1 at *
  generalize msgD 2 l = D2 at *
  generalize msgD 3 l = D3 at *
  go_enter Tryd.func31, Tryd.ntmps31
  go_wp2_with fail
  refine H1.out.mono ?_
  rintro e w1 ⟨rfl, hb1⟩
  have HB1 := Lib.hid hb1
  go_wp2_with (refine wpList_store_row rfl 25 (.tmp 5) (.tmp 9) rfl w1.heap.size (natsV .u8 D1).toArray rfl rfl 25 (natsV .u8 (zeros 32)).toArray (Blk.new w1 25 (natsV .u8 (zeros 32))) (by rw [info25s, size_nats, L1.out]) (by rw [size_nats, size_nats, L1.out]; rfl) (all_nats _ _) ?_)
  rw [World.setRow_alloc_new]
  obtain ⟨W1, hW1⟩ : ∃ W1 : World, w1.alloc (.cells (natsV .u8 D1).toArray 25) = W1 := ⟨_, rfl⟩
  have B1 := Lib.hid (show Blk W1 w1.heap.size 25 (natsV .u8 D1) by rw [← hW1]; exact Blk.new w1 25 _)
  have HC1 := Lib.hid (show Below w.heap.size w W1 by rw [← hW1]; exact HB1.out.alloc HB1.out.size _)
  have G1 := Lib.hid HB1.out.size
  rw [hW1]
  clear hW1 hb1 HB1
  generalize w1.heap.size = g1 at *
  refine (H2.out W1 HC1.out).mono ?_
  rintro e w2 ⟨rfl, hb2⟩
  have B1' := Lib.hid (B1.out.below' hb2)
  have HB2 := Lib.hid (HC1.out.trans (hb2.mono HC1.out.size))
  clear hb2 HC1 B1
  go_wp2_with (refine wpList_store_row rfl 27 (.tmp 6) (.tmp 11) rfl w2.heap.size (natsV .u8 D2).toArray rfl rfl 27 (natsV .u8 (zeros 48)).toArray (Blk.new w2 27 (natsV .u8 (zeros 48))) (by rw [info27s, size_nats, L2.out]) (by rw [size_nats, size_nats, L2.out]; rfl) (all_nats _ _) ?_)
  rw [World.setRow_alloc_new]
  obtain ⟨W2, hW2⟩ : ∃ W2 : World, w2.alloc (.cells (natsV .u8 D2).toArray 27) = W2 := ⟨_, rfl⟩
  have B2 := Lib.hid (show Blk W2 w2.heap.size 27 (natsV .u8 D2) by rw [← hW2]; exact Blk.new w2 27 _)
  have C1 := Lib.hid (show Blk W2 g1 25 (natsV .u8 D1) by rw [← hW2]; exact B1'.out.alloc _)
  have HC2 := Lib.hid (show Below w.heap.size w W2 by rw [← hW2]; exact HB2.out.alloc HB2.out.size _)
  have G2 := Lib.hid HB2.out.size
  rw [hW2]
  clear hW2 HB2 B1'
  generalize w2.heap.size = g2 at *
  refine (H3.out W2 HC2.out).mono ?_
  rintro e w3 ⟨rfl, hb3⟩
  have C1' := Lib.hid (C1.out.below' hb3)
  have B2' := Lib.hid (B2.out.below' hb3)
  have HB3 := Lib.hid (HC2.out.trans (hb3.mono HC2.out.size))
  clear hb3 HC2 C1 B2
  go_wp2_with (refine wpList_store_row rfl 29 (.tmp 7) (.tmp 13) rfl w3.heap.size (natsV .u8 D3).toArray rfl rfl 29 (natsV .u8 (zeros 64)).toArray (Blk.new w3 29 (natsV .u8 (zeros 64))) (by rw [info29s, size_nats, L3.out]) (by rw [size_nats, size_nats, L3.out]; rfl) (all_nats _ _) ?_)
  rw [World.setRow_alloc_new]
  go_ret
  exact ⟨w3.heap.size, 29, rfl, HB3.out.size, Blk.new w3 29 _, HB3.out.alloc HB3.out.size _⟩
theorem digest_any (k : Nat) (hk : IsKind k) (a : Option Addr) (m c : Nat) (l : List Nat) (w : World) (hb : BIn w a m c l) (htab : Tabs w) :
    Calls Tryd.prog 31 #[.int .i64 (bitsK k), .slice a m c] w (DigIs k l w) := by
  rcases hk with rfl | rfl | rfl
  · exact digest_1 a m c l w hb htab
  · exact digest_2 a m c l w hb htab
  · exact digest_3 a m c l w hb htab
end Go.Proofs.YtnikhnpigopihaaDoor
namespace Go.Proofs.YtnikhnpigopihaaDoor
open Go.RowKit
set_option linter.unusedVariables false
set_option linter.unusedSimpArgs false
/-- one piece: where it lies, its length, its capacity, its bytes -/
structure Piece where
  a : Option Addr
  n : Nat
  c : Nat
  l : List Nat
/-- the pieces that came in -/
def PsIn (w : World) (P : Option Addr) (np : Nat) (ps : List Piece) : Prop :=
  ps.length = np ∧ (∀ x ∈ ps, BIn w x.a x.n x.c x.l) ∧ (np = 0 ∨ ∃ b off, P = some ⟨b, off, none⟩ ∧ ∀ i x, ps[i]? = some x → w.cell? ⟨b, off + i, none⟩ = some (.slice x.a x.n x.c))
/-- the bytes of the first pieces -/
def flatP (ps : List Piece) (i : Nat) : List Nat := ((ps.take i).map Piece.l).flatten
theorem flatP_succ (ps : List Piece) (i : Nat) (x : Piece) (h : ps[i]? = some x) : flatP ps (i + 1) = flatP ps i ++ x.l := by
  unfold flatP
  rw [List.take_add_one, h]
  simp
theorem flatP_lt {ps : List Piece} (h : ∀ x ∈ ps, ∀ y ∈ x.l, y < 256) (i : Nat) : ∀ y ∈ flatP ps i, y < 256 := by
  intro y hy
  unfold flatP at hy
  obtain ⟨m, hm, hy⟩ := List.mem_flatten.1 hy
  obtain ⟨x, hx, rfl⟩ := List.mem_map.1 hm
  exact h x (List.mem_of_mem_take hx) y hy
theorem flatP_len (ps : List Piece) (i : Nat) : (flatP ps i).length ≤ (flatP ps ps.length).length := by
  unfold flatP
  rw [List.take_length]
  conv => rhs; rw [← List.take_append_drop i ps]
  rw [List.map_append, List.flatten_append, List.length_append]
  exact Nat.le_add_right _ _
/-- a hash is put down and taken up again -/
def ReIs (k : Nat) (L : List Nat) (w : World) (e : Ending) (w' : World) : Prop := ∃ g, e = .returned (.tuple #[.pointer (some ⟨g, 0, none⟩), .int .i64 0]) ∧ w.heap.size ≤ g ∧ HX w' g k L ∧ Below w.heap.size w w'
/-- the bytes that a hash is told as -/
def StIs (k : Nat) (L : List Nat) (w : World) (e : Ending) (w' : World) : Prop := ∃ G c, e = .returned (.slice (some ⟨G, 0, none⟩) (stateN k L.length (goes (wW k) (firstN k) L).1 (goes (wW k) (firstN k) L).2).length c) ∧
  BIn w' (some ⟨G, 0, none⟩) (stateN k L.length (goes (wW k) (firstN k) L).1 (goes (wW k) (firstN k) L).2).length c (stateN k L.length (goes (wW k) (firstN k) L).1 (goes (wW k) (firstN k) L).2) ∧ Below w.heap.size w w'
theorem own_some {w : World} {base n : Nat} {v : Value} {xs : List Value} (h : w.ownsRow base 5 1 v n xs) (hn : 0 < n) : ∃ G cap, v = .slice (some ⟨G, 0, none⟩) n cap := by
  rcases h.2 with ⟨rfl, h2⟩ | ⟨G, cap, cur, rfl, _⟩
  · have := h.1; subst h2; simp at this; omega
  · exact ⟨G, cap, rfl⟩
theorem st_any (g k : Nat) (L : List Nat) (w : World) (h : HX w g k L) : Calls Tryd.prog 26 #[.pointer (some ⟨g, 0, none⟩)] w (StIs k L w) :=
  (state_any g k L.length _ _ w h.2).mono fun e w' ⟨v, h1, h2, h3⟩ => by
    have hk := h.2.1
    have hS := h.2.2.2.1
    have hT := h.2.2.2.2.2.1
    have hlen := state_len (k := k) (n := L.length) (T := (goes (wW k) (firstN k) L).2) hS
    have hTl := goes_bytes (wW_pos k) L.length (firstN k) L rfl h.1
    have hlt := state_lt (n := L.length) (S := (goes (wW k) (firstN k) L).1) hk hTl
    obtain ⟨G, cap, rfl⟩ := own_some h2 (by rw [hlen]; omega)
    obtain ⟨a, c, he, hin, _⟩ := own_in h2 hlt (by
      rw [hlen, hT]
      have h1 : L.length % (2 * wW k) < 2 * wW k := Nat.mod_lt _ (by have := wW_pos k; omega)
      have h2 : wW k ≤ 64 ∧ wB k ≤ 8 := by unfold wW wB; split <;> omega
      omega)
    simp only [Value.slice.injEq] at he
    obtain ⟨rfl, _, rfl⟩ := he
    exact ⟨G, _, h1, hin, h3⟩
theorem re_any (G c k : Nat) (L : List Nat) (hL : ∀ x ∈ L, x < 256) (hk : IsKind k) (hn : L.length ≤ 2305843009213693951) (w : World)
    (hs : (goes (wW k) (firstN k) L).1.length = 8 ∧ ∀ x ∈ (goes (wW k) (firstN k) L).1, x < 2 ^ wW k) (ht : (goes (wW k) (firstN k) L).2.length = L.length % (2 * wW k))
    (hb : BIn w (some ⟨G, 0, none⟩) (stateN k L.length (goes (wW k) (firstN k) L).1 (goes (wW k) (firstN k) L).2).length c (stateN k L.length (goes (wW k) (firstN k) L).1 (goes (wW k) (firstN k) L).2)) (hw2 : 2 ≤ w.heap.size) :
    Calls Tryd.prog 24 #[.slice (some ⟨G, 0, none⟩) (stateN k L.length (goes (wW k) (firstN k) L).1 (goes (wW k) (firstN k) L).2).length c] w (ReIs k L w) := by
  have h := open_ok G 0 _ c _ k L.length w hb hk rfl (state_be (by omega)) hn (by rw [state_len hs.1, ht]) hw2
  rw [words_state hs.1 hs.2, rest_state hs.1] at h
  exact h.mono fun e w' ⟨g, h1, h2, h3, h4⟩ => ⟨g, h1, h2, ⟨hL, h3⟩, h4⟩
theorem sum_HX (g k : Nat) (L : List Nat) (w : World) (h : HX w g k L) (htab : Tabs w) : Calls Tryd.prog 29 #[.pointer (some ⟨g, 0, none⟩)] w (AppIs w.heap.size (msgD k L) w) := by
  have hn : L.length % 2 ^ 64 = L.length := Nat.mod_eq_of_lt h.2.2.1
  have := sum_any g k L.length _ _ w h.2 htab
  unfold msgD
  rw [hn]; exact this
end Go.Proofs.YtnikhnpigopihaaDoor
namespace Go.Proofs.YtnikhnpigopihaaDoor
open Go.Deep Go.ChangeShapes Go.WideShapes Go.ChangeAt Go.RowKit
set_option linter.unusedVariables false
instance : Inhabited Piece := ⟨⟨none, 0, 0, []⟩⟩
theorem flat_bulk {H : Type} (D : Nat → DataW H) (G : Nat → Piece) (L : List Nat) (h : ∀ i ∈ L, (G i).l.length ≤ Rows.uptoBulk (D i)) :
    (((L.map G).map Piece.l).flatten).length ≤ Rows.uptoBulkAll (L.map D) := by
  induction L with
  | nil => simp
  | cons x r ih =>
    have h1 := h x List.mem_cons_self
    have h2 := ih (fun i hi => h i (List.mem_cons_of_mem _ hi))
    simp only [List.map_cons, List.flatten_cons, List.length_append, Rows.uptoBulkAll]
    omega
theorem bulk_mem {H : Type} {d : DataW H} {l : List (DataW H)} (h : d ∈ l) : Rows.uptoBulk d ≤ Rows.uptoBulkAll l := by
  induction l with
  | nil => cases h
  | cons x r ih =>
    simp only [Rows.uptoBulkAll]
    rcases List.mem_cons.1 h with e | e
    · subst e; omega
    · have := ih e; omega
theorem add_none (b off i : Nat) : (Addr.mk b off none).add i = Addr.mk b (off + i) none := by
  simp only [Addr.add]; split
  · rename_i h; subst h; rfl
  · rfl
theorem ps_in {H : Type} {enc : TypeId × Value → H} {W : World} {v : Value} {fuel : Nat} {x : DataW H × List MemPlace}
    (h : DataW.trod enc Tryd.prog W 0 (fun _ => true) true fuel 42 [v] = some x) (hr : Rows.uptoBulk x.1 ≤ 1048576) :
    ∃ P np cp ps, v = .slice P np cp ∧ PsIn W P np ps ∧ np ≤ 1048576 ∧ (flatP ps ps.length).length ≤ 1048576 := by
  rcases open_slice1 Tryd.underlying42 (by kernel_rfl) h with ⟨hcs, _⟩ | ⟨a, len, cap, m, n, V, D, Pl, hcs, _, hl, hm, hmm, rfl, hx⟩
  · simp only [List.cons.injEq, and_true] at hcs
    subst hcs
    exact ⟨none, 0, 0, [], rfl, ⟨rfl, by simp, .inl rfl⟩, by omega, by simp [flatP]⟩
  · simp only [List.cons.injEq, and_true] at hcs
    subst hcs
    simp only [if_true] at hmm
    subst hmm
    have hall : Rows.uptoBulkAll ((List.range len).map D) ≤ 1048576 := by
      simp only [Rows.uptoBulk] at hr
      omega
    have hlen : len ≤ 1048576 := by
      have := bulk_length ((List.range len).map D)
      simp only [List.length_map, List.length_range] at this
      omega
    have hone : ∀ i, i < len → Rows.uptoBulk (D i) ≤ 1048576 := fun i hi => by
      have := bulk_mem (d := D i) (l := (List.range len).map D) (List.mem_map.2 ⟨i, List.mem_range.2 hi, rfl⟩)
      omega
    obtain ⟨G, hG⟩ := choose_lt (α := Piece) (n := len) (p := fun i g => V i = .slice g.a g.n g.c ∧ BIn W g.a g.n g.c g.l ∧ g.n ≤ Rows.uptoBulk (D i)) (fun i hi => by
      obtain ⟨a1, n1, c1, l1, e1, h1, h2⟩ := bin_bulk (hx i (by omega)).2 (hone i hi)
      exact ⟨⟨a1, n1, c1, l1⟩, e1, h1, h2⟩)
    refine ⟨some a, len, m, (List.range len).map G, rfl, ⟨by simp, ?_, ?_⟩, hlen, ?_⟩
    · intro y hy
      obtain ⟨i, hi, rfl⟩ := List.mem_map.1 hy
      exact (hG i (List.mem_range.1 hi)).2.1
    · by_cases h0 : len = 0
      · exact .inl h0
      right
      obtain ⟨b, off, spot⟩ := a
      have hs := World.cell?_spot (hx 0 (by omega)).1
      simp only [Addr.add] at hs
      subst hs
      refine ⟨b, off, rfl, fun i y hy => ?_⟩
      have hi : i < len := by
        have := (List.getElem?_eq_some_iff.1 hy).1
        simpa using this
      have hyG : y = G i := by
        rw [List.getElem?_map, List.getElem?_range hi] at hy
        simpa using hy.symm
      subst hyG
      have hc := (hx i (by omega)).1
      rw [add_none] at hc
      rw [hc, (hG i hi).1]
    · unfold flatP
      rw [List.take_length]
      have := flat_bulk D G (List.range len) (fun i hi => by
        have h1 := (hG i (List.mem_range.1 hi)).2
        have h2 := h1.1.1.1
        omega)
      omega
end Go.Proofs.YtnikhnpigopihaaDoor
namespace Go.Proofs.YtnikhnpigopihaaDoor
open Go.Deep Go.ChangeShapes Go.WideShapes Go.ChangeAt Go.RowKit
set_option linter.unusedVariables false
instance : Inhabited OpR := ⟨⟨0, 0, none, 0, 0, []⟩⟩
theorem cells47 : Tryd.prog.cellsOf 47 = 3 := by kernel_rfl
theorem cells3 : Tryd.prog.cellsOf 3 = 1 := by kernel_rfl
theorem cells22 : Tryd.prog.cellsOf 22 = 1 := by kernel_rfl
theorem op_cells {H : Type} {enc : TypeId × Value → H} {W : World} {cs : List Value} {fuel : Nat} {x : DataW H × List MemPlace}
    (h : DataW.trod enc Tryd.prog W 0 (fun _ => true) true fuel 47 cs = some x) (hr : Rows.uptoBulk x.1 ≤ 1048576) : ∃ r : OpR, cs = r.cs ∧ BIn W r.a r.n r.c r.l ∧ r.n ≤ Rows.uptoBulk x.1 := by
  obtain ⟨y0, y1, y2, n, rfl, hl, h0, h1, h2⟩ := trod_struct3 Tryd.underlying47 h
  rw [cells47] at hl
  match cs, hl with
  | [u0, u1, u2], _ =>
    have g0 : DataW.trod enc Tryd.prog W 0 (fun _ => true) true n 3 [u0] = some y0 := by simpa [cells3] using h0
    have g1 : DataW.trod enc Tryd.prog W 0 (fun _ => true) true n 3 [u1] = some y1 := by simpa [cells3] using h1
    have g2 : DataW.trod enc Tryd.prog W 0 (fun _ => true) true n 22 [u2] = some y2 := by simpa [cells22] using h2
    obtain ⟨k0, e0, _⟩ := DataW.trod_int Tryd.underlying3 g0
    obtain ⟨k1, e1, _⟩ := DataW.trod_int Tryd.underlying3 g1
    have hb : Rows.uptoBulk y2.1 ≤ Rows.uptoBulk (DataW.agg [y0.1, y1.1, y2.1] : DataW H) := by
      simp only [Rows.uptoBulk, Rows.uptoBulkAll]
      omega
    obtain ⟨a, m, c, l, rfl, h3, h4⟩ := bin_bulk g2 (Nat.le_trans hb hr)
    simp only [List.cons.injEq, and_true] at e0 e1
    subst e0 e1
    exact ⟨⟨k0, k1, a, m, c, l⟩, rfl, h3, Nat.le_trans h4 hb⟩
theorem sum_bulk {H : Type} (D : Nat → DataW H) (G : Nat → OpR) (L : List Nat) (h : ∀ i ∈ L, (G i).n ≤ Rows.uptoBulk (D i)) :
    ((L.map G).map OpR.n).sum ≤ Rows.uptoBulkAll (L.map D) := by
  induction L with
  | nil => simp
  | cons x r ih =>
    have h1 := h x List.mem_cons_self
    have h2 := ih (fun i hi => h i (List.mem_cons_of_mem _ hi))
    simp only [List.map_cons, List.sum_cons, Rows.uptoBulkAll]
    omega
theorem so_in {H : Type} {enc : TypeId × Value → H} {W : World} {v : Value} {fuel : Nat} {x : DataW H × List MemPlace}
    (h : DataW.trod enc Tryd.prog W 0 (fun _ => true) true fuel 33 [v] = some x) (hr : Rows.uptoBulk x.1 ≤ 1048576) :
    ∃ P np cp os, v = .slice P np cp ∧ SIn W P np os ∧ np ≤ 1048576 ∧ opsL os os.length ≤ 1048576 := by
  rcases open_slice Tryd.underlying33 h with ⟨hcs, _⟩ | ⟨a, len, cap, m, n, D, Pl, hcs, _, hl, hm, hmm, rfl, hx⟩
  · simp only [List.cons.injEq, and_true] at hcs
    subst hcs
    exact ⟨none, 0, 0, [], rfl, ⟨rfl, by simp, .inl rfl⟩, by omega, by simp [opsL]⟩
  · simp only [List.cons.injEq, and_true] at hcs
    subst hcs
    simp only [if_true] at hmm
    subst hmm
    rw [cells47] at hx
    have hall : Rows.uptoBulkAll ((List.range len).map D) ≤ 1048576 := by
      simp only [Rows.uptoBulk] at hr
      omega
    have hlen : len ≤ 1048576 := by
      have := bulk_length ((List.range len).map D)
      simp only [List.length_map, List.length_range] at this
      omega
    have hone : ∀ i, i < len → Rows.uptoBulk (D i) ≤ 1048576 := fun i hi => by
      have := bulk_mem (d := D i) (l := (List.range len).map D) (List.mem_map.2 ⟨i, List.mem_range.2 hi, rfl⟩)
      omega
    obtain ⟨G, hG⟩ := choose_lt (α := OpR) (n := len) (p := fun i g => W.cells? 0 (a.add (i * 3)) 3 = some g.cs ∧ BIn W g.a g.n g.c g.l ∧ g.n ≤ Rows.uptoBulk (D i)) (fun i hi => by
      obtain ⟨cs', h1, h2⟩ := hx i (by omega)
      obtain ⟨r, rfl, h3, h4⟩ := op_cells h2 (hone i hi)
      exact ⟨r, h1, h3, h4⟩)
    refine ⟨some a, len, m, (List.range len).map G, rfl, ⟨by simp, ?_, ?_⟩, hlen, ?_⟩
    · intro y hy
      obtain ⟨i, hi, rfl⟩ := List.mem_map.1 hy
      exact (hG i (List.mem_range.1 hi)).2.1
    · by_cases h0 : len = 0
      · exact .inl h0
      right
      obtain ⟨b, off, spot⟩ := a
      have hc0 := (World.cells?_some (hG 0 (by omega)).1).2.2 0 (by omega)
      have hs := World.cell?_spot (hc0.trans (show (G 0).cs[0]? = some (.int .i64 (G 0).kd) from rfl))
      simp only [Addr.add] at hs
      have hs : spot = none := by simpa using hs
      subst hs
      refine ⟨b, off, rfl, fun i y hy => ?_⟩
      have hi : i < len := by
        have := (List.getElem?_eq_some_iff.1 hy).1
        simpa using this
      have hyG : y = G i := by
        rw [List.getElem?_map, List.getElem?_range hi] at hy
        simpa using hy.symm
      subst hyG
      intro j u hu
      have hj : j < 3 := (List.getElem?_eq_some_iff.1 hu).1
      have hc := (World.cells?_some (hG i hi).1).2.2 j hj
      rw [add_none, add_none] at hc
      exact hc.trans hu
    · unfold opsL
      rw [List.take_length]
      have := sum_bulk D G (List.range len) (fun i hi => (hG i (List.mem_range.1 hi)).2.2)
      omega
end Go.Proofs.YtnikhnpigopihaaDoor
