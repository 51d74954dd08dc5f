/- The digest at once, by the number of bits. Condition: the tables. -/
import Derived.Test.YtnikhnpigopihaaDoorSPm
namespace Go.Proofs.YtnikhnpigopihaaDoor
open Go.RowKit
set_option linter.unusedVariables false
set_option linter.unusedSimpArgs false
/-- what 'digest' answers -/
def DigIs (k : Nat) (l : List Nat) (w : World) (e : Ending) (w' : World) : Prop := ∃ G t, e = .returned (.slice (some ⟨G, 0, none⟩) (dgB k) (dgB k)) ∧ w.heap.size ≤ G ∧ Blk w' G t (natsV .u8 (msgD k l)) ∧ Below w.heap.size w w'
theorem new_row (w : World) (t : TypeId) (z cs : List Value) : (w.alloc (.cells z.toArray t)).setRow w.heap.size cs.toArray = w.alloc (.cells cs.toArray t) := World.setRow_alloc_new _ _ _ _
set_option maxRecDepth 100000 in
set_option maxHeartbeats 1600000 in
theorem digest_1 (a : Option Addr) (m c : Nat) (l : List Nat) (w : World) (hb : BIn w a m c l) (htab : Tabs w) :
    Calls Tryd.prog 31 #[.int .i64 256, .slice a m c] w (DigIs 1 l w) := by
  have H1 := Lib.hid (Sum256_any a m c l w hb htab)
  have H2 := Lib.hid (fun (w' : World) (h : Below w.heap.size w w') => Sum384_any a m c l w' (hb.below h) (htab.below h))
  have H3 := Lib.hid (fun (w' : World) (h : Below w.heap.size w w') => Sum512_any a m c l w' (hb.below h) (htab.below h))
  have L1 := Lib.hid (show (msgD 1 l).length = 32 from msgD_length 1 l)
  have L2 := Lib.hid (show (msgD 2 l).length = 48 from msgD_length 2 l)
  have L3 := Lib.hid (show (msgD 3 l).length = 64 from msgD_length 3 l)
  unfold DigIs
  clear hb htab
  generalize msgD 1 l = D1 at *
  generalize msgD 2 l = D2 at *
  generalize msgD 3 l = D3 at *
  go_enter Tryd.func31, Tryd.ntmps31
  go_wp2_with fail
  refine H1.out.mono ?_
  rintro e w1 ⟨rfl, hb1⟩
  have HB1 := Lib.hid hb1
  go_wp2_with (refine wpList_store_row rfl 25 (.tmp 5) (.tmp 9) rfl w1.heap.size (natsV .u8 D1).toArray rfl rfl 25 (natsV .u8 (zeros 32)).toArray (Blk.new w1 25 (natsV .u8 (zeros 32))) (by rw [info25s, size_nats, L1.out]) (by rw [size_nats, size_nats, L1.out]; rfl) (all_nats _ _) ?_)
  rw [World.setRow_alloc_new]
  obtain ⟨W1, hW1⟩ : ∃ W1 : World, w1.alloc (.cells (natsV .u8 D1).toArray 25) = W1 := ⟨_, rfl⟩
  have B1 := Lib.hid (show Blk W1 w1.heap.size 25 (natsV .u8 D1) by rw [← hW1]; exact Blk.new w1 25 _)
  have HC1 := Lib.hid (show Below w.heap.size w W1 by rw [← hW1]; exact HB1.out.alloc HB1.out.size _)
  have G1 := Lib.hid HB1.out.size
  rw [hW1]
  clear hW1 hb1 HB1
  generalize w1.heap.size = g1 at *
  refine (H2.out W1 HC1.out).mono ?_
  rintro e w2 ⟨rfl, hb2⟩
  have B1' := Lib.hid (B1.out.below' hb2)
  have HB2 := Lib.hid (HC1.out.trans (hb2.mono HC1.out.size))
  clear hb2 HC1 B1
  go_wp2_with (refine wpList_store_row rfl 27 (.tmp 6) (.tmp 11) rfl w2.heap.size (natsV .u8 D2).toArray rfl rfl 27 (natsV .u8 (zeros 48)).toArray (Blk.new w2 27 (natsV .u8 (zeros 48))) (by rw [info27s, size_nats, L2.out]) (by rw [size_nats, size_nats, L2.out]; rfl) (all_nats _ _) ?_)
  rw [World.setRow_alloc_new]
  obtain ⟨W2, hW2⟩ : ∃ W2 : World, w2.alloc (.cells (natsV .u8 D2).toArray 27) = W2 := ⟨_, rfl⟩
  have B2 := Lib.hid (show Blk W2 w2.heap.size 27 (natsV .u8 D2) by rw [← hW2]; exact Blk.new w2 27 _)
  have C1 := Lib.hid (show Blk W2 g1 25 (natsV .u8 D1) by rw [← hW2]; exact B1'.out.alloc _)
  have HC2 := Lib.hid (show Below w.heap.size w W2 by rw [← hW2]; exact HB2.out.alloc HB2.out.size _)
  have G2 := Lib.hid HB2.out.size
  rw [hW2]
  clear hW2 HB2 B1'
  generalize w2.heap.size = g2 at *
  refine (H3.out W2 HC2.out).mono ?_
  rintro e w3 ⟨rfl, hb3⟩
  have C1' := Lib.hid (C1.out.below' hb3)
  have B2' := Lib.hid (B2.out.below' hb3)
  have HB3 := Lib.hid (HC2.out.trans (hb3.mono HC2.out.size))
  clear hb3 HC2 C1 B2
  go_wp2_with (refine wpList_store_row rfl 29 (.tmp 7) (.tmp 13) rfl w3.heap.size (natsV .u8 D3).toArray rfl rfl 29 (natsV .u8 (zeros 64)).toArray (Blk.new w3 29 (natsV .u8 (zeros 64))) (by rw [info29s, size_nats, L3.out]) (by rw [size_nats, size_nats, L3.out]; rfl) (all_nats _ _) ?_)
  rw [World.setRow_alloc_new]
  go_ret
  exact ⟨g1, 25, rfl, G1.out, C1'.out.alloc _, HB3.out.alloc HB3.out.size _⟩
set_option maxRecDepth 100000 in
set_option maxHeartbeats 1600000 in
theorem digest_2 (a : Option Addr) (m c : Nat) (l : List Nat) (w : World) (hb : BIn w a m c l) (htab : Tabs w) :
    Calls Tryd.prog 31 #[.int .i64 384, .slice a m c] w (DigIs 2 l w) := by
  have H1 := Lib.hid (Sum256_any a m c l w hb htab)
  have H2 := Lib.hid (fun (w' : World) (h : Below w.heap.size w w') => Sum384_any a m c l w' (hb.below h) (htab.below h))
  have H3 := Lib.hid (fun (w' : World) (h : Below w.heap.size w w') => Sum512_any a m c l w' (hb.below h) (htab.below h))
  have L1 := Lib.hid (show (msgD 1 l).length = 32 from msgD_length 1 l)
  have L2 := Lib.hid (show (msgD 2 l).length = 48 from msgD_length 2 l)
  have L3 := Lib.hid (show (msgD 3 l).length = 64 from msgD_length 3 l)
  unfold DigIs
  clear hb htab
  generalize msgD 1 l = D1 at *
  generalize msgD 2 l = D2 at *
  generalize msgD 3 l = D3 at *
  go_enter Tryd.func31, Tryd.ntmps31
  go_wp2_with fail
  refine H1.out.mono ?_
  rintro e w1 ⟨rfl, hb1⟩
  have HB1 := Lib.hid hb1
  go_wp2_with (refine wpList_store_row rfl 25 (.tmp 5) (.tmp 9) rfl w1.heap.size (natsV .u8 D1).toArray rfl rfl 25 (natsV .u8 (zeros 32)).toArray (Blk.new w1 25 (natsV .u8 (zeros 32))) (by rw [info25s, size_nats, L1.out]) (by rw [size_nats, size_nats, L1.out]; rfl) (all_nats _ _) ?_)
  rw [World.setRow_alloc_new]
  obtain ⟨W1, hW1⟩ : ∃ W1 : World, w1.alloc (.cells (natsV .u8 D1).toArray 25) = W1 := ⟨_, rfl⟩
  have B1 := Lib.hid (show Blk W1 w1.heap.size 25 (natsV .u8 D1) by rw [← hW1]; exact Blk.new w1 25 _)
  have HC1 := Lib.hid (show Below w.heap.size w W1 by rw [← hW1]; exact HB1.out.alloc HB1.out.size _)
  have G1 := Lib.hid HB1.out.size
  rw [hW1]
  clear hW1 hb1 HB1
  generalize w1.heap.size = g1 at *
  refine (H2.out W1 HC1.out).mono ?_
  rintro e w2 ⟨rfl, hb2⟩
  have B1' := Lib.hid (B1.out.below' hb2)
  have HB2 := Lib.hid (HC1.out.trans (hb2.mono HC1.out.size))
  clear hb2 HC1 B1
  go_wp2_with (refine wpList_store_row rfl 27 (.tmp 6) (.tmp 11) rfl w2.heap.size (natsV .u8 D2).toArray rfl rfl 27 (natsV .u8 (zeros 48)).toArray (Blk.new w2 27 (natsV .u8 (zeros 48))) (by rw [info27s, size_nats, L2.out]) (by rw [size_nats, size_nats, L2.out]; rfl) (all_nats _ _) ?_)
  rw [World.setRow_alloc_new]
  obtain ⟨W2, hW2⟩ : ∃ W2 : World, w2.alloc (.cells (natsV .u8 D2).toArray 27) = W2 := ⟨_, rfl⟩
  have B2 := Lib.hid (show Blk W2 w2.heap.size 27 (natsV .u8 D2) by rw [← hW2]; exact Blk.new w2 27 _)
  have C1 := Lib.hid (show Blk W2 g1 25 (natsV .u8 D1) by rw [← hW2]; exact B1'.out.alloc _)
  have HC2 := Lib.hid (show Below w.heap.size w W2 by rw [← hW2]; exact HB2.out.alloc HB2.out.size _)
  have G2 := Lib.hid HB2.out.size
  rw [hW2]
  clear hW2 HB2 B1'
  generalize w2.heap.size = g2 at *
  refine (H3.out W2 HC2.out).mono ?_
  rintro e w3 ⟨rfl, hb3⟩
  have C1' := Lib.hid (C1.out.below' hb3)
  have B2' := Lib.hid (B2.out.below' hb3)
  have HB3 := Lib.hid (HC2.out.trans (hb3.mono HC2.out.size))
  clear hb3 HC2 C1 B2
  go_wp2_with (refine wpList_store_row rfl 29 (.tmp 7) (.tmp 13) rfl w3.heap.size (natsV .u8 D3).toArray rfl rfl 29 (natsV .u8 (zeros 64)).toArray (Blk.new w3 29 (natsV .u8 (zeros 64))) (by rw [info29s, size_nats, L3.out]) (by rw [size_nats, size_nats, L3.out]; rfl) (all_nats _ _) ?_)
  rw [World.setRow_alloc_new]
  go_ret
  exact ⟨g2, 27, rfl, G2.out, B2'.out.alloc _, HB3.out.alloc HB3.out.size _⟩
set_option maxRecDepth 100000 in
set_option maxHeartbeats 1600000 in
theorem digest_3 (a : Option Addr) (m c : Nat) (l : List Nat) (w : World) (hb : BIn w a m c l) (htab : Tabs w) :
    Calls Tryd.prog 31 #[.int .i64 512, .slice a m c] w (DigIs 3 l w) := by
  have H1 := Lib.hid (Sum256_any a m c l w hb htab)
  have H2 := Lib.hid (fun (w' : World) (h : Below w.heap.size w w') => Sum384_any a m c l w' (hb.below h) (htab.below h))
  have H3 := Lib.hid (fun (w' : World) (h : Below w.heap.size w w') => Sum512_any a m c l w' (hb.below h) (htab.below h))
  have L1 := Lib.hid (show (msgD 1 l).length = 32 from msgD_length 1 l)
  have L2 := Lib.hid (show (msgD 2 l).length = 48 from msgD_length 2 l)
  have L3 := Lib.hid (show (msgD 3 l).length = 64 from msgD_length 3 l)
  unfold DigIs
  clear hb htab
  generalize msgD 1 l = D1 at *
  generalize msgD 2 l = D2 at *
  generalize msgD 3 l = D3 at *
  go_enter Tryd.func31, Tryd.ntmps31
  go_wp2_with fail
  refine H1.out.mono ?_
  rintro e w1 ⟨rfl, hb1⟩
  have HB1 := Lib.hid hb1
  go_wp2_with (refine wpList_store_row rfl 25 (.tmp 5) (.tmp 9) rfl w1.heap.size (natsV .u8 D1).toArray rfl rfl 25 (natsV .u8 (zeros 32)).toArray (Blk.new w1 25 (natsV .u8 (zeros 32))) (by rw [info25s, size_nats, L1.out]) (by rw [size_nats, size_nats, L1.out]; rfl) (all_nats _ _) ?_)
  rw [World.setRow_alloc_new]
  obtain ⟨W1, hW1⟩ : ∃ W1 : World, w1.alloc (.cells (natsV .u8 D1).toArray 25) = W1 := ⟨_, rfl⟩
  have B1 := Lib.hid (show Blk W1 w1.heap.size 25 (natsV .u8 D1) by rw [← hW1]; exact Blk.new w1 25 _)
  have HC1 := Lib.hid (show Below w.heap.size w W1 by rw [← hW1]; exact HB1.out.alloc HB1.out.size _)
  have G1 := Lib.hid HB1.out.size
  rw [hW1]
  clear hW1 hb1 HB1
  generalize w1.heap.size = g1 at *
  refine (H2.out W1 HC1.out).mono ?_
  rintro e w2 ⟨rfl, hb2⟩
  have B1' := Lib.hid (B1.out.below' hb2)
  have HB2 := Lib.hid (HC1.out.trans (hb2.mono HC1.out.size))
  clear hb2 HC1 B1
  go_wp2_with (refine wpList_store_row rfl 27 (.tmp 6) (.tmp 11) rfl w2.heap.size (natsV .u8 D2).toArray rfl rfl 27 (natsV .u8 (zeros 48)).toArray (Blk.new w2 27 (natsV .u8 (zeros 48))) (by rw [info27s, size_nats, L2.out]) (by rw [size_nats, size_nats, L2.out]; rfl) (all_nats _ _) ?_)
  rw [World.setRow_alloc_new]
  obtain ⟨W2, hW2⟩ : ∃ W2 : World, w2.alloc (.cells (natsV .u8 D2).toArray 27) = W2 := ⟨_, rfl⟩
  have B2 := Lib.hid (show Blk W2 w2.heap.size 27 (natsV .u8 D2) by rw [← hW2]; exact Blk.new w2 27 _)
  have C1 := Lib.hid (show Blk W2 g1 25 (natsV .u8 D1) by rw [← hW2]; exact B1'.out.alloc _)
  have HC2 := Lib.hid (show Below w.heap.size w W2 by rw [← hW2]; exact HB2.out.alloc HB2.out.size _)
  have G2 := Lib.hid HB2.out.size
  rw [hW2]
  clear hW2 HB2 B1'
  generalize w2.heap.size = g2 at *
  refine (H3.out W2 HC2.out).mono ?_
  rintro e w3 ⟨rfl, hb3⟩
  have C1' := Lib.hid (C1.out.below' hb3)
  have B2' := Lib.hid (B2.out.below' hb3)
  have HB3 := Lib.hid (HC2.out.trans (hb3.mono HC2.out.size))
  clear hb3 HC2 C1 B2
  go_wp2_with (refine wpList_store_row rfl 29 (.tmp 7) (.tmp 13) rfl w3.heap.size (natsV .u8 D3).toArray rfl rfl 29 (natsV .u8 (zeros 64)).toArray (Blk.new w3 29 (natsV .u8 (zeros 64))) (by rw [info29s, size_nats, L3.out]) (by rw [size_nats, size_nats, L3.out]; rfl) (all_nats _ _) ?_)
  rw [World.setRow_alloc_new]
  go_ret
  exact ⟨w3.heap.size, 29, rfl, HB3.out.size, Blk.new w3 29 _, HB3.out.alloc HB3.out.size _⟩
theorem digest_any (k : Nat) (hk : IsKind k) (a : Option Addr) (m c : Nat) (l : List Nat) (w : World) (hb : BIn w a m c l) (htab : Tabs w) :
    Calls Tryd.prog 31 #[.int .i64 (bitsK k), .slice a m c] w (DigIs k l w) := by
  rcases hk with rfl | rfl | rfl
  · exact digest_1 a m c l w hb htab
  · exact digest_2 a m c l w hb htab
  · exact digest_3 a m c l w hb htab
end Go.Proofs.YtnikhnpigopihaaDoor
