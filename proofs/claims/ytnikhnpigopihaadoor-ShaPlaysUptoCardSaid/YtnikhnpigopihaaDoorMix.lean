/- The state behind a block, of each kind: the project's function answers the plain one. Condition: the table. -/
import Derived.Test.YtnikhnpigopihaaDoorMixB
import Derived.Test.YtnikhnpigopihaaDoorHash
namespace Go.Proofs.YtnikhnpigopihaaDoor
open Go.RowKit
set_option linter.unusedVariables false
set_option maxHeartbeats 800000 in
theorem mix_1 (s : List Nat) (c : Nat) (b off : Nat) (l : List Nat) (w : World) (hs : s.length = 8) (hsb : ∀ x ∈ s, x < 2 ^ 32) (hb : BIn w (some ⟨b, off, none⟩) 64 c l) (htab : Tabs w) :
    Calls Tryd.prog 53 #[.int .u8 1, .agg (natsV .u64 s).toArray, .slice (some ⟨b, off, none⟩) 64 c] w (WordsIs (mix 32 s l) w) := by
  have B1 := Lib.hid (((Blk.new w 66 (natsV .u64 s)).alloc (.cells (natsV .u64 (zeros 8)).toArray 66)))
  have B2 := Lib.hid (Blk.new2 w (.cells (natsV .u64 s).toArray 66) 66 (natsV .u64 (zeros 8)))
  have BEL := Lib.hid (((Below.refl w.heap.size w).alloc (Nat.le_refl _) (.cells (natsV .u64 s).toArray 66)).alloc (by simp) (.cells (natsV .u64 (zeros 8)).toArray 66))
  have HC := Lib.hid (mix32_any s 64 c b off l _ hs hsb (hb.below BEL.out) (by decide) (htab.below BEL.out))
  have HL := Lib.hid hs
  have HL8 := Lib.hid (mix_length (W := 32) (b := l) hs)
  clear hs hsb hb htab
  generalize mix 32 s l = m8 at *
  go_enter Tryd.func53, Tryd.ntmps53
  go_wp2_with (refine wpList_load_row rfl 66 (.tmp 4) rfl w.heap.size rfl 66 (natsV .u64 s).toArray (0, 0) _ B1.out Tryd.underlying66 rfl (by rw [info66, size_nats, HL.out]) ?_)
  refine HC.out.mono ?_
  rintro e w1 ⟨rfl, hb1⟩
  have J2 := Lib.hid (B2.out.below' hb1)
  have hb2 := BEL.out.trans (hb1.mono (BEL.out.size))
  clear HC B1 B2
  go_wp2_with (refine wpList_store_row rfl 66 (.tmp 6) (.tmp 11) rfl (w.heap.size + 1) (natsV .u64 m8).toArray rfl rfl 66 (natsV .u64 (zeros 8)).toArray J2.out (by rw [info66, size_nats, HL8.out]) (by rw [size_nats, size_nats, HL8.out]; rfl) (all_nats _ _) ?_)
  have j2 := J2.out.setRow (natsV .u64 m8)
  have hb3 := below_setRow' hb2 (show w.heap.size ≤ w.heap.size + 1 by omega) (natsV .u64 m8).toArray
  refine bodyPost_ret (v := .agg (natsV .u64 m8).toArray) ?_ rfl ⟨rfl, hb3⟩
  exact results_cell_row Tryd.results53 _ _ (w.heap.size + 1) 66 _ (0, 0) _ rfl j2 Tryd.underlying66 rfl (by rw [info66, size_nats, HL8.out])
set_option maxHeartbeats 800000 in
theorem mix_23 (k : Nat) (hk : k = 2 ∨ k = 3) (s : List Nat) (c : Nat) (b off : Nat) (l : List Nat) (w : World) (hs : s.length = 8) (hsb : ∀ x ∈ s, x < 2 ^ 64) (hb : BIn w (some ⟨b, off, none⟩) 128 c l) (htab : Tabs w) :
    Calls Tryd.prog 53 #[.int .u8 (k : Nat), .agg (natsV .u64 s).toArray, .slice (some ⟨b, off, none⟩) 128 c] w (WordsIs (mix 64 s l) w) := by
  have B1 := Lib.hid (((Blk.new w 66 (natsV .u64 s)).alloc (.cells (natsV .u64 (zeros 8)).toArray 66)))
  have B2 := Lib.hid (Blk.new2 w (.cells (natsV .u64 s).toArray 66) 66 (natsV .u64 (zeros 8)))
  have BEL := Lib.hid (((Below.refl w.heap.size w).alloc (Nat.le_refl _) (.cells (natsV .u64 s).toArray 66)).alloc (by simp) (.cells (natsV .u64 (zeros 8)).toArray 66))
  have HC := Lib.hid (mix64_any s 128 c b off l _ hs hsb (hb.below BEL.out) (by decide) (htab.below BEL.out))
  have HL := Lib.hid hs
  have HL8 := Lib.hid (mix_length (W := 64) (b := l) hs)
  have hk1 : ((k : Int) == 1) = false := by rcases hk with rfl | rfl <;> rfl
  clear hs hsb hb htab hk
  generalize mix 64 s l = m8 at *
  go_enter Tryd.func53, Tryd.ntmps53
  go_wp2_with (refine wpList_load_row rfl 66 (.tmp 4) rfl w.heap.size rfl 66 (natsV .u64 s).toArray (0, 0) _ B1.out Tryd.underlying66 rfl (by rw [info66, size_nats, HL.out]) ?_)
  refine HC.out.mono ?_
  rintro e w1 ⟨rfl, hb1⟩
  have J2 := Lib.hid (B2.out.below' hb1)
  have hb2 := BEL.out.trans (hb1.mono (BEL.out.size))
  clear HC B1 B2
  go_wp2_with (refine wpList_store_row rfl 66 (.tmp 6) (.tmp 14) rfl (w.heap.size + 1) (natsV .u64 m8).toArray rfl rfl 66 (natsV .u64 (zeros 8)).toArray J2.out (by rw [info66, size_nats, HL8.out]) (by rw [size_nats, size_nats, HL8.out]; rfl) (all_nats _ _) ?_)
  have j2 := J2.out.setRow (natsV .u64 m8)
  have hb3 := below_setRow' hb2 (show w.heap.size ≤ w.heap.size + 1 by omega) (natsV .u64 m8).toArray
  refine bodyPost_ret (v := .agg (natsV .u64 m8).toArray) ?_ rfl ⟨rfl, hb3⟩
  exact results_cell_row Tryd.results53 _ _ (w.heap.size + 1) 66 _ (0, 0) _ rfl j2 Tryd.underlying66 rfl (by rw [info66, size_nats, HL8.out])
theorem mix_any (k : Nat) (hk : IsKind k) (s : List Nat) (n c : Nat) (b off : Nat) (l : List Nat) (w : World) (hs : s.length = 8) (hsb : ∀ x ∈ s, x < 2 ^ wW k) (hb : BIn w (some ⟨b, off, none⟩) n c l) (hn : n = 2 * wW k) (htab : Tabs w) :
    Calls Tryd.prog 53 #[.int .u8 (k : Nat), .agg (natsV .u64 s).toArray, .slice (some ⟨b, off, none⟩) n c] w (WordsIs (mix (wW k) s l) w) := by
  subst hn
  rcases hk with rfl | hk
  · exact mix_1 s c b off l w hs hsb hb htab
  · have e : wW k = 64 := by unfold wW; rw [if_neg (by omega)]
    rw [e] at hsb hb ⊢
    exact mix_23 k hk s c b off l w hs hsb hb htab
end Go.Proofs.YtnikhnpigopihaaDoor
