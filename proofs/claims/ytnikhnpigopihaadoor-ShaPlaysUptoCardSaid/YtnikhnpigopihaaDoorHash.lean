/- A hash as one block: its parts, its beginning, how many bytes are held. Condition: the table. -/
import Derived.Test.YtnikhnpigopihaaDoorFirst
import Derived.Test.YtnikhnpigopihaaDoorApp
import Derived.Deep.MidRow
import Derived.StillTailTactics
namespace Go.Proofs.YtnikhnpigopihaaDoor
open Go.RowKit
set_option linter.unusedVariables false
/-- a hash's cells: kind, how many bytes, the words, the rest -/
def hashV (k n : Nat) (s r : List Nat) : List Value := .int .u8 (k : Nat) :: .int .u64 (n : Nat) :: (natsV .u64 s ++ natsV .u8 r)
theorem built72 (k : Int) (a b c d e f g h : Int) : Tryd.prog.built 72 [(0, .int .u8 k), (2, .agg #[.int .u64 a, .int .u64 b, .int .u64 c, .int .u64 d, .int .u64 e, .int .u64 f, .int .u64 g, .int .u64 h])] =
    some (Value.int .u8 k :: Value.int .u64 0 :: ([Value.int .u64 a, Value.int .u64 b, Value.int .u64 c, Value.int .u64 d, Value.int .u64 e, Value.int .u64 f, Value.int .u64 g, Value.int .u64 h] ++ natsV .u8 (zeros 128))).toArray := by kernel_rfl
theorem built72' (k : Nat) (s : List Nat) (hs : s.length = 8) : Tryd.prog.built 72 [(0, .int .u8 (k : Nat)), (2, .agg (natsV .u64 s).toArray)] = some (hashV k 0 s (zeros 128)).toArray := by
  obtain ⟨a, b, c, d, e, f, g, h, rfl⟩ := list8 hs
  exact built72 k a b c d e f g h
theorem firstN_length (k : Nat) : (firstN k).length = 8 := tell_length _ _
theorem firstN_lt (k : Nat) : ∀ x ∈ firstN k, x < 2 ^ wW k := by
  refine tell_lt _ _ (fun i => ?_) _
  unfold firstAt wW
  have h1 := roots_lt i
  have h2 := roots_lt (8 + i)
  split
  · show _ < 2 ^ 32; omega
  · split <;> (show _ < 2 ^ 64; omega)
/-- what a call answers that makes a hash -/
def HashNew (k n : Nat) (s r : List Nat) (w : World) (e : Ending) (w' : World) : Prop := ∃ g, e = .returned (.pointer (some ⟨g, 0, none⟩)) ∧ w.heap.size ≤ g ∧ Blk w' g 72 (hashV k n s r) ∧ Below w.heap.size w w'
set_option maxRecDepth 100000 in
set_option maxHeartbeats 800000 in
theorem begin_any (k : Nat) (hk : IsKind k) (w : World) (htab : Tabs w) : Calls Tryd.prog 35 #[.int .u8 (k : Nat)] w (HashNew k 0 (firstN k) (zeros 128) w) := by
  have HF := Lib.hid (firstWords_any k hk w htab)
  have HB := Lib.hid (built72' k (firstN k) (firstN_length k))
  clear htab
  generalize firstN k = s at *
  generalize zeros 128 = z at *
  go_enter Tryd.func35, Tryd.ntmps35
  go_wp2_with fail
  refine HF.out.mono ?_
  rintro e w1 ⟨rfl, hb⟩
  clear HF
  go_wp2_with (refine wpList_build_is rfl 72 _ rfl (hashV k 0 s z).toArray ?hb ?_)
  case hb => exact HB.out
  clear HB
  go_ret
  exact ⟨w1.heap.size, rfl, hb.size, Blk.new w1 72 (hashV k 0 s z), hb.alloc hb.size _⟩

theorem hash_kind {w : World} {g k n : Nat} {s r : List Nat} (h : Blk w g 72 (hashV k n s r)) : w.cell? ⟨g, 0, none⟩ = some (.int .u8 (k : Nat)) := by rw [h.cell]; rfl
theorem hash_taken {w : World} {g k n : Nat} {s r : List Nat} (h : Blk w g 72 (hashV k n s r)) : w.cell? ⟨g, 1, none⟩ = some (.int .u64 (n : Nat)) := by rw [h.cell]; rfl
theorem hash_words {w : World} {g k n : Nat} {s r : List Nat} (h : Blk w g 72 (hashV k n s r)) : w.rangeAt g 2 (natsV .u64 s) := by
  intro j v hv
  rw [h.cell, Nat.add_comm]
  have hj : j < (natsV .u64 s).length := (List.getElem?_eq_some_iff.1 hv).1
  show (natsV .u64 s ++ natsV .u8 r)[j]? = _
  rw [List.getElem?_append_left hj, hv]
theorem hash_rest {w : World} {g k n : Nat} {s r : List Nat} (h : Blk w g 72 (hashV k n s r)) (hs : s.length = 8) (i : Nat) (hi : i < r.length) : w.cell? ⟨g, 10 + i, none⟩ = some (.int .u8 (r.getD i 0 : Nat)) := by
  rw [h.cell, ← natsV_get .u8 r i hi]
  unfold hashV
  rw [show 10 + i = (8 + i) + 2 by omega]
  show (natsV .u64 s ++ natsV .u8 r)[8 + i]? = _
  rw [List.getElem?_append_right (by rw [natsV_length]; omega), natsV_length, hs, Nat.add_sub_cancel_left]
theorem hash_there {w : World} {g k n : Nat} {s r : List Nat} (h : Blk w g 72 (hashV k n s r)) (hs : s.length = 8) (hr : r.length = 128) (o m : Nat) (ho : o + m ≤ 138) : w.there g o m := by
  intro j hj
  refine ⟨?_, h.free _⟩
  rw [h.cell, List.getElem?_eq_getElem (by simp [hashV, natsV_length, hs, hr]; omega)]; rfl
def setL (cs : List Value) (o : Nat) : List Value → List Value
  | [] => cs
  | v :: r => setL (cs.set o v) (o + 1) r
theorem setCells_blk (g : Nat) (t : TypeId) : ∀ (vs : List Value) (o : Nat) (w : World) (cs : List Value), Blk w g t cs → Blk (w.setCells g o vs) g t (setL cs o vs)
  | [], _, _, _, h => h
  | v :: r, o, w, cs, h => setCells_blk g t r (o + 1) _ _ (h.set o v)
theorem setL_mid : ∀ (new old a c : List Value), old.length = new.length → setL (a ++ (old ++ c)) a.length new = a ++ (new ++ c)
  | [], old, a, c, h => by
    have : old = [] := List.eq_nil_of_length_eq_zero h
    subst this; rfl
  | v :: r, old, a, c, h => by
    match old, h with
    | o :: os, h =>
      have ih := setL_mid r os (a ++ [v]) c (by simpa using h)
      have e : (a ++ (o :: os ++ c)).set a.length v = (a ++ [v]) ++ (os ++ c) := by
        rw [List.set_append_right (h := Nat.le_refl _)]; simp
      show setL ((a ++ (o :: os ++ c)).set a.length v) (a.length + 1) r = _
      rw [e]
      simpa using ih
theorem grown_setCells (g : Nat) : ∀ (vs : List Value) (o : Nat) (w : World), w.grownBy (w.setCells g o vs) (some g)
  | [], _, w => grown_refl w _
  | v :: r, o, w => grown_trans (grown_setCell w ⟨g, o, none⟩ v) (grown_setCells g r (o + 1) _)
theorem hash_setWords {w : World} {g k n : Nat} {s r s' : List Nat} (h : Blk w g 72 (hashV k n s r)) (hl : s.length = s'.length) : Blk (w.setCells g 2 (natsV .u64 s')) g 72 (hashV k n s' r) := by
  have h1 := setCells_blk g 72 (natsV .u64 s') 2 w _ h
  have h2 := setL_mid (natsV .u64 s') (natsV .u64 s) [.int .u8 (k : Nat), .int .u64 (n : Nat)] (natsV .u8 r) (by simp [natsV_length, hl])
  have e : setL (hashV k n s r) 2 (natsV .u64 s') = hashV k n s' r := h2
  rw [e] at h1; exact h1
theorem hash_setTaken {w : World} {g k n : Nat} {s r : List Nat} (h : Blk w g 72 (hashV k n s r)) (m : Nat) : Blk (w.setCell ⟨g, 1, none⟩ (.int .u64 (m : Nat))) g 72 (hashV k m s r) := h.set 1 _

theorem flipC {P : Program} {f : FuncId} {args : Array Value} {w : World} {v : Value} (h : Calls P f args w fun e w' => e = .returned v ∧ w = w') : Calls P f args w fun e w' => e = .returned v ∧ w' = w :=
  h.mono fun _ _ ⟨a, b⟩ => ⟨a, b.symm⟩
set_option maxHeartbeats 800000 in
theorem held_any (g k n : Nat) (s r : List Nat) (hk : IsKind k) (hn : n < 2 ^ 64) (w : World) (h : Blk w g 72 (hashV k n s r)) :
    Calls Tryd.prog 42 #[.pointer (some ⟨g, 0, none⟩)] w fun e w' => e = .returned (.int .i64 (n % (16 * wB k) : Nat)) ∧ ∃ q, w' = w.drewN q := by
  have h0 := hash_kind h
  have h1 := hash_taken h
  have hbs := Lib.hid (fun w => blockSize_any k hk w)
  have hb : 0 < 16 * wB k ∧ 16 * wB k ≤ 128 := by unfold wB; split <;> omega
  clear h
  generalize 16 * wB k = b at *
  have hm : (n : Int) % (b : Int) = ((n % b : Nat) : Int) := (Int.natCast_emod n b).symm
  have hlt : n % b < 128 := Nat.lt_of_lt_of_le (Nat.mod_lt _ hb.1) hb.2
  generalize n % b = m at *
  have hb0 : ((b : Int) == 0) = false := by simp; omega
  have hb1 : (b : Int) ≠ 0 := by omega
  go_enter Tryd.func42, Tryd.ntmps42
  go_wp2_with fail
  go_quiet ((go_at_call 52; exact Calls.quiet_of_same (flipC (hbs.out _))))
  go_wp2_with fail
  go_ret
  exact ⟨rfl, _, rfl⟩
end Go.Proofs.YtnikhnpigopihaaDoor
