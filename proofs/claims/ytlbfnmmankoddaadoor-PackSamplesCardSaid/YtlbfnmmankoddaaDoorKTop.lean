/- A new sponge, SHA-3 at once, and a known digest: the project's functions answer the plain ones. Condition: the table of constants. -/
import Derived.Test.YtlbfnmmankoddaaDoorKGive
namespace Go.Proofs.YtlbfnmmankoddaaDoor
open Go.RowKit
set_option linter.unusedVariables false
theorem built76 (k l : Int) : Tryd.prog.built 72 [(0, .int .i64 k), (4, .int .i64 l)] = some (Value.int .i64 k :: (natsV .u64 (zeros 25) ++ [.int .i64 0, .bool false, .int .i64 l])).toArray := by kernel_rfl
theorem zeros_good : Good (zeros 25) := ⟨by simp [zeros], fun x hx => by rw [List.eq_of_mem_replicate hx]; decide⟩
/-- what a call answers that makes a sponge -/
def SpNew (k : Nat) (w : World) (e : Ending) (w' : World) : Prop := ∃ g, e = .returned (.pointer (some ⟨g, 0, none⟩)) ∧ w.heap.size ≤ g ∧ SpAt w' g k 0 false (sizeK k) (zeros 25) ∧ Below w.heap.size w w'
set_option maxRecDepth 100000 in
set_option maxHeartbeats 800000 in
theorem begin_any (k : Nat) (hk : IsKind k) (w : World) (htab : Tabs w) : Calls Tryd.prog 41 #[.int .i64 (k : Nat)] w (SpNew k w) := by
  have HS := Lib.hid (fun w => sizeOf_any k hk w)
  have HB := Lib.hid (built76 k (sizeK k))
  have hsz := htab.size
  have HK := Lib.hid hk
  have hr := rateK_le hk
  clear htab hk
  go_enter Tryd.func41, Tryd.ntmps41
  go_wp2_with fail
  refine (HS.out _).mono ?_
  rintro e w' ⟨rfl, rfl⟩
  clear HS
  go_wp2_with (refine wpList_build_is rfl 72 _ rfl (spV k 0 false (sizeK k) (zeros 25)).toArray ?hb ?_)
  case hb => exact HB.out
  clear HB
  go_ret
  exact ⟨w.heap.size, rfl, Nat.le_refl _, ⟨HK.out, zeros_good, by omega, hsz, Blk.new w 72 (spV k 0 false (sizeK k) (zeros 25))⟩, (Below.refl _ _).alloc (Nat.le_refl _) _⟩
/-- the first n bytes that a kind gives out -/
def allK (k : Nat) (l : List Nat) (n : Nat) : List Nat := sqB (rateK k) (endN k (absL (rateK k) (zeros 25, 0) l), 0) n
theorem bin_block {w : World} {a : Option Addr} {n c : Nat} {l : List Nat} (h : BIn w a n c l) : ∀ b, a = some b → 0 < n → b.block < w.heap.size := by
  rintro b rfl hn
  obtain ⟨b', off, he, hc⟩ := h.1.2.2.2.resolve_left (by omega)
  injection he with he
  subst he
  exact World.block_lt_of_cell? w _ (hc 0 hn)
/-- so many bytes in new memory -/
def RowIs (n : Nat) (l : List Nat) (w : World) (e : Ending) (w' : World) : Prop := ∃ G, e = .returned (.slice (some ⟨G, 0, none⟩) n n) ∧ w.heap.size ≤ G ∧ Blk w' G 5 (natsV .u8 l) ∧ Below w.heap.size w w'
theorem allK_length (k : Nat) (l : List Nat) (n : Nat) : (allK k l n).length = n := sqB_length _ _ _
theorem allK_lt (k : Nat) (l : List Nat) (n : Nat) : ∀ x ∈ allK k l n, x < 256 := sqB_lt _ _ _
/-- what a call answers that gives an array of bytes -/
def BytesIs (l : List Nat) (w : World) (e : Ending) (w' : World) : Prop := e = .returned (.agg (natsV .u8 l).toArray) ∧ Below w.heap.size w w'
theorem blk_range {w : World} {G : Nat} {t : TypeId} {l : List Nat} (h : Blk w G t (natsV .u8 l)) : w.rangeAt G 0 (natsV .u8 l) := by
  intro j v hv
  rw [Nat.zero_add, h.cell, hv]
theorem nil0 : (allK 1 [] 32).getD 0 0 = 167 ∧ (allK 1 [] 32).getD 1 0 = 255 ∧ (allK 1 [] 32).getD 2 0 = 198 := by decide +kernel
end Go.Proofs.YtlbfnmmankoddaaDoor
