/- The document's Read, told by the stream of bytes. Condition: the seed's bytes are there. -/
import Derived.Test.YtlbfnmmankoddaaDoorKRh
import Derived.Test.YtlbfnmmankoddaaDoorSr
namespace Go.Proofs.YtlbfnmmankoddaaDoor
open Go.RowKit
set_option linter.unusedVariables false
set_option linter.unusedSimpArgs false
/-- the document's sponge when b bytes have been read -/
def RefSt (g k : Nat) (A : Option Addr) (m c : Nat) (L : List Nat) (w : World) (b : Nat) : Prop :=
  (b = 0 ∧ Blk w g 43 (rsV (.int .i64 (k : Nat)) (.slice A m c) (.bool false) (.int .i64 0) (zeros 25) (.int .i64 0))) ∨ Blk w g 43 (rsG (.int .i64 (k : Nat)) (.slice A m c) k (endN k (absL (rateK k) (zeros 25, 0) L)) b)
def stR (k : Nat) (L : List Nat) (b n : Nat) : List Nat := tell (fun i => stY k L (b + i)) n
theorem stR_len (k : Nat) (L : List Nat) (b n : Nat) : (stR k L b n).length = n := tell_length _ _
theorem stR_lt (k : Nat) (L : List Nat) (b n : Nat) : ∀ x ∈ stR k L b n, x < 256 := by
  intro x hx; obtain ⟨i, _, rfl⟩ := List.mem_map.1 hx; exact stY_lt _ _ _
theorem stR_get (k : Nat) (L : List Nat) (b n i : Nat) (h : i < n) : (stR k L b n).getD i 0 = stY k L (b + i) := tellG _ _ _ h
def RefRd (g k : Nat) (A : Option Addr) (m c : Nat) (L : List Nat) (b n : Nat) (w : World) (e : Ending) (w' : World) : Prop :=
  ∃ v, e = .returned v ∧ w'.ownsRow w.heap.size 5 1 v n (bytesV (stR k L b n)) ∧ RefSt g k A m c L w' (b + n) ∧ w.grownBy w' (some g)
theorem ref_read (g k : Nat) (hk : IsKind k) (A : Option Addr) (m c : Nat) (L : List Nat) (b n : Nat) (hn : b + n ≤ 65536) (hm : m ≤ 140737488351232) (w : World) (hb : BIn w A m c L) (h : RefSt g k A m c L w b) :
    Calls Tryd.prog 18 #[.pointer (some ⟨g, 0, none⟩), .int .i64 (n : Nat)] w (RefRd g k A m c L b n w) := by
  have hr := rateK_le hk
  rcases h with ⟨rfl, h⟩ | h
  · refine (read_ref g k n A m c L w hk hb hm (by omega) h).mono ?_
    rintro e w' ⟨v, rfl, ho, hbl, hg⟩
    refine ⟨v, rfl, ?_, .inr ?_, hg⟩
    · have : stR k L 0 n = allK k L n := by
        unfold stR allK sqB
        exact List.map_congr_left fun i _ => by rw [Nat.zero_add]; rfl
      rw [this]; exact ho
    · rw [Nat.zero_add]; exact hbl
  · have hg0 := endN_good (k := k) (absL_good (r := rateK k) (by omega) L (zeros 25, 0) good_nought (by show 0 < rateK k; omega)).1
    refine (read_more g k n b _ _ w hk hg0 (by omega) h).mono ?_
    rintro e w' ⟨v, rfl, ho, hbl, hg⟩
    refine ⟨v, rfl, ?_, .inr hbl, hg⟩
    have : stR k L b n = partK k (endN k (absL (rateK k) (zeros 25, 0) L)) b n := by
      unfold stR partK
      exact List.map_congr_left fun i _ => late_byte (by omega) _ _
    rw [this]; exact ho
theorem RefSt.of {g k : Nat} {A : Option Addr} {m c : Nat} {L : List Nat} {w w' : World} {b : Nat} (h : RefSt g k A m c L w b) (e : w'.heap[g]? = w.heap[g]?) : RefSt g k A m c L w' b := by
  rcases h with ⟨h1, h2⟩ | h2
  · exact .inl ⟨h1, h2.of e⟩
  · exact .inr (h2.of e)
end Go.Proofs.YtlbfnmmankoddaaDoor
