/- What the law of the sums asks: Shake whole, All's row. Condition: the table of constants. -/
import Derived.Test.YtidnlaibfkjgpaaDoorKRe
import Derived.Test.YtidnlaibfkjgpaaDoorKShake
namespace Go.Proofs.YtidnlaibfkjgpaaDoor
open Go.RowKit
set_option linter.unusedVariables false
theorem row_of_blk {w : World} {G n : Nat} {t : TypeId} {l : List Nat} (h : Blk w G t (natsV .u8 l)) (hl : l.length = n) (hn : n ≤ maxLen) (hlt : ∀ x ∈ l, x < 256) : ByteRow w (some ⟨G, 0, none⟩) n l :=
  ⟨hl, hn, hlt, .inr ⟨G, 0, rfl, fun i hi => by rw [Nat.zero_add]; exact h.nat i (by omega)⟩⟩
/-- so many bytes somewhere new -/
def RowNew (n : Nat) (l : List Nat) (w : World) (e : Ending) (w' : World) : Prop := ∃ A c, e = .returned (.slice A n c) ∧ ByteRow w' A n l ∧ Below w.heap.size w w'
theorem all_row (k n : Nat) (A : Option Addr) (m c : Nat) (l : List Nat) (w : World) (hk : IsKind k) (hb : BIn w A m c l) (hm : m ≤ 140737488351232) (hn : n ≤ 65536) :
    Calls Tryd.prog 17 #[.int .i64 (k : Nat), .slice A m c, .int .i64 (n : Nat)] w (RowNew n (allK k l n) w) :=
  (all_ref k n A m c l w hk hb hm hn).mono (fun e w' ⟨v, he, ho, hbe⟩ => by
    obtain ⟨a, c', rfl, h2, _⟩ := own_in ho (allK_lt k l n) (by omega)
    exact ⟨a, c', he, h2.1, hbe⟩)
/-- what Shake answers, whatever is asked -/
def ShakeIs (k n : Int) (l : List Nat) (w : World) (e : Ending) (w' : World) : Prop :=
  ∃ (A : Option Addr) (n' c' : Nat) (code : Int), e = .returned (.tuple #[.slice A n' c', .int .i64 code]) ∧ Below w.heap.size w w' ∧
    ((k ≠ 4 ∧ k ≠ 5 ∧ n' = 0 ∧ code = 31) ∨ ((k = 4 ∨ k = 5) ∧ (n < 0 ∨ 65536 < n) ∧ n' = 0 ∧ code = 1) ∨
      (∃ kN nN : Nat, (kN = 4 ∨ kN = 5) ∧ k = (kN : Int) ∧ n = (nN : Int) ∧ nN ≤ 65536 ∧ n' = nN ∧ code = 0 ∧ ByteRow w' A nN (allK kN l nN)))
theorem shake_all (k n : Int) (hi : -9223372036854775808 ≤ n ∧ n ≤ 9223372036854775807) (a : Option Addr) (m c : Nat) (l : List Nat) (w : World) (hb : BIn w a m c l) (htab : Tabs w) :
    Calls Tryd.prog 14 #[.int .i64 k, .slice a m c, .int .i64 n] w (ShakeIs k n l w) := by
  by_cases h : k = 4 ∨ k = 5
  · by_cases h2 : n < 0 ∨ 65536 < n
    · refine (shake_arg k n h h2 hi _ w).mono ?_
      rintro e w' ⟨rfl, q, rfl⟩
      exact ⟨none, 0, 0, 1, rfl, below_drewN (Below.refl _ _) q, .inr (.inl ⟨h, h2, rfl, rfl⟩)⟩
    · obtain ⟨nN, rfl⟩ : ∃ nN : Nat, n = (nN : Int) := ⟨n.toNat, by omega⟩
      have hn : nN ≤ 65536 := by omega
      rcases h with rfl | rfl
      · refine (shake_4 nN hn a m c l w hb htab).mono ?_
        rintro e w' ⟨G, rfl, hG, hblk, hbe⟩
        exact ⟨_, nN, nN, 0, rfl, hbe, .inr (.inr ⟨4, nN, .inl rfl, rfl, rfl, hn, rfl, rfl, row_of_blk hblk (allK_length _ _ _) (by unfold maxLen; omega) (allK_lt _ _ _)⟩)⟩
      · refine (shake_5 nN hn a m c l w hb htab).mono ?_
        rintro e w' ⟨G, rfl, hG, hblk, hbe⟩
        exact ⟨_, nN, nN, 0, rfl, hbe, .inr (.inr ⟨5, nN, .inr rfl, rfl, rfl, hn, rfl, rfl, row_of_blk hblk (allK_length _ _ _) (by unfold maxLen; omega) (allK_lt _ _ _)⟩)⟩
  · refine (shake_kind k n (by omega) (by omega) _ w).mono ?_
    rintro e w' ⟨rfl, rfl⟩
    exact ⟨none, 0, 0, 31, rfl, Below.refl _ _, .inl ⟨by omega, by omega, rfl, rfl⟩⟩
end Go.Proofs.YtidnlaibfkjgpaaDoor
