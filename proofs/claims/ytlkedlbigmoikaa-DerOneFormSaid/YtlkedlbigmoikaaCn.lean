/- The contracts of Encode and Decode, case by case. No condition. -/
import Derived.Test.YtlkedlbigmoikaaEc
import Derived.Test.YtlkedlbigmoikaaAw
import Derived.Test.YtlkedlbigmoikaaSm
namespace Go.Proofs.Ytlkedlbigmoikaa
open Go.RowKit
set_option linter.unusedVariables false

theorem enc_bad {t : Nat} {b : List Nat} {k : Tr} {x : Nat} (h : encE t b k = .error x) {w : World} {a : Option Addr} {c : Nat} {a' : Option Addr} {c' : Nat} (hin : ItIn w t a c a' c' b k) :
    Calls Try.prog 18 #[itV t a b.length c a' k.len c'] w fun e w' => e = .returned (.tuple #[.slice none 0 0, .int .i64 (x : Nat)]) ∧ Below w.heap.size w w' := by
  have := Encode_any w t b k a c a' c' hin
  rw [h] at this; exact this.mono fun e w' h => ⟨h.2, h.1⟩
theorem enc_ok {t : Nat} {b : List Nat} {k : Tr} {l : List Nat} (h : encE t b k = .ok l) {w : World} {a : Option Addr} {c : Nat} {a' : Option Addr} {c' : Nat} (hin : ItIn w t a c a' c' b k) :
    Calls Try.prog 18 #[itV t a b.length c a' k.len c'] w fun e w' => ∃ x y, e = .returned (.tuple #[.slice x l.length y, .int .i64 0]) ∧ BIn w' x l.length y l ∧ Below w.heap.size w w' := by
  have := Encode_any w t b k a c a' c' hin
  rw [h] at this; exact this.mono fun e w' h => by obtain ⟨x, y, h1, h2⟩ := h.2; exact ⟨x, y, h1, h2, h.1⟩
theorem decd_bad {l : List Nat} {x : Nat} (h : decE l = .error x) {w : World} {a : Option Addr} {n c : Nat} (hin : BIn w a n c l) :
    Calls Try.prog 11 #[.slice a n c] w fun e w' => e = .returned (.tuple #[.agg #[.int .u8 0, .slice none 0 0, .slice none 0 0], .int .i64 (x : Nat)]) ∧ Below w.heap.size w w' := by
  have := Decode_any l w a n c hin
  rw [h] at this; exact this.mono fun e w' h => ⟨h.2, h.1⟩
theorem decd_ok {l : List Nat} {t : Nat} {b : List Nat} {k : Tr} (h : decE l = .ok (t, b, k)) {w : World} {a : Option Addr} {n c : Nat} (hin : BIn w a n c l) :
    Calls Try.prog 11 #[.slice a n c] w fun e w' => ∃ a1 c1 a2 c2, e = .returned (.tuple #[.agg #[.int .u8 (t : Nat), .slice a1 b.length c1, .slice a2 k.len c2], .int .i64 0]) ∧ ItIn w' t a1 c1 a2 c2 b k ∧ Below w.heap.size w w' := by
  have := Decode_any l w a n c hin
  rw [h] at this
  refine this.mono fun e w' h => ?_
  obtain ⟨v1, v2, L, rfl, hV, _⟩ := h.2
  obtain ⟨a1, c1, a2, c2, _, rfl, rfl, hit⟩ := hV.item
  exact ⟨a1, c1, a2, c2, rfl, hit, h.1⟩
theorem sameI_self {w : World} {t : Nat} {b : List Nat} {k : Tr} {a a1 a' a1' : Option Addr} {c c1 c' c1' : Nat} (h : ItIn w t a c a1 c1 b k) (h' : ItIn w t a' c' a1' c1' b k) :
    Calls Try.prog 12 #[itV t a b.length c a1 k.len c1, itV t a' b.length c' a1' k.len c1'] w fun e w' => e = .returned (.bool true) ∧ Below w.heap.size w w' := by
  have := sameI_any (k.sz + 1) k (Nat.lt_succ_self _) w t t b b k a a1 a' a1' c c1 c' c1' h h'
  rwa [eqI_true ⟨rfl, rfl, rfl⟩] at this
end Go.Proofs.Ytlkedlbigmoikaa
