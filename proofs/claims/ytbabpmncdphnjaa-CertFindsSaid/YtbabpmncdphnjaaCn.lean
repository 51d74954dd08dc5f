/- The contracts of Encode and Decode, case by case. No condition. -/
import Derived.Test.YtbabpmncdphnjaaEc
import Derived.Test.YtbabpmncdphnjaaAw
import Derived.Test.YtbabpmncdphnjaaSm
namespace Go.Proofs.Ytbabpmncdphnjaa
open Go.RowKit
set_option linter.unusedVariables false
set_option maxRecDepth 100000

theorem enc_bad {t : Nat} {b : List Nat} {k : Tr} {x : Nat} (h : encE t b k = .error x) {w : World} {a : Option Addr} {c : Nat} {a' : Option Addr} {c' : Nat} (hin : ItIn w t a c a' c' b k) :
    Calls Try.prog 17 #[itV t a b.length c a' k.len c'] w fun e w' => e = .returned (.tuple #[.slice none 0 0, .int .i64 (x : Nat)]) ∧ Below w.heap.size w w' := by
  have := Encode_any w t b k a c a' c' hin
  rw [h] at this; exact this.mono fun e w' h => ⟨h.2, h.1⟩
theorem enc_ok {t : Nat} {b : List Nat} {k : Tr} {l : List Nat} (h : encE t b k = .ok l) {w : World} {a : Option Addr} {c : Nat} {a' : Option Addr} {c' : Nat} (hin : ItIn w t a c a' c' b k) :
    Calls Try.prog 17 #[itV t a b.length c a' k.len c'] w fun e w' => ∃ x y, e = .returned (.tuple #[.slice x l.length y, .int .i64 0]) ∧ BIn w' x l.length y l ∧ Below w.heap.size w w' := by
  have := Encode_any w t b k a c a' c' hin
  rw [h] at this; exact this.mono fun e w' h => by obtain ⟨x, y, h1, h2⟩ := h.2; exact ⟨x, y, h1, h2, h.1⟩
theorem decd_bad {l : List Nat} {x : Nat} (h : decE l = .error x) {w : World} {a : Option Addr} {n c : Nat} (hin : BIn w a n c l) :
    Calls Try.prog 10 #[.slice a n c] w fun e w' => e = .returned (.tuple #[.agg #[.int .u8 0, .slice none 0 0, .slice none 0 0], .int .i64 (x : Nat)]) ∧ Below w.heap.size w w' := by
  have := Decode_any l w a n c hin
  rw [h] at this; exact this.mono fun e w' h => ⟨h.2, h.1⟩
theorem decd_ok {l : List Nat} {t : Nat} {b : List Nat} {k : Tr} (h : decE l = .ok (t, b, k)) {w : World} {a : Option Addr} {n c : Nat} (hin : BIn w a n c l) :
    Calls Try.prog 10 #[.slice a n c] w fun e w' => ∃ a1 c1 a2 c2, e = .returned (.tuple #[.agg #[.int .u8 (t : Nat), .slice a1 b.length c1, .slice a2 k.len c2], .int .i64 0]) ∧ ItIn w' t a1 c1 a2 c2 b k ∧ Below w.heap.size w w' := by
  have := Decode_any l w a n c hin
  rw [h] at this
  refine this.mono fun e w' h => ?_
  obtain ⟨v1, v2, L, rfl, hV, _⟩ := h.2
  obtain ⟨a1, c1, a2, c2, _, rfl, rfl, hit⟩ := hV.item
  exact ⟨a1, c1, a2, c2, rfl, hit, h.1⟩
theorem sameI_self {w : World} {t : Nat} {b : List Nat} {k : Tr} {a a1 a' a1' : Option Addr} {c c1 c' c1' : Nat} (h : ItIn w t a c a1 c1 b k) (h' : ItIn w t a' c' a1' c1' b k) :
    Calls Try.prog 11 #[itV t a b.length c a1 k.len c1, itV t a' b.length c' a1' k.len c1'] w fun e w' => e = .returned (.bool true) ∧ Below w.heap.size w w' := by
  have := sameI_any (k.sz + 1) k (Nat.lt_succ_self _) w t t b b k a a1 a' a1' c c1 c' c1' h h'
  rwa [eqI_true ⟨rfl, rfl, rfl⟩] at this
set_option maxRecDepth 100000 in
set_option maxHeartbeats 4000000 in
theorem decd_long {n : Nat} (hn : 65536 < n) (w : World) (a : Option Addr) (c : Nat) : Calls Try.prog 10 #[.slice a n c] w fun e w' => e = .returned (.tuple #[.agg #[.int .u8 0, .slice none 0 0, .slice none 0 0], .int .i64 121]) ∧ Below w.heap.size w w' := by
  have hmf : ∀ (fn : Fn) (first cap : Array Value) (w : World), (Instr.makeFunc fn first cap).run Try.prog w = .ok (.func fn first cap) w := fun _ _ _ _ => rfl
  have B0 := Blk.new w 25 [.int .u8 0, .slice none 0 0, .slice none 0 0]
  have H1 := Lib.hid (B0.alloc (.cells #[.int .i64 0] 26))
  have H2 := Lib.hid (Blk.new2 w (.cells #[.int .u8 0, .slice none 0 0, .slice none 0 0] 25) 26 [.int .i64 0])
  have hbel : Below w.heap.size w ((w.alloc (.cells #[.int .u8 0, .slice none 0 0, .slice none 0 0] 25)).alloc (.cells #[.int .i64 0] 26)) := ((Below.refl _ w).alloc (Nat.le_refl _) _).alloc (by simp) _
  have HB := Lib.hid hbel
  have hli : ¬ (n : Int) ≤ 65536 := by omega
  clear B0 hbel
  go_enter_defers Try.func10, Try.ntmps10
  go_wp2_with (first | (go_at_call 49; refine (must_t (by first | (simp; omega) | (simp; done) | rfl) _ _).mono ?_; rintro e w' ⟨rfl, rfl⟩) | (go_at_call 49; refine (must_f (by first | (simp; omega) | (simp; done) | rfl) _ _).mono ?_; rintro e w' ⟨rfl, rfl⟩))
  exact exitD_bad w.heap.size (w.heap.size + 1) 121 _ _ _ (by omega) H1.out rfl H2.out rfl rfl ⟨rfl, below_two HB.out _ _⟩
theorem zero_row2 (w : World) (o : Obj) : ((w.alloc o).alloc (.cells #[] 5)).ownsRow w.heap.size 5 1 (.slice (some ⟨w.heap.size + 1, 0, none⟩) 0 0) 0 (bytesV []) := by
  have := ownsMono (zero_row (w.alloc o)) (show w.heap.size ≤ (w.alloc o).heap.size by simp)
  simpa only [World.size_alloc] using this
end Go.Proofs.Ytbabpmncdphnjaa
