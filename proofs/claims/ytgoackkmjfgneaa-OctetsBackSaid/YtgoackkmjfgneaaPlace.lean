/- Reading and laying down a number, by both functions, in each of the cases: refused, without room, laid. -/
import Derived.Test.YtgoackkmjfgneaaPutR
import Derived.Test.YtgoackkmjfgneaaLent
namespace Go.Proofs.Ytgoackkmjfgneaa
open Go.RowKit
set_option linter.unusedVariables false

/-- both Get functions answer so -/
def GetIs (n : Nat) (l : List Nat) (p size : Int) (big : Bool) (x e : Int) : Prop := ∀ (w : World) (a : Option Addr) (c : Nat), BIn w a n c l →
  Calls Try.prog 11 #[.slice a n c, .int .i64 p, .int .i64 size, .bool big] w (fun en w' => en = .returned (.tuple #[.int .u64 x, .int .i64 e]) ∧ w = w') ∧
  Calls Try.prog 13 #[.slice a n c, .int .i64 p, .int .i64 size, .bool big] w (fun en w' => en = .returned (.tuple #[.int .u64 x, .int .i64 e]) ∧ w = w')
/-- both Put functions refuse so -/
def PutNil (n : Nat) (l : List Nat) (p size : Int) (big : Bool) (v f : Int) : Prop := ∀ (w : World) (a : Option Addr) (c : Nat), BIn w a n c l →
  Calls Try.prog 12 #[.slice a n c, .int .i64 p, .int .i64 size, .bool big, .int .u64 v] w (fun en w' => en = .returned (.tuple #[.slice none 0 0, .int .i64 f]) ∧ Below w.heap.size w w') ∧
  Calls Try.prog 14 #[.slice a n c, .int .i64 p, .int .i64 size, .bool big, .int .u64 v] w (fun en w' => en = .returned (.tuple #[.slice none 0 0, .int .i64 f]) ∧ Below w.heap.size w w')
/-- both Put functions lay the list down -/
def PutList (n : Nat) (l : List Nat) (p size : Int) (big : Bool) (v : Int) (L : List Nat) : Prop := ∀ (w : World) (a : Option Addr) (c : Nat), BIn w a n c l →
  Calls Try.prog 12 #[.slice a n c, .int .i64 p, .int .i64 size, .bool big, .int .u64 v] w (ListOwn n L w) ∧
  Calls Try.prog 14 #[.slice a n c, .int .i64 p, .int .i64 size, .bool big, .int .u64 v] w (ListIs n L w)

theorem same_below {P : Prop} {w w' : World} (h : P ∧ w = w') : P ∧ Below w.heap.size w w' := ⟨h.1, by rw [← h.2]; exact Below.refl _ _⟩

theorem place_arg (n : Nat) (l : List Nat) (p size : Int) (big : Bool) (v : Int) (h : SizeBad size) : GetIs n l p size big 0 1 ∧ PutNil n l p size big v 1 :=
  ⟨fun w a c _ => ⟨get11_arg a n c p size big w h, get13_arg a n c p size big w h⟩,
   fun w a c _ => ⟨(put12_arg a n c p size big v w h).mono fun _ _ h => same_below h, (put14_arg a n c p size big v w h).mono fun _ _ h => same_below h⟩⟩
theorem place_end (n : Nat) (l : List Nat) (p : Int) (size : Nat) (big : Bool) (v : Int) (hn : n ≤ 140737488355328) (hs : SizeOk size) (h : p < 0 ∨ (n : Int) < p + size) : GetIs n l p size big 0 11 ∧ PutNil n l p size big v 11 :=
  ⟨fun w a c _ => ⟨get11_end a n c p size big w (by omega) hs h, get13_end a n c p size big w (by omega) hs h⟩,
   fun w a c _ => ⟨(put12_end a n c p size big v w hn hs h).mono fun _ _ h => same_below h, (put14_end a n c p size big v w hn hs h).mono fun _ _ h => same_below h⟩⟩
theorem place_get (n : Nat) (l : List Nat) (p size : Nat) (big : Bool) (hn : n ≤ 140737488355328) (hs : SizeOk size) (h : p + size ≤ n) : GetIs n l p size big (getN l p size big : Nat) 0 :=
  fun w a c hb => ⟨get11_ok a n c p size big l w hb.1 (by omega) hs h, get13_ok a n c p size big l w hb.1 (by omega) hs h⟩
theorem place_range (n : Nat) (l : List Nat) (p size : Nat) (big : Bool) (v : Nat) (hn : n ≤ 140737488355328) (hs : SizeOk size) (h : p + size ≤ n) (hv : v ≤ 18446744073709551615) (hr : 256 ^ size ≤ v) : PutNil n l p size big v 12 :=
  fun w a c hb => ⟨(put12_range a n c p size big v w hn hs h hv hr).mono fun _ _ h => same_below h, put14_any a n c p size big v l none w hb hs h hv (.inr ⟨hr, rfl⟩)⟩
theorem place_put (n : Nat) (l : List Nat) (p size : Nat) (big : Bool) (v : Nat) (hs : SizeOk size) (h : p + size ≤ n) (hv : v ≤ 18446744073709551615) (hr : v < 256 ^ size) : PutList n l p size big v (putN l p size big v) :=
  fun w a c hb => ⟨put12_ok a n c p size big v l w hb hs h hv hr, put14_any a n c p size big v l (some _) w hb hs h hv (.inl ⟨hr, rfl⟩)⟩

/-- a size is right or wrong -/
theorem size_cases (size : Int) : SizeBad size ∨ ∃ s : Nat, size = s ∧ SizeOk s := by
  by_cases h1 : size = 1
  · exact .inr ⟨1, by omega, .inl rfl⟩
  by_cases h2 : size = 2
  · exact .inr ⟨2, by omega, .inr (.inl rfl)⟩
  by_cases h4 : size = 4
  · exact .inr ⟨4, by omega, .inr (.inr (.inl rfl))⟩
  by_cases h8 : size = 8
  · exact .inr ⟨8, by omega, .inr (.inr (.inr rfl))⟩
  exact .inl ⟨h1, h2, h4, h8⟩
end Go.Proofs.Ytgoackkmjfgneaa
