/- Write, Len and Reset of a hash. Condition: the tables; the bytes lie in no hash. -/
import Derived.Test.YtnikhnpigopihaaDoorTake
import Derived.Deep.WholeRow
namespace Go.Proofs.YtnikhnpigopihaaDoor
open Go.RowKit
set_option linter.unusedVariables false
theorem HashAt.blk {w : World} {g k n : Nat} {s t : List Nat} (h : HashAt w g k n s t) : ∃ r, Blk w g 72 (hashV k n s r) := let ⟨_, _, _, _, _, _, r, _, _, _, b⟩ := h; ⟨r, b⟩
set_option maxHeartbeats 400000 in
theorem len_any (g k n : Nat) (s t : List Nat) (w : World) (h : HashAt w g k n s t) : Calls Tryd.prog 21 #[.pointer (some ⟨g, 0, none⟩)] w fun e w' => e = .returned (.int .u64 (n : Nat)) ∧ w = w' := by
  obtain ⟨r, hb⟩ := h.blk
  have h1 := hash_taken hb
  clear h hb
  go_enter Tryd.func21, Tryd.ntmps21
  go_wp2_with fail
  go_ret
  exact ⟨rfl, rfl⟩
set_option maxHeartbeats 400000 in
theorem write_long (g k n : Nat) (s t l : List Nat) (a : Option Addr) (m c : Nat) (w : World) (h : HashAt w g k n s t) (hn : n ≤ 2305843009213693951) (hm : m ≤ 140737488355328) (hl : 2305843009213693951 < n + m) :
    Calls Tryd.prog 27 #[.pointer (some ⟨g, 0, none⟩), .slice a m c] w fun e w' => e = .returned (.int .i64 22) ∧ w = w' := by
  obtain ⟨r, hb⟩ := h.blk
  have h1 := hash_taken hb
  have ht : (2305843009213693951 : Int) - (n : Int) < (m : Int) := by omega
  clear h hb
  go_enter Tryd.func27, Tryd.ntmps27
  go_wp2_with fail
  go_ret
  exact ⟨rfl, rfl⟩
/-- what 'Write' leaves -/
def WriteIs (g k n : Nat) (s l : List Nat) (w : World) (e : Ending) (w' : World) : Prop := e = .returned (.int .i64 0) ∧ HashAt w' g k n (goes (wW k) s l).1 (goes (wW k) s l).2 ∧ w.grownBy w' (some g)
set_option maxHeartbeats 400000 in
theorem write_any (g k n : Nat) (s t l : List Nat) (a : Option Addr) (m c : Nat) (w : World) (h : HashAt w g k n s t) (hb : BIn w a m c l) (hab : ∀ b, a = some b → 0 < m → b.block ≠ g) (htab : Tabs w) (hl : n + m ≤ 2305843009213693951) :
    Calls Tryd.prog 27 #[.pointer (some ⟨g, 0, none⟩), .slice a m c] w (WriteIs g k (n + m) s (t ++ l) w) := by
  obtain ⟨r, hbk⟩ := h.blk
  have h1 := hash_taken hbk
  have HT := Lib.hid (take_any g k n s t l a m c w h hb hab htab)
  have ht : ¬ (2305843009213693951 : Int) - (n : Int) < (m : Int) := by omega
  have hm := hb.2.2.2.1
  have hmod : (n + m) % 2 ^ 64 = n + m := Nat.mod_eq_of_lt (by omega)
  have HMOD := Lib.hid hmod
  clear h hbk hb hab htab hmod
  go_enter Tryd.func27, Tryd.ntmps27
  go_wp2_with fail
  refine HT.out.mono ?_
  rintro e w' ⟨rfl, hh, hg⟩
  have HH := Lib.hid hh
  clear hh
  go_wp2_with fail
  go_ret
  refine ⟨rfl, ?_, hg⟩
  have := HH.out
  rwa [HMOD.out] at this
end Go.Proofs.YtnikhnpigopihaaDoor
