/- The document's Write that does not fit, and its Sum of any kind. Condition: the list may grow so far. -/
import Derived.Test.YtnikhnpigopihaaDoorRefS1
import Derived.Test.YtnikhnpigopihaaDoorRefS2
import Derived.Test.YtnikhnpigopihaaDoorRefS3
import Derived.Test.YtnikhnpigopihaaDoorEqD
namespace Go.Proofs.YtnikhnpigopihaaDoor
open Go.RowKit
set_option linter.unusedVariables false
set_option linter.unusedSimpArgs false
set_option maxHeartbeats 800000 in
theorem refWrite_long (g base k n : Nat) (s L : List Nat) (A : Option Addr) (m c : Nat) (w : World) (h : RefAt w g base k s n L) (hm : m ≤ 140737488355328) (hlong : 2305843009213693951 < n + L.length + m) (hn : n + L.length ≤ 2305843009213693951) (h47 : L.length ≤ 140737488355328) :
    Calls Tryd.prog 28 #[.pointer (some ⟨g, 0, none⟩), .slice A m c] w fun e w' => e = .returned (.bool false) ∧ ∃ q, w' = w.drewN q := by
  have HLEN := Lib.hid (refLen_any g base k n s L w h (by omega) h47)
  have e1 : IntKind.u64.wrap (m : Int) = (m : Int) := u64_cast _ (by omega)
  have e2 : IntKind.u64.wrap ((2305843009213693951 : Int) - ((n + L.length : Nat) : Int)) = ((2305843009213693951 - (n + L.length) : Nat) : Int) := by
    rw [show (2305843009213693951 : Int) - ((n + L.length : Nat) : Int) = ((2305843009213693951 - (n + L.length) : Nat) : Int) from by omega]; exact u64_cast _ (by omega)
  have e2' : (2305843009213693951 : Int) - ((n + L.length : Nat) : Int) = ((2305843009213693951 - (n + L.length) : Nat) : Int) := by omega
  have hcmp : decide (((2305843009213693951 - (n + L.length) : Nat) : Int) < (m : Int)) = true := by simp; omega
  clear h
  generalize 2305843009213693951 - (n + L.length) = room at *
  generalize n + L.length = nm at *
  go_enter Tryd.func28, Tryd.ntmps28
  go_wp2_with fail
  refine HLEN.out.mono ?_
  rintro e w' ⟨rfl, q, rfl⟩
  go_wp2_with fail
  go_ret
  exact ⟨rfl, _, rfl⟩
theorem padS_1 (m N : Nat) (h : m % 64 = N % 64) (hN : N < 2 ^ 64) : padR1 m N = padN 1 N := by
  have := padR_1 N
  rw [Nat.mod_eq_of_lt hN] at this
  rw [← this]; unfold padR1 padQ1; rw [h]
theorem padS_2 (m N : Nat) (h : m % 128 = N % 128) (hN : N < 2 ^ 64) : padR2 m N = padN 2 N := by
  have := padR_2 N
  rw [Nat.mod_eq_of_lt hN] at this
  rw [← this]; unfold padR2 padQ2; rw [h]
theorem padS_3 (m N : Nat) (h : m % 128 = N % 128) (hN : N < 2 ^ 64) : padR3 m N = padN 3 N := by
  have := padR_3 N
  rw [Nat.mod_eq_of_lt hN] at this
  rw [← this]; unfold padR3 padQ3; rw [h]
/-- the document's digest of what the list holds behind n bytes -/
theorem refSum_any (g base k n : Nat) (s L : List Nat) (w : World) (h : RefAt w g base k s n L) (hd : n % (2 * wW k) = 0) (hn : n + L.length ≤ 2305843009213693951) (h47 : L.length + 300 ≤ 140737488355328) :
    Calls Tryd.prog 30 #[.pointer (some ⟨g, 0, none⟩)] w (AppIs w.heap.size (digN k (n + L.length) s L) w) := by
  have hk := h.1
  rcases hk with rfl | rfl | rfl
  · have := refSum_1 g base n s L w h hn h47
    have hd' : n % 64 = 0 := hd
    rw [padS_1 L.length (n + L.length) (by omega) (by omega)] at this
    exact this
  · have := refSum_2 g base n s L w h hn h47
    have hd' : n % 128 = 0 := hd
    rw [padS_2 L.length (n + L.length) (by omega) (by omega)] at this
    exact this
  · have := refSum_3 g base n s L w h hn h47
    have hd' : n % 128 = 0 := hd
    rw [padS_3 L.length (n + L.length) (by omega) (by omega)] at this
    exact this
theorem digN_goes (k N : Nat) (s l : List Nat) (hw : 0 < wW k) : digN k N (goes (wW k) s l).1 (goes (wW k) s l).2 = digN k N s l := by
  unfold digN
  rw [goes_append hw l.length s l _ rfl]
end Go.Proofs.YtnikhnpigopihaaDoor
