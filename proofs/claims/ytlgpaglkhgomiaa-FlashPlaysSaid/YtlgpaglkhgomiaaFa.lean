/- The flash's small methods. No condition. -/
import Derived.Test.YtlgpaglkhgomiaaMp
import Derived.Deep.Cut
import Derived.Deep.QuietTactic
namespace Go.Proofs.Ytlgpaglkhgomiaa
open Go.RowKit
set_option linter.unusedVariables false
set_option maxRecDepth 100000
set_option linter.unusedSimpArgs false
/-- a flash's block -/
def FlB (w : World) (f mb : Nat) (N : Int) (on : Bool) (cut : Int) (dn : Bool) (wr : Int) : Prop :=
  Blk w f 68 [.int .i64 N, .map (some mb), .bool on, .int .i64 cut, .bool dn, .int .i64 wr]
section
variable {w : World} {f mb : Nat} {N cut wr : Int} {on dn : Bool}
theorem FlB.c0 (h : FlB w f mb N on cut dn wr) : w.cell? ⟨f, 0, none⟩ = some (.int .i64 N) := Blk.cell h 0
theorem FlB.c1 (h : FlB w f mb N on cut dn wr) : w.cell? ⟨f, 1, none⟩ = some (.map (some mb)) := Blk.cell h 1
theorem FlB.c2 (h : FlB w f mb N on cut dn wr) : w.cell? ⟨f, 2, none⟩ = some (.bool on) := Blk.cell h 2
theorem FlB.c3 (h : FlB w f mb N on cut dn wr) : w.cell? ⟨f, 3, none⟩ = some (.int .i64 cut) := Blk.cell h 3
theorem FlB.c4 (h : FlB w f mb N on cut dn wr) : w.cell? ⟨f, 4, none⟩ = some (.bool dn) := Blk.cell h 4
theorem FlB.c5 (h : FlB w f mb N on cut dn wr) : w.cell? ⟨f, 5, none⟩ = some (.int .i64 wr) := Blk.cell h 5
theorem FlB.fr (h : FlB w f mb N on cut dn wr) (i : Nat) : w.frozen? ⟨f, i, none⟩ = false := Blk.free h i
end
set_option maxHeartbeats 400000 in
theorem has_yes (f mb : Nat) (N cut wr n : Int) (on dn : Bool) (w : World) (h : FlB w f mb N on cut dn wr) (h0 : 0 ≤ n) (h1 : n < N) :
    Calls Try.prog 27 #[.pointer (some ⟨f, 0, none⟩), .int .i64 n] w fun e w' => e = .returned (.bool true) ∧ w = w' := by
  have c0 := h.c0
  have t0 : decide (0 ≤ n) = true := by simpa using h0
  have t1 : decide (n < N) = true := by simpa using h1
  clear h
  go_enter Try.func27, Try.ntmps27
  go_wp2
  go_ret
  exact ⟨rfl, rfl⟩
set_option maxHeartbeats 400000 in
theorem has_no (f mb : Nat) (N cut wr n : Int) (on dn : Bool) (w : World) (h : FlB w f mb N on cut dn wr) (h0 : n < 0 ∨ N ≤ n) :
    Calls Try.prog 27 #[.pointer (some ⟨f, 0, none⟩), .int .i64 n] w fun e w' => e = .returned (.bool false) ∧ w = w' := by
  have c0 := h.c0
  by_cases q : n < 0
  · have t0 : decide (0 ≤ n) = false := by simpa using q
    clear h h0
    go_enter Try.func27, Try.ntmps27
    go_wp2
    go_ret
    exact ⟨rfl, rfl⟩
  · have t0 : decide (0 ≤ n) = true := by simpa using q
    have t1 : decide (n < N) = false := by simp; omega
    clear h h0
    go_enter Try.func27, Try.ntmps27
    go_wp2
    go_ret
    exact ⟨rfl, rfl⟩
theorem closed_nil (n : Int) (w : World) :
    Calls Try.prog 40 #[.pointer none, .int .i64 n] w fun e w' => e = .returned (.int .i64 1) ∧ w = w' := by
  go_enter Try.func40, Try.ntmps40
  go_wp2
  go_ret
  exact ⟨rfl, rfl⟩
/-- why a block is closed -/
def clE (on : Bool) (N n : Int) : Int := if on = false then 143 else if 0 ≤ n ∧ n < N then 0 else 141
set_option maxHeartbeats 400000 in
theorem closed_any (f mb : Nat) (N cut wr n : Int) (on dn : Bool) (w : World) (h : FlB w f mb N on cut dn wr) :
    Calls Try.prog 40 #[.pointer (some ⟨f, 0, none⟩), .int .i64 n] w fun e w' => e = .returned (.int .i64 (clE on N n)) ∧ w = w' := by
  have c2 := h.c2
  cases on
  · have e0 : clE false N n = 143 := by simp [clE]
    rw [e0]
    clear h e0
    go_enter Try.func40, Try.ntmps40
    go_wp2
    go_ret
    exact ⟨rfl, rfl⟩
  · by_cases q : 0 ≤ n ∧ n < N
    · have e0 : clE true N n = 0 := by simp [clE, q]
      rw [e0]
      have H := Lib.hid (has_yes f mb N cut wr n true dn w h q.1 q.2)
      clear h e0 q
      go_enter Try.func40, Try.ntmps40
      go_wp2_with (go_at_call 27; refine H.out.mono ?_; rintro e w' ⟨rfl, rfl⟩)
      go_ret
      exact ⟨rfl, rfl⟩
    · have e0 : clE true N n = 141 := by simp [clE, q]
      rw [e0]
      have H := Lib.hid (has_no f mb N cut wr n true dn w h (by omega))
      clear h e0 q
      go_enter Try.func40, Try.ntmps40
      go_wp2_with (go_at_call 27; refine H.out.mono ?_; rintro e w' ⟨rfl, rfl⟩)
      go_ret
      exact ⟨rfl, rfl⟩
theorem on_nil (w : World) : Calls Try.prog 12 #[.pointer none] w fun e w' => e = .returned (.bool false) ∧ w = w' := by
  go_enter Try.func12, Try.ntmps12
  go_wp2
  go_ret
  exact ⟨rfl, rfl⟩
theorem on_any (f mb : Nat) (N cut wr : Int) (on dn : Bool) (w : World) (h : FlB w f mb N on cut dn wr) :
    Calls Try.prog 12 #[.pointer (some ⟨f, 0, none⟩)] w fun e w' => e = .returned (.bool on) ∧ w = w' := by
  have c2 := h.c2
  clear h
  go_enter Try.func12, Try.ntmps12
  go_wp2
  go_ret
  exact ⟨rfl, rfl⟩
theorem size_nil (w : World) : Calls Try.prog 14 #[.pointer none] w fun e w' => e = .returned (.int .i64 0) ∧ w = w' := by
  go_enter Try.func14, Try.ntmps14
  go_wp2
  go_ret
  exact ⟨rfl, rfl⟩
theorem size_any (f mb : Nat) (N cut wr : Int) (on dn : Bool) (w : World) (h : FlB w f mb N on cut dn wr) :
    Calls Try.prog 14 #[.pointer (some ⟨f, 0, none⟩)] w fun e w' => e = .returned (.int .i64 N) ∧ w = w' := by
  have c0 := h.c0
  clear h
  go_enter Try.func14, Try.ntmps14
  go_wp2
  go_ret
  exact ⟨rfl, rfl⟩
theorem writes_nil (w : World) : Calls Try.prog 13 #[.pointer none] w fun e w' => e = .returned (.int .i64 0) ∧ w = w' := by
  go_enter Try.func13, Try.ntmps13
  go_wp2
  go_ret
  exact ⟨rfl, rfl⟩
theorem writes_any (f mb : Nat) (N cut wr : Int) (on dn : Bool) (w : World) (h : FlB w f mb N on cut dn wr) :
    Calls Try.prog 13 #[.pointer (some ⟨f, 0, none⟩)] w fun e w' => e = .returned (.int .i64 wr) ∧ w = w' := by
  have c5 := h.c5
  clear h
  go_enter Try.func13, Try.ntmps13
  go_wp2
  go_ret
  exact ⟨rfl, rfl⟩
theorem power_nil (w : World) : Calls Try.prog 24 #[.pointer none] w fun e w' => e = .returned (.tuple #[]) ∧ w = w' := by
  go_enter Try.func24, Try.ntmps24
  go_wp2
  refine ⟨rfl, .tuple #[], ?_, rfl, rfl⟩
  simp [results, Try.results24]
/-- the flash turns, nothing else -/
def TurnF (f mb : Nat) (N : Int) (on : Bool) (cut : Int) (dn : Bool) (wr : Int) (v : Value) (w : World) (e : Ending) (w' : World) : Prop :=
  e = .returned v ∧ FlB w' f mb N on cut dn wr ∧ w.grownBy w' (some f)
set_option maxHeartbeats 400000 in
theorem power_any (f mb : Nat) (N cut wr : Int) (on dn : Bool) (w : World) (h : FlB w f mb N on cut dn wr) :
    Calls Try.prog 24 #[.pointer (some ⟨f, 0, none⟩)] w (TurnF f mb N true 0 dn wr (.tuple #[]) w) := by
  have c2 := h.c2
  have c3 := h.c3
  have f2 := h.fr 2
  have f3 := h.fr 3
  have H := Lib.hid h
  clear h
  unfold TurnF
  go_enter Try.func24, Try.ntmps24
  go_wp2
  refine ⟨rfl, .tuple #[], ?_, rfl, ?_, ?_⟩
  · simp [results, Try.results24]
  · exact (Blk.set H.out 2 (.bool true)).set 3 (.int .i64 0)
  · exact grown_trans (grown_setCell w ⟨f, 2, none⟩ _) (grown_setCell _ ⟨f, 3, none⟩ _)
theorem cut_nil (n : Int) (d : Bool) (w : World) : Calls Try.prog 20 #[.pointer none, .int .i64 n, .bool d] w fun e w' => e = .returned (.int .i64 1) ∧ w = w' := by
  go_enter Try.func20, Try.ntmps20
  go_wp2
  go_ret
  exact ⟨rfl, rfl⟩
set_option maxHeartbeats 400000 in
theorem cut_off (f mb : Nat) (N cut wr n : Int) (d dn : Bool) (w : World) (h : FlB w f mb N false cut dn wr) :
    Calls Try.prog 20 #[.pointer (some ⟨f, 0, none⟩), .int .i64 n, .bool d] w fun e w' => e = .returned (.int .i64 143) ∧ w = w' := by
  have c2 := h.c2
  clear h
  go_enter Try.func20, Try.ntmps20
  go_wp2
  go_ret
  exact ⟨rfl, rfl⟩
set_option maxHeartbeats 400000 in
theorem cut_neg (f mb : Nat) (N cut wr n : Int) (d dn : Bool) (w : World) (h : FlB w f mb N true cut dn wr) (hn : n < 0) :
    Calls Try.prog 20 #[.pointer (some ⟨f, 0, none⟩), .int .i64 n, .bool d] w fun e w' => e = .returned (.int .i64 1) ∧ w = w' := by
  have c2 := h.c2
  clear h
  go_enter Try.func20, Try.ntmps20
  go_wp2
  go_ret
  exact ⟨rfl, rfl⟩
set_option maxHeartbeats 400000 in
theorem cut_ok (f mb : Nat) (N cut wr n : Int) (d dn : Bool) (w : World) (h : FlB w f mb N true cut dn wr) (hn : 0 ≤ n) :
    Calls Try.prog 20 #[.pointer (some ⟨f, 0, none⟩), .int .i64 n, .bool d] w (TurnF f mb N true n d wr (.int .i64 0) w) := by
  have c2 := h.c2
  have c3 := h.c3
  have c4 := h.c4
  have f3 := h.fr 3
  have f4 := h.fr 4
  have H := Lib.hid h
  clear h
  unfold TurnF
  go_enter Try.func20, Try.ntmps20
  go_wp2
  go_ret
  refine ⟨rfl, ?_, ?_⟩
  · exact (Blk.set H.out 3 (.int .i64 n)).set 4 (.bool d)
  · exact grown_trans (grown_setCell w ⟨f, 3, none⟩ _) (grown_setCell _ ⟨f, 4, none⟩ _)
theorem fits_yes (a s l : Nat) (w : World) (h1 : a ≤ l) (h2 : s ≤ l - a) (hl : l < 18446744073709551616) :
    Calls Try.prog 43 #[.int .u64 (a : Nat), .int .u64 (s : Nat), .int .u64 (l : Nat)] w fun e w' => e = .returned (.bool true) ∧ w = w' := by
  have t1 : decide (a ≤ l) = true := by simpa using h1
  have t2 : decide ((s : Int) ≤ (l : Int) - (a : Int)) = true := by simp; omega
  have b1 : 0 ≤ (l : Int) - (a : Int) := by omega
  have b2 : (l : Int) - (a : Int) < 18446744073709551616 := by omega
  go_enter Try.func43, Try.ntmps43
  go_wp2
  go_ret
  exact ⟨rfl, rfl⟩
theorem fits_no (a s l : Nat) (w : World) (h : l < a ∨ l - a < s) (hl : l < 18446744073709551616) :
    Calls Try.prog 43 #[.int .u64 (a : Nat), .int .u64 (s : Nat), .int .u64 (l : Nat)] w fun e w' => e = .returned (.bool false) ∧ w = w' := by
  by_cases q : l < a
  · have t1 : decide (a ≤ l) = false := by simpa using q
    clear h
    go_enter Try.func43, Try.ntmps43
    go_wp2
    go_ret
    exact ⟨rfl, rfl⟩
  · have t1 : decide (a ≤ l) = true := by simpa using q
    have t2 : decide ((s : Int) ≤ (l : Int) - (a : Int)) = false := by simp; omega
    have b1 : 0 ≤ (l : Int) - (a : Int) := by omega
    have b2 : (l : Int) - (a : Int) < 18446744073709551616 := by omega
    clear h
    go_enter Try.func43, Try.ntmps43
    go_wp2
    go_ret
    exact ⟨rfl, rfl⟩
theorem spend_none (f mb : Nat) (N wr : Int) (on dn : Bool) (w : World) (h : FlB w f mb N on 0 dn wr) :
    Calls Try.prog 41 #[.pointer (some ⟨f, 0, none⟩)] w fun e w' => e = .returned (.bool false) ∧ w = w' := by
  have c3 := h.c3
  clear h
  go_enter Try.func41, Try.ntmps41
  go_wp2
  go_ret
  exact ⟨rfl, rfl⟩
set_option maxHeartbeats 400000 in
theorem spend_one (f mb : Nat) (N cut wr : Int) (on dn : Bool) (w : World) (h : FlB w f mb N on cut dn wr) (h0 : 1 ≤ cut) (h1 : cut ≤ 9223372036854775807) (b : Bool) (hb : (cut - 1 == 0) = b) :
    Calls Try.prog 41 #[.pointer (some ⟨f, 0, none⟩)] w (TurnF f mb N on (cut - 1) dn wr (.bool b) w) := by
  have c3 := h.c3
  have f3 := h.fr 3
  have t3 : (cut == 0) = false := by simp; omega
  have H := Lib.hid h
  clear h
  unfold TurnF
  go_enter Try.func41, Try.ntmps41
  go_wp2
  go_ret
  refine ⟨rfl, ?_, ?_⟩
  · exact Blk.set H.out 3 (.int .i64 (cut - 1))
  · exact grown_setCell w ⟨f, 3, none⟩ _
end Go.Proofs.Ytlgpaglkhgomiaa
