/- The laws' own two helpers: bytes of the caller's with a mark behind them; whether they are as they were. Condition: the list may grow by one. (Put the law's package for barbicanlaw03, the document's for barbicanref02.) -/
import Derived.Test.YtidnlaibfkjgpaaDoorSame
import Derived.Test.YtidnlaibfkjgpaaDoorMem
namespace Go.Proofs.YtidnlaibfkjgpaaDoor
open Go.RowKit
set_option linter.unusedVariables false
/-- what 'own' answers: a list of its own, a mark behind it -/
def OwnIs (l : List Nat) (w : World) (e : Ending) (w' : World) : Prop := ∃ G cap, e = .returned (.slice (some ⟨G, 0, none⟩) l.length cap) ∧ w'.ownsRow w.heap.size 5 1 (.slice (some ⟨G, 0, none⟩) (l.length + 1) cap) (l.length + 1) (bytesV (l ++ [77])) ∧ Below w.heap.size w w'
theorem bin_one (w : World) (y : Nat) (hy : y < 256) : BIn (w.alloc (.cells #[.int .u8 (y : Nat)] 5)) (some ⟨w.heap.size, 0, none⟩) 1 1 [y] := by
  refine ⟨⟨rfl, by unfold maxLen; omega, by simpa using hy, .inr ⟨w.heap.size, 0, rfl, ?_⟩⟩, Nat.le_refl _, by unfold maxLen; omega, by omega, fun h => by cases h⟩
  intro i hi
  obtain rfl : i = 0 := by omega
  simp
set_option maxHeartbeats 800000 in
theorem own_any (a : Option Addr) (n c : Nat) (l : List Nat) (w : World) (hb : BIn w a n c l) (hn : n ≤ 140737488351232) :
    Calls Tryd.prog 11 #[.slice a n c] w (OwnIs l w) := by
  have HB := Lib.hid (hb.below ((Below.refl _ _).alloc (Nat.le_refl _) (.cells #[] 5)))
  have HLN := Lib.hid hb.1.1
  have hc1 := hb.2.1
  have hc2 := hb.2.2.1
  unfold maxLen at hc2
  have HZ := Lib.hid (zero_row w)
  clear hb
  go_enter Tryd.func11, Tryd.ntmps11
  go_wp2_with (at_builtin; refine wpList_append_bytes _ rfl _ _ rfl w.heap.size (.slice (some ⟨w.heap.size, 0, none⟩) 0 0) 0 [] rfl HZ.out a n c l rfl HB.out ?c1 ?c2 ?_)
  case c1 => omega
  case c2 => simp
  intro v' w1 h1 h2
  have hb1 := ((Below.refl w.heap.size w).alloc (Nat.le_refl _) (.cells #[] 5)).grown h2 (by simp) (fun j hj => (HZ.out.lt j hj).1)
  have hsz := hb1.size
  have HO := Lib.hid (h1.alloc (.cells #[.int .u8 (77 : Nat)] 5))
  have HN := Lib.hid (bin_one w1 77 (by decide))
  have hbel := hb1.alloc hsz (.cells #[.int .u8 (77 : Nat)] 5)
  clear h1 h2 HB HZ hb1
  go_wp2_with (at_builtin; refine wpList_append_bytes _ rfl _ _ rfl w.heap.size v' n l rfl HO.out (some ⟨w1.heap.size, 0, none⟩) 1 1 [77] rfl HN.out ?d1 ?d2 ?_)
  case d1 => omega
  case d2 => simp; omega
  intro v2 w2 h1 h2
  have hb2 := hbel.grown h2 (by simp; omega) (fun j hj => (HO.out.lt j hj).1)
  clear HO HN hbel h2
  obtain ⟨G, cap, rfl, hcap⟩ : ∃ G cap, v2 = .slice (some ⟨G, 0, none⟩) (n + 1) cap ∧ n + 1 ≤ cap := by
    rcases h1.2 with ⟨he, h0⟩ | ⟨G, cap, cur, e1, e2, e3⟩
    · exact absurd h0 (by simp)
    · exact ⟨G, cap, e1, by omega⟩
  have HO2 := Lib.hid h1
  clear h1
  have hk : (n : Int) ≤ (cap : Int) := by omega
  go_wp2_with fail
  go_ret
  refine ⟨G, cap, by rw [HLN.out]; rfl, ?_, hb2⟩
  rw [HLN.out]; exact HO2.out
theorem bin_pre {w : World} {b off n c f : Nat} {l : List Nat} (h : BIn w (some ⟨b, off, none⟩) n c l) (hf : f ≤ n) (hn : 0 < n) : BIn w (some ⟨b, off, none⟩) f c (l.take f) := by
  obtain ⟨⟨h1, h2, h3, h4⟩, h5, h6, h7, h8⟩ := h
  obtain ⟨b', o', he, hc⟩ := h4.resolve_left (by omega)
  injection he with he
  injection he with e1 e2
  subst e1 e2
  refine ⟨⟨by simp; omega, by omega, fun x hx => h3 x (List.mem_of_mem_take hx), .inr ⟨b, off, rfl, fun i hi => ?_⟩⟩, by omega, by omega, by omega, fun h => by cases h⟩
  rw [hc i (by omega)]
  congr 3
  simp only [List.getD_eq_getElem?_getD, List.getElem?_take]
  rw [if_pos hi]
/-- the caller's own list leads to its bytes -/
theorem ownM_in {w : World} {base n G cap : Nat} {l : List Nat} (h : w.ownsRow base 5 1 (.slice (some ⟨G, 0, none⟩) (n + 1) cap) (n + 1) (bytesV (l ++ [77]))) (hl : ∀ x ∈ l, x < 256) (hn : l.length = n) (h47 : n + 1 ≤ 140737488355328) : BIn w (some ⟨G, 0, none⟩) n cap l := by
  obtain ⟨a', c', he, hb⟩ := own_in h (fun x hx => by rcases List.mem_append.1 hx with hx | hx; exact hl x hx; obtain rfl := List.mem_singleton.1 hx; decide) h47
  simp only [Value.slice.injEq] at he
  obtain ⟨rfl, _, rfl⟩ := he
  have := bin_pre hb.1 (show n ≤ n + 1 by omega) (by omega)
  rwa [List.take_append_of_le_length (by omega), List.take_of_length_le (by omega)] at this
set_option maxHeartbeats 800000 in
theorem still_any (base : Nat) (a : Option Addr) (n c G cap : Nat) (l : List Nat) (w : World) (hb : BIn w a n c l) (h47 : n + 1 ≤ 140737488355328) (ho : w.ownsRow base 5 1 (.slice (some ⟨G, 0, none⟩) (n + 1) cap) (n + 1) (bytesV (l ++ [77]))) :
    Calls Tryd.prog 15 #[.slice (some ⟨G, 0, none⟩) n cap, .slice a n c] w fun e w' => e = .returned (.bool true) ∧ Below w.heap.size w w' := by
  have hu := ownM_in ho hb.1.2.2.1 hb.1.1 h47
  have HS := Lib.hid (same_eq (some ⟨G, 0, none⟩) a n cap c l w hu.1 hb.1)
  have hcell := (own_cells ho).2 n (by omega)
  have hg : (l ++ [77]).getD n 0 = 77 := by have h := hb.1.1; subst h; simp [List.getD_eq_getElem?_getD]
  rw [Nat.zero_add, hg] at hcell
  clear hg
  obtain ⟨hcap, hcap2⟩ : n + 1 ≤ cap ∧ cap ≤ maxLen := by
    rcases ho.2 with ⟨h0, _⟩ | ⟨g, cp, cur, e1, e2, e3, e4, e5, _⟩
    · cases h0
    · simp only [Value.slice.injEq] at e1
      obtain ⟨_, _, rfl⟩ := e1
      exact ⟨by omega, by omega⟩
  have hc2 := hb.2.2.1
  have hc1 := hb.2.1
  unfold maxLen at hc2 hcap2
  clear hb ho hu
  go_enter Tryd.func15, Tryd.ntmps15
  go_wp2_with fail
  refine HS.out.mono ?_
  rintro e w1 ⟨rfl, hbel⟩
  have hc := (hbel.cell (World.block_lt_of_cell? w _ hcell)).trans hcell
  have i1 : (n : Int) + 1 ≤ (cap : Int) := by omega
  have i2 : (n : Int) < (n : Int) + 1 := by omega
  clear hcell HS
  go_wp2_with fail
  go_ret
  exact ⟨rfl, hbel⟩
end Go.Proofs.YtidnlaibfkjgpaaDoor
