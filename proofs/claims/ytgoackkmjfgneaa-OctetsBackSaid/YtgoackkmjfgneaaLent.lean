/- The statements' own helpers: a list in new memory with marks behind it; whether list and marks are as they were. -/
import Derived.Test.YtgoackkmjfgneaaCut
namespace Go.Proofs.Ytgoackkmjfgneaa
open Go.RowKit
set_option linter.unusedVariables false

/-- A row of the call's own with the two marks behind it. -/
def Lent (w : World) (base g n c : Nat) (l : List Nat) : Prop := w.ownsRow base 5 1 (.slice (some ⟨g, 0, none⟩) (n + 2) c) (n + 2) (bytesV (l ++ [170, 85]))
theorem Lent.below {w w' : World} {base g n c : Nat} {l : List Nat} (h : Lent w base g n c l) (hb : Below w.heap.size w w') : Lent w' base g n c l := own_below h hb
theorem Lent.cap {w : World} {base g n c : Nat} {l : List Nat} (h : Lent w base g n c l) : n + 2 ≤ c ∧ c ≤ maxLen := by
  rcases h.2 with ⟨_, h0⟩ | ⟨g', cap, cur, h1, _, _, h2, h3, _⟩
  · omega
  · injection h1 with _ _ h1; subst h1; exact ⟨h2, h3⟩
theorem Lent.row {w : World} {base g n c : Nat} {l : List Nat} (h : Lent w base g n c l) (hl : ∀ x ∈ l, x < 256) (hn : n ≤ 140737488355328) (hln : l.length = n) : BIn w (some ⟨g, 0, none⟩) n c l := by
  have hc := h.cap
  refine ⟨⟨hln, by omega, hl, .inr ⟨g, 0, rfl, fun i hi => ?_⟩⟩, by omega, hc.2, hn, fun h => by cases h⟩
  rw [(own_cells h).2 i (by omega)]
  congr 3
  simp only [List.getD_eq_getElem?_getD]
  rw [List.getElem?_append_left (by omega)]
theorem Lent.marks {w : World} {base g n c : Nat} {l : List Nat} (h : Lent w base g n c l) (hln : l.length = n) : w.cell? ⟨g, n, none⟩ = some (.int .u8 170) ∧ w.cell? ⟨g, n + 1, none⟩ = some (.int .u8 85) := by
  have h1 := (own_cells h).2 n (by omega)
  have h2 := (own_cells h).2 (n + 1) (by omega)
  rw [Nat.zero_add] at h1 h2
  rw [h1, h2]
  subst hln
  simp only [List.getD_eq_getElem?_getD]
  rw [List.getElem?_append_right (by omega), List.getElem?_append_right (by omega)]
  simp

def LentIs (n : Nat) (l : List Nat) (w : World) (e : Ending) (w' : World) : Prop := ∃ g c, e = .returned (.slice (some ⟨g, 0, none⟩) n c) ∧ Lent w' w.heap.size g n c l ∧ Below w.heap.size w w'

theorem bytesV_two (l : List Nat) : bytesV l ++ [.int .u8 170, .int .u8 85] = bytesV (l ++ [170, 85]) := by simp [bytesV]

set_option maxHeartbeats 400000 in
theorem lent10 (a : Option Addr) (n c : Nat) (l : List Nat) (w : World) (hb : BIn w a n c l) (hn : n ≤ 140737488355326) : Calls Try.prog 10 #[.slice a n c] w (LentIs n l w) := by
  have HB := Lib.hid hb
  obtain ⟨i0, hi, hz0, hz1, hz2⟩ := info_parts info5
  clear hb
  go_enter Try.func10, Try.ntmps10
  go_wp2_with (at_builtin; refine wpList_append_bytes _ rfl (.tmp 4) (.tmp 5) rfl w.heap.size _ 0 [] rfl (zero_row w) a n c l rfl (HB.out.below ((Below.refl _ _).alloc (Nat.le_refl _) _)) (by omega) (by simp) ?_)
  intro v1 w1 hown hg1
  have hb1 : Below w.heap.size w w1 := ((Below.refl _ _).alloc (Nat.le_refl _) _).grown hg1 (by simp) (by simp [Value.ownBlock])
  clear hg1
  go_wp2_with (at_builtin; refine wpList_append_own _ rfl (.tmp 7) (.tmp 8) 22 rfl w.heap.size 5 i0 (.int .u8 0) 1 1 Try.underlying22 hi hz0 hz1 hz2 rfl (by decide) _ n _ rfl (hown.alloc _) ⟨w1.heap.size, 0, none⟩ 2 2 [.int .u8 170, .int .u8 85] rfl rfl (cell_two_new _ _ _ _) (by simp [Value.oneCell']) (by unfold maxLen; omega) (by omega) (by have := hb1.size; simp; omega) ?_)
  intro v2 w2 hown2 hg2 _
  have hb2 : Below w.heap.size w w2 := (hb1.alloc hb1.size _).grown hg2 (by have := hb1.size; simp; omega) (fun j hj => (hown.lt j hj).1)
  rw [bytesV_two] at hown2
  obtain ⟨g, cc, rfl, hcap, hmax⟩ : ∃ g cc, v2 = .slice (some ⟨g, 0, none⟩) (n + 2) cc ∧ n + 2 ≤ cc ∧ cc ≤ maxLen := by
    rcases hown2.2 with ⟨_, h0⟩ | ⟨g, cap, cur, h1, _, _, h2, h3, _⟩
    · omega
    · exact ⟨g, cap, h1, h2, h3⟩
  have HO := Lib.hid hown2
  unfold maxLen at hmax
  clear hown2 hg2 hown
  go_wp2_with fail
  go_ret
  exact ⟨g, cc, rfl, HO.out, hb2⟩

set_option maxHeartbeats 400000 in
theorem kept16 (base g n c : Nat) (b : Option Addr) (cb : Nat) (l : List Nat) (w : World) (hL : Lent w base g n c l) (hb : BIn w b n cb l) (hn : n ≤ 140737488355326) :
    Calls Try.prog 16 #[.slice (some ⟨g, 0, none⟩) n c, .slice b n cb] w fun e w' => e = .returned (.bool true) ∧ Below w.heap.size w w' := by
  have HL := Lib.hid hL
  have HB := Lib.hid hb
  have HR := Lib.hid (hL.row hb.1.2.2.1 (by omega) hb.1.1)
  have hc := hL.cap
  have HLN := Lib.hid hb.1.1
  unfold maxLen at hc
  clear hL hb
  go_enter Try.func16, Try.ntmps16
  go_wp2_with fail
  refine (same15 _ b n c cb l w HR.out.1 HB.out.1).mono ?_
  rintro e w1 ⟨rfl, hb1⟩
  have hm := (HL.out.below hb1).marks HLN.out
  go_wp2_with fail
  go_ret
  exact ⟨rfl, hb1⟩
end Go.Proofs.Ytgoackkmjfgneaa
