/- The closure that gives a seed's bytes is made. Condition: the table of constants. -/
import Derived.Test.YtlbfnmmankoddaaDoorSr
namespace Go.Proofs.YtlbfnmmankoddaaDoor
open Go.RowKit
set_option linter.unusedVariables false
set_option linter.unusedSimpArgs false
/-- the closure as a value -/
abbrev nxF (g5 g9 g7 : Nat) : Value := .func (.func 29) #[] #[.pointer (some ⟨g5, 0, none⟩), .pointer (some ⟨g9, 0, none⟩), .pointer (some ⟨g7, 0, none⟩)]
def MadeSrc (own : Nat → Prop) (k : Nat) (L : List Nat) (most : Nat) (w : World) (e : Ending) (w' : World) : Prop :=
  ∃ g5 g9 g7 gS, e = .returned (nxF g5 g9 g7) ∧ w.heap.size ≤ g5 ∧ w.heap.size ≤ g9 ∧ w.heap.size ≤ g7 ∧ w.heap.size ≤ gS ∧ Src own k L most g5 g9 g7 gS w' 0 ∧ Below w.heap.size w w'
set_option maxHeartbeats 1600000 in
theorem bytesOf_any (own : Nat → Prop) (k : Nat) (hk : k = 4 ∨ k = 5) (most : Nat) (hmost : most ≤ 100000) (A : Option Addr) (n cp : Nat) (L : List Nat) (w : World) (hb : BIn w A n cp L) (htab : Tabs w) (hown : ∀ g, own g → g < w.heap.size) :
    Calls Tryd.prog 15 #[.int .i64 (k : Nat), .slice A n cp, .int .i64 (most : Nat)] w (MadeSrc own k L most w) := by
  have hkk : IsKind k := by rcases hk with rfl | rfl <;> simp [IsKind]
  have hsz : sizeK k = -1 := by rcases hk with rfl | rfl <;> rfl
  have B5 := Lib.hid (Blk.new w 3 [.int .i64 (most : Nat)])
  have BEL := Lib.hid ((Below.refl w.heap.size w).alloc (Nat.le_refl _) (.cells #[.int .i64 (most : Nat)] 3))
  have HT := Lib.hid (htab.below BEL.out)
  have HN := Lib.hid (new_any k hkk _ HT.out)
  have HSZ := Lib.hid hsz
  have HB := Lib.hid hb
  have HBB := Lib.hid (bin_block hb)
  have HO := Lib.hid hown
  have h1s := htab.size
  clear hb htab hk hkk hsz hown
  go_enter Tryd.func15, Tryd.ntmps15
  go_wp2_with fail
  refine HN.out.mono ?_
  rintro e w1 ⟨gS, rfl, hgS, sp, hb1⟩
  rw [HSZ.out] at sp
  rw [show (w.alloc (.cells #[.int .i64 (most : Nat)] 3)).heap.size = w.heap.size + 1 by simp] at hgS
  have bel1 := BEL.out.trans (hb1.mono BEL.out.size)
  have C5 := Lib.hid (B5.out.below' hb1)
  have hs1 := hb1.size
  rw [show (w.alloc (.cells #[.int .i64 (most : Nat)] 3)).heap.size = w.heap.size + 1 by simp] at hs1
  have lS := sp.2.2.2.2.lt
  have B7 := Lib.hid (Blk.new w1 55 [.pointer (some ⟨gS, 0, none⟩)])
  have bel2 := bel1.alloc bel1.size (.cells #[.pointer (some ⟨gS, 0, none⟩)] 55)
  have HTB := Lib.hid ((HT.out.below hb1).below ((Below.refl _ _).alloc (Nat.le_refl _) (.cells #[.pointer (some ⟨gS, 0, none⟩)] 55)))
  have HWR := Lib.hid (write_any gS k 0 (-1) (zeros 25) A n cp L (w1.alloc (.cells #[.pointer (some ⟨gS, 0, none⟩)] 55)) ⟨sp.1, sp.2.1, sp.2.2.1, sp.2.2.2.1, sp.2.2.2.2.alloc _⟩ (HB.out.below bel2) (fun b hb hm e => by have := HBB.out b hb hm; omega) HTB.out)
  have C5b := Lib.hid (C5.out.alloc (.cells #[.pointer (some ⟨gS, 0, none⟩)] 55))
  clear hb1 C5 B5 BEL HT HN sp
  go_wp2_with fail
  refine HWR.out.mono ?_
  rintro e w3 ⟨rfl, sp3, hgr⟩
  have hs3 := hgr.size
  rw [show (w1.alloc (.cells #[.pointer (some ⟨gS, 0, none⟩)] 55)).heap.size = w1.heap.size + 1 by simp] at hs3
  have D5 := Lib.hid (C5b.out.grown hgr (by simp; omega))
  have D7 := Lib.hid (B7.out.grown hgr (by simp; omega))
  have bel3 := bel2.grown hgr (by have := bel2.size; omega) (fun j hj => by injection hj with hj; omega)
  have HT3 := Lib.hid (HTB.out.grown hgr (by have := sp3.2.2.2.1; omega))
  have SP := Lib.hid sp3
  clear hgr sp3 HWR HTB C5b B7 bel2 bel1
  go_wp2_with fail
  go_ret
  have Z9 := Blk.new w3 22 [.slice none 0 0]
  have sp := SP.out
  have hO := HO.out
  refine ⟨w.heap.size, w3.heap.size, w1.heap.size, gS, rfl, Nat.le_refl _, by omega, by omega, by omega, ?_, bel3.alloc bel3.size _⟩
  refine ⟨⟨Nat.zero_le _, hmost⟩, by rw [Nat.sub_zero]; exact D5.out.alloc _, D7.out.alloc _, HT3.out.below ((Below.refl _ _).alloc (Nat.le_refl _) _), ⟨by omega, by omega, by omega, by omega, by omega, by omega, by omega, by omega, by omega, ?_, ?_, ?_, ?_⟩, 0, (absL (rateK k) (zeros 25, 0) L).2, false, (absL (rateK k) (zeros 25, 0) L).1, none, 0, ⟨sp.1, sp.2.1, sp.2.2.1, sp.2.2.2.1, sp.2.2.2.2.alloc _⟩, rfl, by omega, by omega, Z9, .inl rfl⟩
  all_goals exact fun h => by have := hO _ h; omega
end Go.Proofs.YtlbfnmmankoddaaDoor
