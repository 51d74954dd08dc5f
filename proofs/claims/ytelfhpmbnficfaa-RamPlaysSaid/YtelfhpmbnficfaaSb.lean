/- The document's comparison of two lists of bytes. No condition. -/
import Derived.Test.YtelfhpmbnficfaaBb
namespace Go.Proofs.Ytelfhpmbnficfaa
open Go.RowKit
set_option linter.unusedVariables false
set_option maxRecDepth 100000

theorem take_eq_all {b b2 : List Nat} (hl : b.length = b2.length) (k : Nat) (hk : b.length ≤ k) (h : b.take k = b2.take k) : b = b2 := by
  rwa [List.take_of_length_le hk, List.take_of_length_le (by omega)] at h
theorem int_ne {x y : Nat} (h : x ≠ y) : ((x : Int) != (y : Int)) = true := by simp; omega
theorem take_ne {b b2 : List Nat} (k : Nat) (h1 : k < b.length) (h2 : k < b2.length) (h : b.getD k 0 ≠ b2.getD k 0) : b ≠ b2 := fun e => h (by rw [e])

set_option maxRecDepth 100000 in
set_option maxHeartbeats 4000000 in
theorem sameB_any (w : World) (a a' : Option Addr) (n c n' c' : Nat) (b b' : List Nat) (hb : BIn w a n c b) (hb' : BIn w a' n' c' b') :
    Calls Try.prog 11 #[.slice a n c, .slice a' n' c'] w fun e w' => e = .returned (.bool (decide (b = b'))) ∧ Below w.heap.size w w' := by
  have hn := hb.1.1
  have hn' := hb'.1.1
  by_cases hl : n = n'
  · subst hl
    have hm : n ≤ maxLen := hb.1.2.1
    unfold maxLen at hm
    have HA := Lib.hid hb
    have HB := Lib.hid hb'
    clear hb hb'
    go_enter Try.func11, Try.ntmps11
    go_wp2
    go_loopw [5] (fun i wr => ∃ k : Nat, k ≤ n ∧ i = .int .i64 k ∧ b.take k = b'.take k ∧ Below w.heap.size w wr) (fun i _ => n - (intOf i).toNat)
    case atStart => exact ⟨0, Nat.zero_le _, rfl, rfl, Below.refl _ _⟩
    case round =>
      obtain ⟨k, hk, rfl, htk, hbel⟩ := hrel
      have HT := Lib.hid htk
      clear htk
      by_cases hkn : k < n
      · obtain ⟨b1, o1, rfl, hc1⟩ := HA.out.1.2.2.2.resolve_left (by omega)
        obtain ⟨b2, o2, rfl, hc2⟩ := HB.out.1.2.2.2.resolve_left (by omega)
        have g1 := hc1 k hkn
        have g2 := hc2 k hkn
        have e1 : wr.cell? ⟨b1, o1 + k, none⟩ = some (.int .u8 (b.getD k 0 : Nat)) := (hbel.cell (World.block_lt_of_cell? w _ g1)).trans g1
        have e2 : wr.cell? ⟨b2, o2 + k, none⟩ = some (.int .u8 (b'.getD k 0 : Nat)) := (hbel.cell (World.block_lt_of_cell? w _ g2)).trans g2
        clear hc1 hc2 g1 g2
        have hki : (k : Int) < (n : Int) := by omega
        have hs1 := take_snoc b k (by omega)
        have hs2 := take_snoc b' k (by omega)
        have HS1 := Lib.hid hs1
        have HS2 := Lib.hid hs2
        clear hs1 hs2
        by_cases hxy : b.getD k 0 = b'.getD k 0
        · rw [hxy] at e1 HS1
          generalize b'.getD k 0 = x at *
          go_wp2_with fail
          go_quiet (fail)
          have hbel2 : Below w.heap.size w (wr.drewN nq) := below_drewN hbel nq
          go_wp2
          go_roundw
          case rel => exact ⟨k + 1, by omega, by go_num, by rw [HS1.out, HS2.out, HT.out], hbel2⟩
          case measure => simp [intOf]; omega
        · have hne := Lib.hid (take_ne k (by omega) (by omega) hxy)
          have hb1 : (((b.getD k 0 : Nat) : Int) != ((b'.getD k 0 : Nat) : Int)) = true := int_ne hxy
          generalize b.getD k 0 = x at *
          generalize b'.getD k 0 = y at *
          go_wp2_with fail
          go_quiet (fail)
          have hbel2 : Below w.heap.size w (wr.drewN nq) := below_drewN hbel nq
          go_wp2
          go_ret
          exact ⟨by rw [decide_eq_false hne.out]; rfl, hbel2⟩
      · have hki : ¬ (k : Int) < (n : Int) := by omega
        go_wp2
        go_ret
        exact ⟨by rw [decide_eq_true (take_eq_all (by omega) k (by omega) HT.out)]; rfl, hbel⟩
  · have hne : b ≠ b' := fun e => hl (by rw [← hn, ← hn', e])
    have hni : ((n : Int) != (n' : Int)) = true := int_ne hl
    have HNE := Lib.hid hne
    clear hb hb' hn hn' hne
    go_enter Try.func11, Try.ntmps11
    go_wp2
    go_ret
    exact ⟨by rw [decide_eq_false HNE.out]; rfl, Below.refl _ _⟩
end Go.Proofs.Ytelfhpmbnficfaa
