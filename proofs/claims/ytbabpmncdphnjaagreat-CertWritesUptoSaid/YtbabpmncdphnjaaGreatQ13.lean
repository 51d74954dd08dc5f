/- Parts of proofs of statements, each text behind those that it stands on. No condition of its own. -/
import Derived.Test.YtbabpmncdphnjaaGreatQ06
import Derived.Test.YtbabpmncdphnjaaGreatQ08
namespace Go.Proofs.YtbabpmncdphnjaaGreat
open Go.RowKit
set_option linter.unusedVariables false
set_option maxRecDepth 100000
def bitsL (t : Nat) (b : List Nat) (k : Tr) : List Nat := if t = 3 ∧ k.len = 0 ∧ b.length ≠ 0 ∧ b.getD 0 0 = 0 then b.drop 1 else []
def bitsC (t : Nat) (b : List Nat) (k : Tr) : Nat := if t ≠ 3 then 123 else if k.len = 0 ∧ b.length ≠ 0 ∧ b.getD 0 0 = 0 then 0 else 127
theorem bits_good {t : Nat} {b : List Nat} {k : Tr} (h : t = 3 ∧ k.len = 0 ∧ b.length ≠ 0 ∧ b.getD 0 0 = 0) : bitsL t b k = b.drop 1 ∧ bitsC t b k = 0 := by
  obtain ⟨rfl, h2⟩ := h
  refine ⟨?_, ?_⟩
  · unfold bitsL; rw [if_pos ⟨rfl, h2⟩]
  · unfold bitsC; rw [if_neg (by simp), if_pos h2]
theorem bits_tag {t : Nat} {b : List Nat} {k : Tr} (h : t ≠ 3) : bitsL t b k = [] ∧ bitsC t b k = 123 := by
  refine ⟨?_, ?_⟩
  · unfold bitsL; rw [if_neg (fun hh => h hh.1)]
  · unfold bitsC; rw [if_pos h]
theorem bits_bad {b : List Nat} {k : Tr} (h : ¬ (k.len = 0 ∧ b.length ≠ 0 ∧ b.getD 0 0 = 0)) : bitsL 3 b k = [] ∧ bitsC 3 b k = 127 := by
  refine ⟨?_, ?_⟩
  · unfold bitsL; rw [if_neg (fun hh => h hh.2)]
  · unfold bitsC; rw [if_neg (by simp), if_neg h]
def BitsIs (l : List Nat) (x : Nat) (w : World) (e : Ending) (w' : World) : Prop := ∃ a c, e = .returned (.tuple #[.slice a l.length c, .int .i64 (x : Nat)]) ∧ BIn w' a l.length c l ∧ Below w.heap.size w w'
theorem BitsIs.nil {l : List Nat} {x y : Nat} (h : l = [] ∧ x = y) (w : World) : ∀ w', Below w.heap.size w w' → BitsIs l x w (.returned (.tuple #[.slice none 0 0, .int .i64 (y : Nat)])) w' := by
  obtain ⟨rfl, rfl⟩ := h
  intro w' hb
  exact ⟨none, 0, rfl, bin_empty _ _ _ (by simp [maxLen]) (fun _ => rfl), hb⟩
theorem BitsIs.of {l l' : List Nat} {x y n : Nat} (h : l = l' ∧ x = y) {w w' : World} (hb : Below w.heap.size w w') {v : Value} {base : Nat} (hn : l'.length = n) (hl : n ≤ 140737488355328) (h8 : ∀ z ∈ l', z < 256) (ho : w'.ownsRow base 5 1 v n (bytesV l')) :
    BitsIs l x w (.returned (.tuple #[v, .int .i64 (y : Nat)])) w' := by
  obtain ⟨rfl, rfl⟩ := h
  obtain ⟨a, c, rfl, hin, _⟩ := own_in ho h8 hl
  subst hn
  exact ⟨a, c, rfl, hin, hb⟩
set_option maxRecDepth 100000 in
set_option maxHeartbeats 4000000 in
theorem Bits_any (w : World) (t : Nat) (b : List Nat) (k : Tr) (a : Option Addr) (c : Nat) (a' : Option Addr) (c' : Nat) (hin : ItIn w t a c a' c' b k) :
    Calls Tryz.prog 70 #[itV t a b.length c a' k.len c'] w (BitsIs (bitsL t b k) (bitsC t b k) w) := by
  obtain ⟨ht, hb, hk⟩ := hin
  have h0 : ∀ o, Below w.heap.size w (w.alloc o) := fun o => (Below.refl _ w).alloc (Nat.le_refl _) o
  have hs0 : ∀ o, w.heap.size ≤ (w.alloc o).heap.size := fun o => by simp
  by_cases h3 : t = 3
  · subst h3
    by_cases hkl : k.len = 0
    · rw [hkl]
      by_cases hbl : b.length = 0
      · have HX := Lib.hid (BitsIs.nil (bits_bad (b := b) (k := k) (fun h => h.2.1 hbl)) w)
        rw [hbl]
        clear hb hk
        go_enter Tryz.func70, Tryz.ntmps70
        go_wp2_with (go_at_call 100; refine (bodyOf_ok 3 _ _ _ _ _ _).mono ?_; rintro e w1 ⟨rfl, hb1⟩)
        go_ret2
        exact HX.out _ ((h0 _).trans (hb1.mono (hs0 _)))
      · obtain ⟨B, o, rfl, hc⟩ := hb.1.2.2.2.resolve_left hbl
        have c0 := hc 0 (by omega)
        rw [Nat.add_zero] at c0
        have hbl2 : 0 < b.length := by omega
        by_cases hx : b.getD 0 0 = 0
        · have HG := Lib.hid (bits_good (t := 3) (b := b) (k := k) ⟨rfl, hkl, hbl, hx⟩)
          have hn1 := eqzI hbl
          rw [hx] at c0
          have hc1 : ∀ wx, Below w.heap.size w wx → wx.cell? ⟨B, o, none⟩ = some (.int .u8 0) := fun wx h => (h.cell (World.block_lt_of_cell? w _ c0)).trans c0
          have HC1 := Lib.hid hc1
          have h8 : ∀ z ∈ b.drop 1, z < 256 := fun z hz => hb.1.2.2.1 z (List.mem_of_mem_drop hz)
          have H8 := Lib.hid h8
          have hnn := hb.2.2.2.1
          have hdl : (b.drop 1).length = b.length - 1 := by simp
          have HDL := Lib.hid hdl
          have HDR := Lib.hid (fun (A : Option Addr) (hA : A = some ⟨B, o, none⟩ ∧ b.length - 1 = 0 ∨ A = some ⟨B, o + 1, none⟩) (cc : Nat) (hcc : cc = c - 1) (wx : World) (h : Below w.heap.size w wx) => (by rw [hcc]; exact (bin_drop hb (f := 1) (by omega) (by omega) A hA).below h : BIn wx A (b.length - 1) cc (b.drop 1)))
          have hcn := hb.2.1
          have HNN := Lib.hid hnn
          clear hb hk hc hc1 c0 hx h8 hdl hnn
          generalize b.drop 1 = d at *
          generalize b.length = bn at *
          go_enter Tryz.func70, Tryz.ntmps70
          by_cases hc1 : c = 1
          · subst hc1
            obtain rfl : bn = 1 := by omega
            go_wp2_with (first | (go_at_call 100; refine (bodyOf_ok 3 _ _ _ _ _ _).mono ?_; rintro e w1 ⟨rfl, hb1⟩; have hbw := Lib.hid ((h0 _).trans (hb1.mono (hs0 _))); have c1 := HC1.out w1 hbw.out) | (go_at_call 95; go_loud (have hcl := clone_any (some ⟨B, o, none⟩) 0 0 d w1 (HDR.out _ (.inl ⟨rfl, by first | trivial | rfl⟩) _ (by first | trivial | rfl) _ hbw.out); refine hcl.mono ?_); rintro e w2 ⟨v, rfl, hown, hb2⟩))
            go_ret2
            rw [HDL.out] at hown
            exact BitsIs.of HG.out (hbw.out.trans (hb2.mono hbw.out.size)) HDL.out (by have := HNN.out; omega) H8.out hown
          · go_wp2_with (first | (go_at_call 100; refine (bodyOf_ok 3 _ _ _ _ _ _).mono ?_; rintro e w1 ⟨rfl, hb1⟩; have hbw := Lib.hid ((h0 _).trans (hb1.mono (hs0 _))); have c1 := HC1.out w1 hbw.out) | (go_at_call 95; have hcl := clone_any (some ⟨B, o + 1, none⟩) (bn - 1) (c - 1) d w1 (HDR.out _ (.inr rfl) _ rfl _ hbw.out); refine hcl.mono ?_; rintro e w2 ⟨v, rfl, hown, hb2⟩))
            go_ret2
            rw [HDL.out] at hown
            exact BitsIs.of HG.out (hbw.out.trans (hb2.mono hbw.out.size)) HDL.out (by have := HNN.out; omega) H8.out hown
        · have HX := Lib.hid (BitsIs.nil (bits_bad (b := b) (k := k) (fun h => hx h.2.2)) w)
          have hx1 := nzI hx
          have hn1 := eqzI hbl
          have hxi : ¬ ((b.getD 0 0 : Nat) : Int) = 0 := by omega
          have hc1 : ∀ wx, Below w.heap.size w wx → wx.cell? ⟨B, o, none⟩ = some (.int .u8 (b.getD 0 0 : Nat)) := fun wx h => (h.cell (World.block_lt_of_cell? w _ c0)).trans c0
          have HC1 := Lib.hid hc1
          generalize b.getD 0 0 = x at *
          clear hb hk hc hc1 c0
          generalize b.length = bn at *
          go_enter Tryz.func70, Tryz.ntmps70
          go_wp2_with (go_at_call 100; refine (bodyOf_ok 3 _ _ _ _ _ _).mono ?_; rintro e w1 ⟨rfl, hb1⟩; have hbw := Lib.hid ((h0 _).trans (hb1.mono (hs0 _))); have c1 := HC1.out w1 hbw.out)
          go_ret2
          exact HX.out _ hbw.out
    · have hx : 0 < k.len := by omega
      have HX := Lib.hid (BitsIs.nil (bits_bad (b := b) (k := k) (fun h => hkl h.1)) w)
      clear hb hk
      generalize k.len = kn at *
      go_enter Tryz.func70, Tryz.ntmps70
      go_wp2_with (go_at_call 100; refine (bodyOf_kids 3 _ _ _ _ _ _ hx _).mono ?_; rintro e w1 ⟨rfl, hb1⟩)
      go_ret2
      exact HX.out _ ((h0 _).trans (hb1.mono (hs0 _)))
  · have HX := Lib.hid (BitsIs.nil (bits_tag (b := b) (k := k) h3) w)
    clear hb hk
    go_enter Tryz.func70, Tryz.ntmps70
    go_wp2_with (go_at_call 100; refine (bodyOf_tag t _ _ _ _ _ _ _ (by omega) _).mono ?_; rintro e w1 ⟨rfl, hb1⟩)
    go_ret2
    exact HX.out _ ((h0 _).trans (hb1.mono (hs0 _)))
end Go.Proofs.YtbabpmncdphnjaaGreat
