/- Bools and their items, the project's and the document's. No condition. -/
import Derived.Test.YtbabpmncdphnjaaBd
import Derived.Test.YtbabpmncdphnjaaOw
import Derived.Test.YtbabpmncdphnjaaWr
namespace Go.Proofs.Ytbabpmncdphnjaa
open Go.RowKit
set_option linter.unusedVariables false
set_option maxRecDepth 100000

/-- a bool that is read, and the error -/
def boolC (t : Nat) (b : List Nat) (k : Tr) : Nat := if t ≠ 1 then 123 else if k.len = 0 ∧ (b = [0] ∨ b = [255]) then 0 else 127
def boolV (t : Nat) (b : List Nat) (k : Tr) : Bool := decide (t = 1 ∧ k.len = 0 ∧ b = [255])
def bb (v : Bool) : List Nat := if v then [255] else [0]
theorem bool_tag {t : Nat} {b : List Nat} {k : Tr} (h : t ≠ 1) : boolV t b k = false ∧ boolC t b k = 123 := ⟨by simp [boolV, h], by simp [boolC, h]⟩
theorem bool_bad {b : List Nat} {k : Tr} (h : ¬ (k.len = 0 ∧ (b = [0] ∨ b = [255]))) : boolV 1 b k = false ∧ boolC 1 b k = 127 := by
  refine ⟨?_, by simp only [boolC]; rw [if_neg (by simp), if_neg h]⟩
  unfold boolV
  exact decide_eq_false (fun ⟨_, h1, h2⟩ => h ⟨h1, .inr h2⟩)
theorem bool_good {k : Tr} (v : Bool) (h : k.len = 0) : boolV 1 (bb v) k = v ∧ boolC 1 (bb v) k = 0 := by
  cases v <;> simp [boolV, boolC, bb, h]
theorem bb_cases {b : List Nat} (h : b = [0] ∨ b = [255]) : ∃ v, b = bb v := by
  rcases h with rfl | rfl
  · exact ⟨false, rfl⟩
  · exact ⟨true, rfl⟩
/-- what is told of a bool -/
def BoolIs (v : Bool) (x : Nat) (w : World) (e : Ending) (w' : World) : Prop := e = .returned (.tuple #[.bool v, .int .i64 (x : Nat)]) ∧ Below w.heap.size w w'
theorem BoolIs.of {v u : Bool} {x y : Nat} (h : v = u ∧ x = y) {w : World} : ∀ w', Below w.heap.size w w' → BoolIs v x w (.returned (.tuple #[.bool u, .int .i64 (y : Nat)])) w' := by
  obtain ⟨rfl, rfl⟩ := h
  exact fun w' hb => ⟨rfl, hb⟩

set_option maxHeartbeats 4000000 in
theorem Bool_any (w : World) (t : Nat) (b : List Nat) (k : Tr) (a : Option Addr) (c : Nat) (a' : Option Addr) (c' : Nat) (hin : ItIn w t a c a' c' b k) :
    Calls Try.prog 20 #[itV t a b.length c a' k.len c'] w (BoolIs (boolV t b k) (boolC t b k) w) := by
  obtain ⟨ht, hb, hk⟩ := hin
  have h0 : ∀ o, Below w.heap.size w (w.alloc o) := fun o => (Below.refl _ w).alloc (Nat.le_refl _) o
  have hs0 : ∀ o, w.heap.size ≤ (w.alloc o).heap.size := fun o => by simp
  by_cases h3 : t = 1
  · subst h3
    by_cases hkl : k.len = 0
    · rw [hkl]
      by_cases hbl : b.length = 1
      · obtain ⟨x, rfl⟩ : ∃ x, b = [x] := List.length_eq_one_iff.1 hbl
        obtain ⟨B, o, rfl, hc⟩ := hb.1.2.2.2.resolve_left (by omega)
        have c0 := hc 0 (by omega)
        rw [Nat.add_zero, show ([x] : List Nat).getD 0 0 = x from rfl] at c0
        have hc1 : ∀ wx, Below w.heap.size w wx → wx.cell? ⟨B, o, none⟩ = some (.int .u8 (x : Nat)) := fun wx h => (h.cell (World.block_lt_of_cell? w _ c0)).trans c0
        have HC1 := Lib.hid hc1
        clear hb hk hc hc1 c0
        by_cases hx : x = 0
        · subst hx
          have HG := Lib.hid (bool_good (k := k) false hkl)
          go_enter Try.func20, Try.ntmps20
          go_wp2_with (go_at_call 57; refine (bodyOf_ok 1 _ _ _ _ _ _).mono ?_; rintro e w1 ⟨rfl, hb1⟩; have hbw := Lib.hid ((h0 _).trans (hb1.mono (hs0 _))); have c1 := HC1.out w1 hbw.out)
          go_ret2
          exact BoolIs.of HG.out _ hbw.out
        · by_cases hx2 : x = 255
          · subst hx2
            have HG := Lib.hid (bool_good (k := k) true hkl)
            go_enter Try.func20, Try.ntmps20
            go_wp2_with (go_at_call 57; refine (bodyOf_ok 1 _ _ _ _ _ _).mono ?_; rintro e w1 ⟨rfl, hb1⟩; have hbw := Lib.hid ((h0 _).trans (hb1.mono (hs0 _))); have c1 := HC1.out w1 hbw.out)
            go_ret2
            exact BoolIs.of HG.out _ hbw.out
          · have HG := Lib.hid (bool_bad (b := [x]) (k := k) (by simp [hx, hx2]))
            have q1 : ((x : Int) != 0) = true := by simp; exact hx
            have q2 : ((x : Int) != 255) = true := by simp; omega
            go_enter Try.func20, Try.ntmps20
            go_wp2_with (go_at_call 57; refine (bodyOf_ok 1 _ _ _ _ _ _).mono ?_; rintro e w1 ⟨rfl, hb1⟩; have hbw := Lib.hid ((h0 _).trans (hb1.mono (hs0 _))); have c1 := HC1.out w1 hbw.out)
            go_ret2
            exact BoolIs.of HG.out _ hbw.out
      · have HX := Lib.hid (bool_bad (b := b) (k := k) (fun h => hbl (by rcases h.2 with rfl | rfl <;> rfl)))
        have q1 : ((b.length : Int) != 1) = true := by simp; omega
        clear hb hk
        generalize b.length = bn at *
        go_enter Try.func20, Try.ntmps20
        go_wp2_with (go_at_call 57; refine (bodyOf_ok 1 _ _ _ _ _ _).mono ?_; rintro e w1 ⟨rfl, hb1⟩)
        go_ret2
        exact BoolIs.of HX.out _ ((h0 _).trans (hb1.mono (hs0 _)))
    · have hx : 0 < k.len := by omega
      have HX := Lib.hid (bool_bad (b := b) (k := k) (fun h => hkl h.1))
      clear hb hk
      generalize k.len = kn at *
      go_enter Try.func20, Try.ntmps20
      go_wp2_with (go_at_call 57; refine (bodyOf_kids 1 _ _ _ _ _ _ hx _).mono ?_; rintro e w1 ⟨rfl, hb1⟩)
      go_ret2
      exact BoolIs.of HX.out _ ((h0 _).trans (hb1.mono (hs0 _)))
  · have HX := Lib.hid (bool_tag (b := b) (k := k) h3)
    clear hb hk
    go_enter Try.func20, Try.ntmps20
    go_wp2_with (go_at_call 57; refine (bodyOf_tag t _ _ _ _ _ _ _ (by omega) _).mono ?_; rintro e w1 ⟨rfl, hb1⟩)
    go_ret2
    exact BoolIs.of HX.out _ ((h0 _).trans (hb1.mono (hs0 _)))

set_option maxHeartbeats 4000000 in
theorem refBool_any (w : World) (t : Nat) (b : List Nat) (k : Tr) (a : Option Addr) (c : Nat) (a' : Option Addr) (c' : Nat) (hin : ItIn w t a c a' c' b k) :
    Calls Try.prog 22 #[itV t a b.length c a' k.len c'] w (BoolIs (boolV t b k) (boolC t b k) w) := by
  obtain ⟨ht, hb, hk⟩ := hin
  have h0 : ∀ o, Below w.heap.size w (w.alloc o) := fun o => (Below.refl _ w).alloc (Nat.le_refl _) o
  by_cases h3 : t = 1
  · subst h3
    by_cases hbl : b.length = 1
    · obtain ⟨x, rfl⟩ : ∃ x, b = [x] := List.length_eq_one_iff.1 hbl
      by_cases hkl : k.len = 0
      · rw [hkl]
        obtain ⟨B, off, rfl, hc⟩ := hb.1.2.2.2.resolve_left (by omega)
        have c0 := hc 0 (by omega)
        rw [Nat.add_zero, show ([x] : List Nat).getD 0 0 = x from rfl] at c0
        have hc1 : ∀ wx, Below w.heap.size w wx → wx.cell? ⟨B, off, none⟩ = some (.int .u8 (x : Nat)) := fun wx h => (h.cell (World.block_lt_of_cell? w _ c0)).trans c0
        have c1 : ∀ o, (w.alloc o).cell? ⟨B, off, none⟩ = some (.int .u8 (x : Nat)) := fun o => hc1 _ (h0 o)
        clear hb hk hc hc1 c0
        by_cases hx : x = 0
        · subst hx
          have HG := Lib.hid (bool_good (k := k) false hkl)
          go_enter Try.func22, Try.ntmps22
          go_wp2
          go_ret2
          exact BoolIs.of HG.out _ (h0 _)
        · by_cases hx2 : x = 255
          · subst hx2
            have HG := Lib.hid (bool_good (k := k) true hkl)
            go_enter Try.func22, Try.ntmps22
            go_wp2
            go_ret2
            exact BoolIs.of HG.out _ (h0 _)
          · have HG := Lib.hid (bool_bad (b := [x]) (k := k) (by simp [hx, hx2]))
            have q1 : ((x : Int) != 0) = true := by simp; exact hx
            have q2 : ((x : Int) != 255) = true := by simp; omega
            go_enter Try.func22, Try.ntmps22
            go_wp2
            go_ret2
            exact BoolIs.of HG.out _ (h0 _)
      · have hx : (0 : Int) < (k.len : Int) := by omega
        have HX := Lib.hid (bool_bad (b := [x]) (k := k) (fun h => hkl h.1))
        clear hb hk
        generalize k.len = kn at *
        go_enter Try.func22, Try.ntmps22
        go_wp2
        go_ret2
        exact BoolIs.of HX.out _ (h0 _)
    · have HX := Lib.hid (bool_bad (b := b) (k := k) (fun h => hbl (by rcases h.2 with rfl | rfl <;> rfl)))
      have q1 : ((b.length : Int) != 1) = true := by simp; omega
      clear hb hk
      generalize b.length = bn at *
      generalize k.len = kn at *
      go_enter Try.func22, Try.ntmps22
      go_wp2
      go_ret2
      exact BoolIs.of HX.out _ (h0 _)
  · have HX := Lib.hid (bool_tag (b := b) (k := k) h3)
    have q1 : ((t : Int) != 1) = true := by simp; omega
    clear hb hk
    go_enter Try.func22, Try.ntmps22
    go_wp2
    go_ret2
    exact BoolIs.of HX.out _ (h0 _)
/-- an item of these bytes is answered -/
def ItemIs (t : Nat) (b : List Nat) (w : World) (e : Ending) (w' : World) : Prop := ∃ a c, e = .returned (itV t a b.length c none 0 0) ∧ ItIn w' t a c none 0 b .nil ∧ Below w.heap.size w w'
theorem ofBool_blk (w : World) (x : Nat) : Blk (((w.alloc (.cells #[.int .u8 0, .slice none 0 0, .slice none 0 0] 25)).alloc (.cells #[.int .u8 (x : Nat)] 5)).setRow w.heap.size #[.int .u8 1, .slice (some ⟨w.heap.size + 1, 0, none⟩) 1 1, .slice none 0 0]) w.heap.size 25 [.int .u8 1, .slice (some ⟨w.heap.size + 1, 0, none⟩) 1 1, .slice none 0 0] :=
  ((Blk.new w 25 [.int .u8 0, .slice none 0 0, .slice none 0 0]).alloc (.cells #[.int .u8 (x : Nat)] 5)).setRow [.int .u8 1, .slice (some ⟨w.heap.size + 1, 0, none⟩) 1 1, .slice none 0 0]
theorem ofBool_fin (w : World) (x : Nat) (hx : x < 256) (v : Bool) (hv : bb v = [x]) :
    ItemIs 1 (bb v) w (.returned (.agg #[.int .u8 1, .slice (some ⟨w.heap.size + 1, 0, none⟩) 1 1, .slice none 0 0])) (((w.alloc (.cells #[.int .u8 0, .slice none 0 0, .slice none 0 0] 25)).alloc (.cells #[.int .u8 (x : Nat)] 5)).setRow w.heap.size #[.int .u8 1, .slice (some ⟨w.heap.size + 1, 0, none⟩) 1 1, .slice none 0 0]) := by
  have hb1 := bin_one (w.alloc (.cells #[.int .u8 0, .slice none 0 0, .slice none 0 0] 25)) x hx
  have hbel : Below w.heap.size w ((w.alloc (.cells #[.int .u8 0, .slice none 0 0, .slice none 0 0] 25)).alloc (.cells #[.int .u8 (x : Nat)] 5)) := ((Below.refl _ w).alloc (Nat.le_refl _) _).alloc (by simp) _
  have hb2 := hb1.grown (grown_setRow _ w.heap.size #[.int .u8 1, .slice (some ⟨w.heap.size + 1, 0, none⟩) 1 1, .slice none 0 0]) (fun b hb _ => by injection hb with hb; subst hb; simp)
  rw [World.size_alloc] at hb2
  rw [hv]
  exact ⟨some ⟨w.heap.size + 1, 0, none⟩, 1, rfl, ⟨by decide, hb2, KIn.nil _⟩, below_setRow' hbel (Nat.le_refl _) _⟩
set_option maxHeartbeats 4000000 in
theorem OfBool_any (w : World) (v : Bool) : Calls Try.prog 24 #[.bool v] w (ItemIs 1 (bb v) w) := by
  have H1 := Lib.hid (fun x : Nat => (Blk.new w 25 [.int .u8 0, .slice none 0 0, .slice none 0 0]).alloc (.cells #[.int .u8 (x : Nat)] 5))
  cases v
  · have HF := Lib.hid (ofBool_fin w 0 (by decide) false rfl)
    go_enter Try.func24, Try.ntmps24
    go_wp2_with (refine wpList_store_row (P := Try.prog) rfl 25 (.tmp 2) (.tmp 7) rfl w.heap.size #[.int .u8 1, .slice (some ⟨w.heap.size + 1, 0, none⟩) 1 1, .slice none 0 0] rfl rfl 25 _ (H1.out 0) info25 rfl (all_item _ _ _ _ _ _ _) ?_)
    exact bodyPost_ret (results_one Try.results24 _ _ w.heap.size 25 _ (0, 0) _ rfl (ofBool_blk w 0) Try.underlying25 rfl info25) rfl HF.out
  · have HF := Lib.hid (ofBool_fin w 255 (by decide) true rfl)
    go_enter Try.func24, Try.ntmps24
    go_wp2_with (refine wpList_store_row (P := Try.prog) rfl 25 (.tmp 2) (.tmp 5) rfl w.heap.size #[.int .u8 1, .slice (some ⟨w.heap.size + 1, 0, none⟩) 1 1, .slice none 0 0] rfl rfl 25 _ (H1.out 255) info25 rfl (all_item _ _ _ _ _ _ _) ?_)
    exact bodyPost_ret (results_one Try.results24 _ _ w.heap.size 25 _ (0, 0) _ rfl (ofBool_blk w 255) Try.underlying25 rfl info25) rfl HF.out
set_option maxHeartbeats 4000000 in
theorem refOfBool_any (w : World) (v : Bool) : Calls Try.prog 26 #[.bool v] w (ItemIs 1 (bb v) w) := by
  have H1 := Lib.hid (fun x : Nat => (Blk.new w 25 [.int .u8 0, .slice none 0 0, .slice none 0 0]).alloc (.cells #[.int .u8 (x : Nat)] 5))
  cases v
  · have HF := Lib.hid (ofBool_fin w 0 (by decide) false rfl)
    go_enter Try.func26, Try.ntmps26
    go_wp2_with (refine wpList_store_row (P := Try.prog) rfl 25 (.tmp 2) (.tmp 7) rfl w.heap.size #[.int .u8 1, .slice (some ⟨w.heap.size + 1, 0, none⟩) 1 1, .slice none 0 0] rfl rfl 25 _ (H1.out 0) info25 rfl (all_item _ _ _ _ _ _ _) ?_)
    exact bodyPost_ret (results_one Try.results26 _ _ w.heap.size 25 _ (0, 0) _ rfl (ofBool_blk w 0) Try.underlying25 rfl info25) rfl HF.out
  · have HF := Lib.hid (ofBool_fin w 255 (by decide) true rfl)
    go_enter Try.func26, Try.ntmps26
    go_wp2_with (refine wpList_store_row (P := Try.prog) rfl 25 (.tmp 2) (.tmp 5) rfl w.heap.size #[.int .u8 1, .slice (some ⟨w.heap.size + 1, 0, none⟩) 1 1, .slice none 0 0] rfl rfl 25 _ (H1.out 255) info25 rfl (all_item _ _ _ _ _ _ _) ?_)
    exact bodyPost_ret (results_one Try.results26 _ _ w.heap.size 25 _ (0, 0) _ rfl (ofBool_blk w 255) Try.underlying25 rfl info25) rfl HF.out
end Go.Proofs.Ytbabpmncdphnjaa
