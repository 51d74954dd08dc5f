/- Parts of proofs of statements, each text behind those that it stands on. No condition of its own. -/
import Derived.Test.YtbabpmncdphnjaaGreatQ12
namespace Go.Proofs.YtbabpmncdphnjaaGreat
open Go.RowKit
set_option linter.unusedVariables false
set_option maxRecDepth 100000
set_option linter.unusedSimpArgs false
theorem row_at {w : World} {g o i n m : Nat} {A r k2 : Tr} {t : Nat} {b : List Nat} (h : Row w (A.app (.node t b k2 r)) g o) (hi : A.len = i) (hn : b.length = n) (hm : k2.len = m) (ti : Int) (hti : (t : Int) = ti) (off : Nat) (hoff : o + i * 3 = off) :
    ∃ a1 c1 a2 c2, w.rangeAt g off [.int .u8 ti, .slice a1 n c1, .slice a2 m c2] ∧ ItIn w t a1 c1 a2 c2 b k2 := by
  subst hi hn hm hti hoff
  have h2 := (Row.append h).2
  rw [show o + 3 * A.len = o + A.len * 3 by omega] at h2
  obtain ⟨a1, c1, a2, c2, hra, hit, _⟩ := h2.head
  exact ⟨a1, c1, a2, c2, hra, hit⟩
set_option maxRecDepth 100000 in
theorem parts_ok (t : Nat) (ti : Int) (hti : (t : Int) = ti) (a a' : Option Addr) (n c m c' lo hi : Nat) (li hi' : Int) (hli : (lo : Int) = li) (hhi : (hi : Int) = hi') (h1 : lo ≤ m) (h2 : m ≤ hi) (w : World) : Calls Tryz.prog 60 #[.agg #[.int .u8 ti, .slice a n c, .slice a' m c'], .int .u8 ti, .int .i64 li, .int .i64 hi'] w fun e w' => e = .returned (.tuple #[.slice a' m c', .int .i64 0]) ∧ Below w.heap.size w w' := by
  have BEL := Lib.hid ((Below.refl _ w).alloc (Nat.le_refl _) (.cells #[.int .u8 ti, .slice a n c, .slice a' m c'] 45))
  have HB := Lib.hid (Blk.new w 45 [.int .u8 ti, .slice a n c, .slice a' m c'])
  have q1 : ¬ (m : Int) < li := by omega
  have q2 : ¬ hi' < (m : Int) := by omega
  have q3 : (ti != ti) = false := by simp
  clear hti hli hhi
  go_enter Tryz.func60, Tryz.ntmps60
  generalize hW0 : w.alloc (.cells #[.int .u8 ti, .slice a n c, .slice a' m c'] 45) = W0 at *
  have k0 := blkc HB.out (i := 0) rfl
  have k2 := blkc HB.out (i := 2) rfl
  go_wp2
  go_ret2
  exact ⟨rfl, BEL.out⟩
theorem nzI2 {x y : Int} (h : x ≠ y) : (x != y) = true := by simpa using h
set_option maxRecDepth 100000 in
theorem parts_bad (t ti : Int) (a a' : Option Addr) (n c m c' lo hi : Nat) (li hi' : Int) (hli : (lo : Int) = li) (hhi : (hi : Int) = hi') (hq : ¬ (t = ti ∧ lo ≤ m ∧ m ≤ hi)) (w : World) : Calls Tryz.prog 60 #[.agg #[.int .u8 t, .slice a n c, .slice a' m c'], .int .u8 ti, .int .i64 li, .int .i64 hi'] w fun e w' => e = .returned (.tuple #[.slice none 0 0, .int .i64 131]) ∧ Below w.heap.size w w' := by
  have BEL := Lib.hid ((Below.refl _ w).alloc (Nat.le_refl _) (.cells #[.int .u8 t, .slice a n c, .slice a' m c'] 45))
  have HB := Lib.hid (Blk.new w 45 [.int .u8 t, .slice a n c, .slice a' m c'])
  by_cases ht : t = ti
  · subst ht
    have q3 : (t != t) = false := by simp
    by_cases hlo : m < lo
    · have q1 : (m : Int) < li := by omega
      clear hli hhi hq
      go_enter Tryz.func60, Tryz.ntmps60
      generalize hW0 : w.alloc (.cells #[.int .u8 t, .slice a n c, .slice a' m c'] 45) = W0 at *
      have k0 := blkc HB.out (i := 0) rfl
      have k2 := blkc HB.out (i := 2) rfl
      go_wp2
      go_ret2
      exact ⟨rfl, BEL.out⟩
    · have q1 : ¬ (m : Int) < li := by omega
      have q2 : hi' < (m : Int) := by omega
      clear hli hhi hq
      go_enter Tryz.func60, Tryz.ntmps60
      generalize hW0 : w.alloc (.cells #[.int .u8 t, .slice a n c, .slice a' m c'] 45) = W0 at *
      have k0 := blkc HB.out (i := 0) rfl
      have k2 := blkc HB.out (i := 2) rfl
      go_wp2
      go_ret2
      exact ⟨rfl, BEL.out⟩
  · have q3 := nzI2 ht
    clear hli hhi hq
    go_enter Tryz.func60, Tryz.ntmps60
    generalize hW0 : w.alloc (.cells #[.int .u8 t, .slice a n c, .slice a' m c'] 45) = W0 at *
    have k0 := blkc HB.out (i := 0) rfl
    go_wp2
    go_ret2
    exact ⟨rfl, BEL.out⟩
set_option maxRecDepth 100000 in
theorem body_ok (ti : Int) (a a' : Option Addr) (n c m c' : Nat) (w : World) : Calls Tryz.prog 102 #[.agg #[.int .u8 ti, .slice a n c, .slice a' m c'], .int .u8 ti] w fun e w' => e = .returned (.tuple #[.slice a n c, .int .i64 0]) ∧ Below w.heap.size w w' := by
  have BEL := Lib.hid ((Below.refl _ w).alloc (Nat.le_refl _) (.cells #[.int .u8 ti, .slice a n c, .slice a' m c'] 45))
  have HB := Lib.hid (Blk.new w 45 [.int .u8 ti, .slice a n c, .slice a' m c'])
  have q3 : (ti != ti) = false := by simp
  go_enter Tryz.func102, Tryz.ntmps102
  generalize hW0 : w.alloc (.cells #[.int .u8 ti, .slice a n c, .slice a' m c'] 45) = W0 at *
  have k0 := blkc HB.out (i := 0) rfl
  have k1 := blkc HB.out (i := 1) rfl
  go_wp2
  go_ret2
  exact ⟨rfl, BEL.out⟩
def OneIs (ok : Bool) (v : Value) (w : World) (e : Ending) (w' : World) : Prop := e = .returned (.tuple #[if ok then v else .agg #[.int .u8 0, .slice none 0 0, .slice none 0 0], .int .i64 (if ok then 0 else 131)]) ∧ Below w.heap.size w w'
set_option maxRecDepth 100000 in
set_option maxHeartbeats 8000000 in
theorem one_any (w : World) (t t' : Nat) (ti ti' : Int) (hti : (t : Int) = ti) (hti' : (t' : Int) = ti') (b b' : List Nat) (k k' : Tr) (a a1 a' a1' : Option Addr) (n m n' m' c c1 c' c1' : Nat) (hn : b.length = n) (hm : k.len = m) (hn' : b'.length = n') (hm' : k'.len = m') (hi : ItIn w t a c a1 c1 b k) (hi' : ItIn w t' a' c' a1' c1' b' k') :
    Calls Tryz.prog 62 #[.agg #[.int .u8 ti, .slice a n c, .slice a1 m c1], .agg #[.int .u8 ti', .slice a' n' c', .slice a1' m' c1']] w (OneIs (eqI t t' b b' k k') (.agg #[.int .u8 ti, .slice a n c, .slice a1 m c1]) w) := by
  subst hti hti'
  have h00 := (((Below.refl _ w).alloc (Nat.le_refl _) (.cells #[.int .u8 (t : Nat), .slice a n c, .slice a1 m c1] 45)).alloc (by simp) (.cells #[.int .u8 (t' : Nat), .slice a' n' c', .slice a1' m' c1'] 45)).alloc (by simp; omega) (.cells #[.int .u8 0, .slice none 0 0, .slice none 0 0] 45)
  have H1 := Lib.hid (((Blk.new w 45 [.int .u8 (t : Nat), .slice a n c, .slice a1 m c1]).alloc (.cells #[.int .u8 (t' : Nat), .slice a' n' c', .slice a1' m' c1'] 45)).alloc (.cells #[.int .u8 0, .slice none 0 0, .slice none 0 0] 45))
  have H2 := Lib.hid ((Blk.new2 w (.cells #[.int .u8 (t : Nat), .slice a n c, .slice a1 m c1] 45) 45 [.int .u8 (t' : Nat), .slice a' n' c', .slice a1' m' c1']).alloc (.cells #[.int .u8 0, .slice none 0 0, .slice none 0 0] 45))
  have H3 := Lib.hid (Blk.new3 w (.cells #[.int .u8 (t : Nat), .slice a n c, .slice a1 m c1] 45) (.cells #[.int .u8 (t' : Nat), .slice a' n' c', .slice a1' m' c1'] 45) 45 [.int .u8 0, .slice none 0 0, .slice none 0 0])
  have H00 := Lib.hid h00
  have HC := same_any _ t t' b b' k k' a a1 a' a1' n m n' m' c c1 c' c1' hn hm hn' hm' (hi.below h00) (hi'.below h00)
  have HC := Lib.hid HC
  clear h00 hi hi' hn hm hn' hm'
  generalize hB : eqI t t' b b' k k' = B at *
  clear hB
  cases B with
  | true =>
    go_enter Tryz.func62, Tryz.ntmps62
    generalize hW0 : ((w.alloc (.cells #[.int .u8 (t : Nat), .slice a n c, .slice a1 m c1] 45)).alloc (.cells #[.int .u8 (t' : Nat), .slice a' n' c', .slice a1' m' c1'] 45)).alloc (.cells #[.int .u8 0, .slice none 0 0, .slice none 0 0] 45) = W0 at *
    go_wp2_with (first | (refine wpList_load_row (P := Tryz.prog) rfl 45 (.tmp 2) rfl w.heap.size rfl 45 _ _ _ H1.out Tryz.underlying45 rfl info25 ?_) | (refine wpList_load_row (P := Tryz.prog) rfl 45 (.tmp 3) rfl (w.heap.size + 1) rfl 45 _ _ _ H2.out Tryz.underlying45 rfl info25 ?_) | (go_at_call 96; (with_reducible refine (HC.out).mono ?_); rintro e w2 ⟨rfl, hb2⟩; have H1 := Lib.hid (H1.out.below' hb2); have H3 := Lib.hid (H3.out.below' hb2); have H00 := Lib.hid (H00.out.trans (hb2.mono H00.out.size)); clear hb2) | (refine wpList_store_row (P := Tryz.prog) rfl 45 (.tmp 4) (.tmp 11) rfl (w.heap.size + 1 + 1) #[.int .u8 (t : Nat), .slice a n c, .slice a1 m c1] rfl rfl 45 _ H3.out info25 rfl (all_item _ _ _ _ _ _ _) ?_))
    have D3 := H3.out.setRow [.int .u8 (t : Nat), .slice a n c, .slice a1 m c1]
    refine bodyPost_ret (results_two Tryz.results62 _ _ (w.heap.size + 1 + 1) 45 _ (0, 0) _ _ rfl rfl D3 Tryz.underlying45 rfl info25) rfl ?_
    exact ⟨rfl, below_setRow' H00.out (by omega) _⟩
  | false =>
    go_enter Tryz.func62, Tryz.ntmps62
    generalize hW0 : ((w.alloc (.cells #[.int .u8 (t : Nat), .slice a n c, .slice a1 m c1] 45)).alloc (.cells #[.int .u8 (t' : Nat), .slice a' n' c', .slice a1' m' c1'] 45)).alloc (.cells #[.int .u8 0, .slice none 0 0, .slice none 0 0] 45) = W0 at *
    have hb0 : Tryz.prog.built 45 [] = some #[.int .u8 0, .slice none 0 0, .slice none 0 0] := by kernel_rfl
    go_wp2_with (first | (refine wpList_load_row (P := Tryz.prog) rfl 45 (.tmp 2) rfl w.heap.size rfl 45 _ _ _ H1.out Tryz.underlying45 rfl info25 ?_) | (refine wpList_load_row (P := Tryz.prog) rfl 45 (.tmp 3) rfl (w.heap.size + 1) rfl 45 _ _ _ H2.out Tryz.underlying45 rfl info25 ?_) | (go_at_call 96; (with_reducible refine (HC.out).mono ?_); rintro e w2 ⟨rfl, hb2⟩; have H1 := Lib.hid (H1.out.below' hb2); have H3 := Lib.hid (H3.out.below' hb2); have H00 := Lib.hid (H00.out.trans (hb2.mono H00.out.size)); clear hb2) | (refine wpList_store_row (P := Tryz.prog) rfl 45 (.tmp 4) (.tmp 10) rfl (w.heap.size + 1 + 1) #[.int .u8 0, .slice none 0 0, .slice none 0 0] rfl rfl 45 _ H3.out info25 rfl (all_item _ _ _ _ _ _ _) ?_))
    have D3 := H3.out.setRow [.int .u8 0, .slice none 0 0, .slice none 0 0]
    refine bodyPost_ret (results_two Tryz.results62 _ _ (w.heap.size + 1 + 1) 45 _ (0, 0) _ _ rfl rfl D3 Tryz.underlying45 rfl info25) rfl ?_
    exact ⟨rfl, below_setRow' H00.out (by omega) _⟩
theorem one_ok (w : World) (t : Nat) (ti : Int) (hti : (t : Int) = ti) (b : List Nat) (k : Tr) (a a1 a' a1' : Option Addr) (n m n' m' c c1 c' c1' : Nat) (hn : b.length = n) (hm : k.len = m) (hn' : b.length = n') (hm' : k.len = m') (hi : ItIn w t a c a1 c1 b k) (hi' : ItIn w t a' c' a1' c1' b k) (ti' : Int) (hti' : (t : Int) = ti') :
    Calls Tryz.prog 62 #[.agg #[.int .u8 ti, .slice a n c, .slice a1 m c1], .agg #[.int .u8 ti', .slice a' n' c', .slice a1' m' c1']] w fun e w' => e = .returned (.tuple #[.agg #[.int .u8 ti, .slice a n c, .slice a1 m c1], .int .i64 0]) ∧ Below w.heap.size w w' := by
  have := one_any w t t ti ti' hti hti' b b k k a a1 a' a1' n m n' m' c c1 c' c1' hn hm hn' hm' hi hi'
  rw [eqI_true ⟨rfl, rfl, rfl⟩] at this
  exact this
set_option maxRecDepth 100000 in
theorem readExts_0 (a : Option Addr) (c : Nat) (w : World) : Calls Tryz.prog 71 #[.slice a 0 c] w fun e w' => e = .returned (.slice none 0 0) ∧ Below w.heap.size w w' := by
  go_enter Tryz.func71, Tryz.ntmps71
  go_wp2
  go_loopw [3, 11] (fun v i wr => v = .slice none 0 0 ∧ i = .int .i64 0 ∧ Below w.heap.size w wr) (fun _ _ _ => 0)
  case atStart => exact ⟨rfl, rfl, Below.refl _ _⟩
  case round =>
    obtain ⟨rfl, rfl, hb⟩ := hrel
    have HB := Lib.hid hb
    clear hb
    go_wp2_with fail
    go_ret
    exact ⟨rfl, HB.out⟩
end Go.Proofs.YtbabpmncdphnjaaGreat
