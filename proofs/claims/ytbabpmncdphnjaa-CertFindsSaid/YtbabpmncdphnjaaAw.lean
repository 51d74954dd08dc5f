/- The live question. No condition. -/
import Derived.Test.YtbabpmncdphnjaaWy
namespace Go.Proofs.Ytbabpmncdphnjaa
open Go.RowKit
set_option linter.unusedVariables false
set_option maxRecDepth 100000

theorem dec_live : decE [48, 3, 2, 1, 5] = .ok (48, [], .node 2 [5] .nil .nil) := by rfl
theorem dec_dead : decE [4, 128] = .error 124 := by rfl
/-- a list that is written out -/
theorem bin_lit (w : World) (l : List Nat) (hl : ∀ x ∈ l, x < 256) (hn : l.length ≤ 1048576) : BIn (w.alloc (.cells (bytesV l).toArray 5)) (some ⟨w.heap.size, 0, none⟩) l.length l.length l := by
  have h := World.ownsRow_lit (base := 0) (e := 5) (size := 1) w (bytesV l).toArray l.length (Nat.zero_le _) (by simp only [maxLen]; omega) (by simp [bytesV])
  obtain ⟨a, c, h1, h2, _⟩ := own_in (l := l) h hl (by omega)
  injection h1 with h1 h3 h4
  subst h1 h4
  exact h2

theorem dec1 (wx : World) (g : Nat) (hg : wx.heap.size = g) : Calls Try.prog 10 #[.slice (some ⟨g, 0, none⟩) 5 5] (wx.alloc (.cells #[.int .u8 48, .int .u8 3, .int .u8 2, .int .u8 1, .int .u8 5] 5)) fun e w' =>
    ∃ a1 c1 a2 c2, e = .returned (.tuple #[.agg #[.int .u8 48, .slice a1 0 c1, .slice a2 1 c2], .int .i64 0]) ∧ Below wx.heap.size wx w' := by
  subst hg
  have h := Decode_any [48, 3, 2, 1, 5] _ _ 5 5 (bin_lit wx [48, 3, 2, 1, 5] (by decide) (by decide))
  rw [dec_live] at h
  refine h.mono ?_
  rintro e w' ⟨hb, v1, v2, L, rfl, hV, hN⟩
  obtain ⟨a1, c1, a2, c2, _, rfl, rfl, hit⟩ := hV.item
  exact ⟨a1, c1, a2, c2, rfl, ((Below.refl _ wx).alloc (Nat.le_refl _) _).trans (hb.mono (by simp))⟩
theorem dec2 (wx : World) (g : Nat) (hg : wx.heap.size = g) : Calls Try.prog 10 #[.slice (some ⟨g, 0, none⟩) 2 2] (wx.alloc (.cells #[.int .u8 4, .int .u8 128] 5)) fun e w' =>
    e = .returned (.tuple #[.agg #[.int .u8 0, .slice none 0 0, .slice none 0 0], .int .i64 124]) ∧ Below wx.heap.size wx w' := by
  subst hg
  have h := Decode_any [4, 128] _ _ 2 2 (bin_lit wx [4, 128] (by decide) (by decide))
  rw [dec_dead] at h
  refine h.mono ?_
  rintro e w' ⟨hb, rfl⟩
  exact ⟨rfl, ((Below.refl _ wx).alloc (Nat.le_refl _) _).trans (hb.mono (by simp))⟩
theorem Blk.belowS {w w' : World} {g : Nat} {t : TypeId} {cs : List Value} (h : Blk w g t cs) (hb : Below w.heap.size w w') : Blk w' g t cs := h.below' hb

set_option maxRecDepth 100000 in
set_option maxHeartbeats 4000000 in
theorem alive_any (w : World) : Calls Try.prog 14 #[] w fun e w' => e = .returned (.bool true) ∧ Below w.heap.size w w' := by
  go_enter Try.func14, Try.ntmps14
  go_wp2_with (first | (go_at_call 10; with_reducible refine (dec1 _ _ rfl).mono ?_; rintro e w1 ⟨a1, c1, a2, c2, rfl, hb1⟩; have D1 := Lib.hid (Blk.new w1 25 [.int .u8 0, .slice none 0 0, .slice none 0 0])) | (go_at_call 10; with_reducible refine (dec2 _ _ (by simp)).mono ?_; rintro e w2 ⟨rfl, hb2⟩; have D4 := Lib.hid (D3.out.below' hb2); have D5 := Lib.hid (Blk.new w2 25 [.int .u8 0, .slice none 0 0, .slice none 0 0])) | (refine wpList_store_row (P := Try.prog) rfl 25 (.tmp 1) (.tmp 8) rfl w1.heap.size #[.int .u8 48, .slice a1 0 c1, .slice a2 1 c2] rfl rfl 25 _ D1.out info25 rfl (all_item _ _ _ _ _ _ _) ?_; have D3 := Lib.hid (D1.out.setRow [.int .u8 48, .slice a1 0 c1, .slice a2 1 c2])) | (refine wpList_store_row (P := Try.prog) rfl 25 (.tmp 3) (.tmp 13) rfl w2.heap.size #[.int .u8 0, .slice none 0 0, .slice none 0 0] rfl rfl 25 _ D5.out info25 rfl (all_item _ _ _ _ _ _ _) ?_; have D6 := Lib.hid ((D4.out.alloc (.cells #[.int .u8 0, .slice none 0 0, .slice none 0 0] 25)).row #[.int .u8 0, .slice none 0 0, .slice none 0 0] (show w1.heap.size ≠ w2.heap.size by have := D4.out.lt; omega)); have q0 := D6.out.cell 0; have q1 := D6.out.cell 2; simp at q0 q1))
  go_ret
  have b1 := hb1.size
  have k1 := below_setRow' (hb1.alloc b1 (.cells #[.int .u8 0, .slice none 0 0, .slice none 0 0] 25)) b1 #[.int .u8 48, .slice a1 0 c1, .slice a2 1 c2]
  have k2 := k1.trans (hb2.mono k1.size)
  exact ⟨rfl, below_setRow' (k2.alloc k2.size _) k2.size _⟩
end Go.Proofs.Ytbabpmncdphnjaa
