/- The live question. No condition. -/
import Derived.Test.YtlgpaglkhgomiaaFi
import Derived.Test.YtlgpaglkhgomiaaSb
namespace Go.Proofs.Ytlgpaglkhgomiaa
open Go.RowKit
set_option linter.unusedVariables false
set_option maxRecDepth 100000
set_option linter.unusedSimpArgs false
theorem grown_below_new {w w' : World} (h : Below w.heap.size w w') : w.grownBy w' none := grown_below h none
/-- the flash of the live question -/
def liveR (a : Option Addr) : BlkR := ⟨1, a, 512, 512, fillL [7]⟩
theorem live_new (a : Option Addr) : newR 3 [liveR a] (fun _ => false) (fun _ => zB) = (0, upB (fun _ => false) 1, upC (fun _ => zB) 1 (fillL [7])) := by
  have h1 : ¬ ((fun _ : Int => false) (liveR a).N = true ∨ ¬ (0 ≤ (liveR a).N ∧ (liveR a).N < 3)) := by simp [liveR]
  rw [newR_go h1 (by simp [liveR])]
  rfl
set_option maxHeartbeats 3200000 in
theorem alive_any (w : World) : Calls Try.prog 10 #[] w (NewIs (.bool true) w) := by
  have hW0 : Below w.heap.size w (w.alloc (.cells #[.int .u8 7] 5)) := (Below.refl _ _).alloc (Nat.le_refl _) _
  have hb0 : BIn (w.alloc (.cells #[.int .u8 7] 5)) (some ⟨w.heap.size, 0, none⟩) 1 1 [7] :=
    ⟨⟨rfl, by unfold maxLen; omega, by simp, .inr ⟨_, 0, rfl, fun i hi => by
      obtain rfl : i = 0 := by omega
      exact (Blk.new w 5 [.int .u8 7]).cell 0⟩⟩, Nat.le_refl _, by unfold maxLen; omega, by omega, fun h => by cases h⟩
  have HF := Lib.hid (filled_any _ 1 1 [7] _ hb0)
  unfold FillIs at HF
  have HB0 := Lib.hid hW0
  clear hW0 hb0
  unfold NewIs
  go_enter Try.func10, Try.ntmps10
  go_wp2_with fail
  refine HF.out.mono ?_
  rintro e w1 ⟨g1, rfl, hg1, hb1, hbel1⟩
  have HB1 := Lib.hid (HB0.out.trans (hbel1.mono (by simp)))
  have HL1 := Lib.hid hb1
  clear hbel1 hb1 HF HB0
  go_wp2_with fail
  have hL : LIn (w1.alloc (.cells #[.int .i64 1, .slice (some ⟨g1, 0, none⟩) 512 512] 62)) (some ⟨w1.heap.size, 0, none⟩) 1 [liveR (some ⟨g1, 0, none⟩)] := by
    refine ⟨rfl, fun x hx => ?_, .inr ⟨_, 0, rfl, fun i x hx => ?_⟩⟩
    · obtain rfl := List.mem_singleton.1 hx
      exact ⟨bin_blk (HL1.out.alloc _) (fillL_is (by simp)), by unfold I64 liveR; simp⟩
    · match i, hx with
      | 0, hx => simp at hx; subst hx; exact blk_all (Blk.new w1 62 (liveR (some ⟨g1, 0, none⟩)).cs)
      | i + 1, hx => simp at hx
  have HN := Lib.hid (new_any 3 (some ⟨w1.heap.size, 0, none⟩) 1 1 [liveR (some ⟨g1, 0, none⟩)] _ (by omega) (by omega) hL (by omega))
  unfold NewB at HN
  rw [live_new] at HN
  clear hL
  refine HN.out.mono ?_
  rintro e w2 ⟨hbel2, _, hq⟩
  obtain ⟨f, mb, hf, hmb, rfl, hfl, hma⟩ := hq rfl
  have HB2 := Lib.hid ((HB1.out.alloc HB1.out.size (.cells #[.int .i64 1, .slice (some ⟨g1, 0, none⟩) 512 512] 62)).trans (hbel2.mono (by have := HB1.out.size; simp; omega)))
  have HR := Lib.hid (read_ok f mb 1 3 0 0 1 false _ _ w2 hfl hma (by omega) (by omega) (by omega))
  unfold ReadIs at HR
  have HFL := Lib.hid hfl
  clear hq hbel2 hfl hma HN
  go_wp2_with fail
  refine HR.out.mono ?_
  rintro e w3 ⟨g3, rfl, hg3, hb3, hbel3⟩
  have HB3 := Lib.hid (HB2.out.trans (hbel3.mono HB2.out.size))
  have hfl3 := HFL.out.gr hbel3
  have k0 : w3.cell? ⟨g3, 0, none⟩ = some (.int .u8 7) := by rw [hb3.nat 0 (by rw [show upC (fun _ => zB) 1 (fillL [7]) 1 = fillL [7] from if_pos rfl, (fillL_is (l := [7]) (by simp)).1]; omega)]; rfl
  have HO := Lib.hid (on_any f mb 3 0 0 true false w3 hfl3)
  have HS := Lib.hid (size_any f mb 3 0 0 true false w3 hfl3)
  have HX := Lib.hid (read_no f mb 3 0 0 3 true false w3 hfl3 141 (by simp [clE]) rfl)
  clear hb3 hbel3 hfl3 HR
  go_wp2_with (first | (go_at_call 23; refine HX.out.mono ?_; rintro e w9 ⟨rfl, rfl⟩) | (go_at_call 12; refine HO.out.mono ?_; rintro e w9 ⟨rfl, rfl⟩) | (go_at_call 14; refine HS.out.mono ?_; rintro e w9 ⟨rfl, rfl⟩))
  go_ret
  exact ⟨rfl, HB3.out⟩
end Go.Proofs.Ytlgpaglkhgomiaa
