/- A known digest: the head of each statement answers true. Condition: the tables. -/
import Derived.Test.YtnikhnpigopihaaDoorOnce
import Derived.Deep.Cut
import Derived.Lib.SlBytesConst
namespace Go.Proofs.YtnikhnpigopihaaDoor
open Go.RowKit
set_option linter.unusedVariables false
theorem abcPad : padN 1 3 = [128] ++ List.replicate 59 0 ++ [24] := by decide +kernel
theorem abcFirst : firstN 1 = [1779033703, 3144134277, 1013904242, 2773480762, 1359893119, 2600822924, 528734635, 1541459225] := by decide +kernel
theorem abcMix : mix 32 [1779033703, 3144134277, 1013904242, 2773480762, 1359893119, 2600822924, 528734635, 1541459225] ([97, 98, 99] ++ ([128] ++ List.replicate 59 0 ++ [24])) = [0xba7816bf, 0x8f01cfea, 0x414140de, 0x5dae2223, 0xb00361a3, 0x96177a9c, 0xb410ff61, 0xf20015ad] := by decide +kernel
theorem abcD : msgD 1 [97, 98, 99] = (beW 4 [0xba7816bf, 0x8f01cfea, 0x414140de, 0x5dae2223, 0xb00361a3, 0x96177a9c, 0xb410ff61, 0xf20015ad]).take 32 := by
  have e : goes (wW 1) (firstN 1) [97, 98, 99] = (firstN 1, [97, 98, 99]) := goes_lo (by decide)
  unfold msgD
  rw [e]
  unfold digN
  have e3 : ([97, 98, 99] : List Nat).length % 2 ^ 64 = 3 := by decide
  rw [e3]
  have h64 : ([97, 98, 99] ++ padN 1 3).length = 64 := by rw [abcPad]; decide
  have e2 : goes (wW 1) (firstN 1) ([97, 98, 99] ++ padN 1 3) = (mix 32 (firstN 1) ([97, 98, 99] ++ padN 1 3), []) := by
    rw [goes_hi (by decide) (by rw [h64]; decide)]
    rw [List.take_of_length_le (by rw [h64]; decide), List.drop_of_length_le (by rw [h64]; decide)]
    exact goes_lo (by decide)
  rw [e2, abcPad, abcFirst]
  simp only
  rw [abcMix]
  rfl
theorem abc0 : (msgD 1 [97, 98, 99]).getD 0 0 = 186 := by rw [abcD]; decide +kernel
theorem abc1 : (msgD 1 [97, 98, 99]).getD 1 0 = 120 := by rw [abcD]; decide +kernel
theorem abc31 : (msgD 1 [97, 98, 99]).getD 31 0 = 173 := by rw [abcD]; decide +kernel
def abcCells : Obj := Obj.cells #[Value.int IntKind.u8 97, Value.int IntKind.u8 98, Value.int IntKind.u8 99] 5 (3, 4)
set_option maxRecDepth 100000 in
set_option maxHeartbeats 800000 in
theorem awake_any (w : World) (htab : Tabs w) : Calls Tryd.prog 9 #[] w fun e w' => e = .returned (.bool true) ∧ Below w.heap.size w w' := by
  obtain ⟨W1, hW1⟩ : ∃ W1 : World, W1 = w.alloc abcCells := ⟨_, rfl⟩
  have hb1 : Below w.heap.size w W1 := by rw [hW1]; exact (Below.refl _ _).alloc (Nat.le_refl _) _
  have hbin : BIn W1 (some ⟨w.heap.size, 0, none⟩) 3 3 [97, 98, 99] := by
    refine ⟨⟨rfl, by unfold maxLen; omega, by decide, .inr ⟨w.heap.size, 0, rfl, fun i hi => ?_⟩⟩, Nat.le_refl _, by unfold maxLen; omega, by omega, fun h => by cases h⟩
    have : i = 0 ∨ i = 1 ∨ i = 2 := by omega
    rw [hW1]; unfold abcCells
    rcases this with rfl | rfl | rfl <;> (rw [World.cell?_alloc_mark]; rfl)
  have HS := Lib.hid (Sum256_any (some ⟨w.heap.size, 0, none⟩) 3 3 [97, 98, 99] W1 hbin (htab.below hb1))
  have HL := Lib.hid (show (msgD 1 [97, 98, 99]).length = 32 from msgD_length 1 _)
  have H0 := Lib.hid abc0
  have H1 := Lib.hid abc1
  have H31 := Lib.hid abc31
  have HB1 := Lib.hid hb1
  clear htab hbin hb1
  generalize msgD 1 [97, 98, 99] = D at *
  go_enter Tryd.func9, Tryd.ntmps9
  have kc := fun (w : World) (C : Array Value) (n c : Nat) => Lib.run_convert_bytes_const (P := Tryd.prog) w 22 5 C n c Tryd.underlying22 Tryd.underlying5
  go_wp2_with fail
  unfold abcCells at hW1
  rw [hW1] at HS
  refine HS.out.mono ?_
  rintro e w2 ⟨rfl, hb2⟩
  rw [← hW1] at hb2
  clear kc
  have HLt := Lib.hid (show (Tryd.prog.info? 25).map (·.size) = some (natsV .u8 D).toArray.size from by rw [info25s, size_nats, HL.out])
  have HLu := Lib.hid (show (natsV .u8 (zeros 32)).toArray.size = (natsV .u8 D).toArray.size from by rw [size_nats, size_nats, HL.out]; rfl)
  go_upto_region 2 with (refine wpList_store_row rfl 25 (.tmp 1) (.tmp 4) rfl w2.heap.size (natsV .u8 D).toArray rfl rfl 25 (natsV .u8 (zeros 32)).toArray (Blk.new w2 25 (natsV .u8 (zeros 32))) HLt.out HLu.out (all_nats _ _) ?_)
  rw [World.setRow_alloc_new]
  obtain ⟨W4, hW4⟩ : ∃ W4 : World, w2.alloc (.cells (natsV .u8 D).toArray 25) = W4 := ⟨_, rfl⟩
  rw [hW4]
  have hblk : Blk W4 w2.heap.size 25 (natsV .u8 D) := by rw [← hW4]; exact Blk.new w2 25 _
  have hb4 : Below w.heap.size w W4 := by rw [← hW4]; exact (HB1.out.trans (hb2.mono HB1.out.size)).alloc (Nat.le_trans HB1.out.size hb2.size) _
  clear hW4
  have c0 := hblk.nat 0 (by rw [HL.out]; decide)
  have c1 := hblk.nat 1 (by rw [HL.out]; decide)
  have c31 := hblk.nat 31 (by rw [HL.out]; decide)
  rw [H0.out] at c0
  rw [H1.out] at c1
  rw [H31.out] at c31
  go_wp2_with fail
  go_ret
  exact ⟨rfl, hb4⟩
end Go.Proofs.YtnikhnpigopihaaDoor
