/- The head of each law: rows of the document's examples. No condition. -/
import Derived.Test.YtlbfnmmankoddaaDoorUp
import Derived.Test.YtlbfnmmankoddaaDoorDn
namespace Go.Proofs.YtlbfnmmankoddaaDoor
open Go.RowKit
set_option linter.unusedVariables false
set_option linter.unusedSimpArgs false
def xI : List Int := 0 :: 1 :: List.replicate 254 0
theorem xI_len : xI.length = 256 := by decide +kernel
theorem xI_P : IsP xI := IsP_pln xI_len (by decide +kernel)
theorem zerI_P : IsP zerI := IsP_pln zerI_length (by decide +kernel)
theorem builtX : Tryd.prog.built 25 [(0, .int .i32 0), (1, .int .i32 1)] = some (iv xI).toArray := by kernel_rfl
theorem aw1 : upE xI 1 = 0 ∧ (upL xI 1).length = 32 ∧ (upL xI 1).getD 0 0 = 2 := by decide +kernel
theorem aw2 : dnE zerI 3 2 = 0 ∧ (dnL zerI 3 2).length = 64 ∧ (dnL zerI 3 2).getD 0 0 = 255 := by decide +kernel
theorem own_first {w : World} {B n : Nat} {v : Value} {l : List Nat} {x : Nat} (h : w.ownsRow B 5 1 v n (bytesV l)) (hn : 0 < n) (hx : l.getD 0 0 = x) : ∃ g c, v = .slice (some ⟨g, 0, none⟩) n c ∧ w.cell? ⟨g, 0, none⟩ = some (.int .u8 (x : Nat)) := by
  rcases h.2 with ⟨_, h0⟩ | ⟨g, cap, cur, rfl, _⟩
  · omega
  · have := (own_cells h).2 0 hn
    exact ⟨g, cap, rfl, by rw [← hx]; exact this⟩
set_option maxRecDepth 100000 in
set_option maxHeartbeats 1600000 in
theorem awake_any (w : World) : Calls Tryd.prog 4 #[] w fun e w' => e = .returned (.bool true) ∧ Below w.heap.size w w' := by
  have HU := Lib.hid (fun w => Up_any xI xI_P 1 w)
  have HD := Lib.hid (fun w => Down_any zerI zerI_P 3 2 w)
  obtain ⟨a1, a2, a3⟩ := aw1
  obtain ⟨b1, b2, b3⟩ := aw2
  rw [a1] at HU
  rw [b1] at HD
  generalize upL xI 1 = L at *
  generalize dnL zerI 3 2 = M at *
  have A2 := Lib.hid a2
  have A3 := Lib.hid a3
  have C2 := Lib.hid b2
  have C3 := Lib.hid b3
  clear a1 a2 a3 b1 b2 b3
  have z23 := zero23
  go_enter Tryd.func4, Tryd.ntmps4
  go_wp2_with (first | (refine wpList_build_is rfl 25 _ rfl (iv xI).toArray builtX ?_))
  refine (HU.out _).mono ?_
  rintro e w1 ⟨v, rfl, ho, hb1⟩
  rw [A2.out] at ho
  obtain ⟨g, c, rfl, hc⟩ := own_first ho (by decide) A3.out
  have HO := Lib.hid ho
  clear ho
  go_wp2_with (first | (refine wpList_build_is rfl 25 _ rfl (iv zerI).toArray built0 ?_))
  refine (HD.out _).mono ?_
  rintro e w2 ⟨v, rfl, ho, hb2⟩
  rw [C2.out] at ho
  obtain ⟨g2, c2, rfl, hc2⟩ := own_first ho (by decide) C3.out
  have hc1 := (hb2.cell (World.block_lt_of_cell? w1 _ hc)).trans hc
  have hbel := hb1.trans (hb2.mono hb1.size)
  clear ho hc HO hb1 hb2
  go_wp2_with fail
  go_ret
  exact ⟨rfl, hbel⟩
end Go.Proofs.YtlbfnmmankoddaaDoor
