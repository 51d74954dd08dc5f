/- The head of each law: rows of the document's examples. No condition. -/
import Derived.Test.YtbhhpopckchibaaNt
import Derived.Test.YtbhhpopckchibaaSe
namespace Go.Proofs.Ytbhhpopckchibaa
open Go.RowKit
set_option linter.unusedVariables false
set_option linter.unusedSimpArgs false
def xI : List Int := 0 :: 1 :: List.replicate 254 0
theorem xI_PL : xI = PL xP := by decide +kernel
theorem xI_len : xI.length = 256 := by rw [xI_PL, PL_length]
theorem builtX : Try.prog.built 23 [(0, .int .i32 0), (1, .int .i32 1)] = some (iv xI).toArray := by kernel_rfl
theorem ntt_X0 : (PL (ntt xP)).getD 0 0 = 1753 := by
  rw [PL_get _ 0 (by decide), ntt_X]; rfl
theorem dcH_1 : dcH 261889 = 1 := by decide +kernel
theorem dcL_1 : dcL 261889 = -261887 := by decide +kernel
set_option maxRecDepth 100000 in
set_option maxHeartbeats 1600000 in
theorem awake_any (w : World) : Calls Try.prog 8 #[] w fun e w' => e = .returned (.bool true) ∧ Below w.heap.size w w' := by
  have HN := Lib.hid (fun w => NTT_t xP w)
  rw [← xI_PL] at HN
  have HD := Lib.hid (fun w => Decompose_t 261889 ⟨by decide, by decide⟩ w)
  rw [dcH_1, dcL_1] at HD
  have L_v := Lib.hid (PL_length (ntt xP))
  have HX := Lib.hid ntt_X0
  generalize PL (ntt xP) = v at *
  have z23 := zero23
  have bel_ := (Below.refl w.heap.size w)
  go_enter Try.func8, Try.ntmps8
  go_wp2_with (first | (refine wpList_build_is rfl 23 _ rfl (iv xI).toArray builtX ?_) | (refine stB rfl 23 (.tmp 1) (.tmp 7) rfl w.heap.size rfl (iv xI) rfl 23 (iv zerI) (Blk.new w 23 (iv zerI)) (i23 xI_len) (lenEq (show (iv zerI).length = 256 by rw [iv_length, zerI_length]) (show (iv xI).length = 256 by rw [iv_length, xI_len])) (iv_one _) ?_; generalize hW : World.setRow _ _ _ = w1; obtain ⟨hgw1, hnw1⟩ := newfacts hW; clear hW; have hbel3 := bel_.trans (Below.mono hgw1 bel_.size); clear bel_; have D2 := Lib.hid hnw1; have szw1 := hgw1.size; clear hnw1 hgw1 szw1) | (refine wpList_load_mid rfl 23 (.tmp 1) rfl w.heap.size 0 rfl (iv xI) _ (blk_all (D2.out)) Try.underlying23 rfl (i23 xI_len) ?_))
  refine (HN.out _).mono ?_
  rintro e w4 ⟨rfl, hbw4⟩
  have C5 := Lib.hid (D2.out.gr hbw4)
  clear D2
  have hbel6 := hbel3.trans (Below.mono hbw4 hbel3.size)
  clear hbel3
  clear hbw4
  go_wp2_with (first | (refine stB rfl 23 (.tmp 2) (.tmp 11) rfl w4.heap.size rfl (iv v) rfl 23 (iv zerI) (Blk.new w4 23 (iv zerI)) (i23 L_v.out) (lenEq (show (iv zerI).length = 256 by rw [iv_length, zerI_length]) (show (iv v).length = 256 by rw [iv_length, L_v.out])) (iv_one _) ?_; generalize hW : World.setRow _ _ _ = w7; obtain ⟨hgw7, hnw7⟩ := newfacts hW; clear hW; have C10 := Lib.hid (C5.out.gr hgw7); clear C5; have hbel11 := hbel6.trans (Below.mono hgw7 hbel6.size); clear hbel6; have D9 := Lib.hid hnw7; have szw7 := hgw7.size; clear hnw7 hgw7 szw7; generalize w4.heap.size = G8 at *))
  refine (HD.out _).mono ?_
  rintro e wd ⟨rfl, rfl⟩
  have hc := D9.out.iv 0 (by rw [L_v.out]; decide)
  rw [HX.out] at hc
  go_wp2_with fail
  go_ret
  exact ⟨rfl, hbel11⟩
end Go.Proofs.Ytbhhpopckchibaa
