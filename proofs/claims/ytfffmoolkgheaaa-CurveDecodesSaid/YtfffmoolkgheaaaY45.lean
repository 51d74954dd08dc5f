/- Parts of proofs of statements, each text behind those that it stands on. No condition of its own. -/
import Derived.Test.YtfffmoolkgheaaaY41
import Derived.Test.YtfffmoolkgheaaaY42
namespace Go.Proofs.Ytfffmoolkgheaaa
open Go.RowKit
set_option linter.unusedVariables false
set_option linter.unusedSimpArgs false
theorem decA_x (n : Nat) (l : List Nat) : (decA n l).1.length = 4 := by
  unfold decA decB; repeat (first | rfl | exact wds_len 4 _ | exact nw_len _ | split)
theorem decA_y (n : Nat) (l : List Nat) : (decA n l).2.1.length = 4 := by
  unfold decA decB; repeat (first | rfl | exact wds_len 4 _ | exact nw_len _ | split)
set_option maxRecDepth 100000 in
set_option maxHeartbeats 3200000 in
theorem decodes_any (A : Option Addr) (n c : Nat) (l : List Nat) (w : World) (h : BIn w A n c l) (hn : n ≤ 140737488351232) :
    Calls Try.prog 6 #[.slice A n c] w fun e w' => e = .returned (.bool true) ∧ Below w.heap.size w w' := by
  have HDK := Lib.hid (fun (A : Option Addr) (c : Nat) (W : World) (h : BIn W A n c l) => k_dec h)
  have HDD := Lib.hid (fun (A : Option Addr) (c : Nat) (W : World) (h : BIn W A n c l) => d_dec h)
  unfold decV at HDK HDD
  have L_lx := Lib.hid (decA_x n l)
  have L_ly := Lib.hid (decA_y n l)
  generalize (decA n l).1 = lx at *
  generalize (decA n l).2.1 = ly at *
  generalize (decA n l).2.2 = ee at *
  have QE := Lib.hid (fun w => (eql43 lx ly lx ly false false L_lx.out L_ly.out L_lx.out L_ly.out w).trans (by rw [decide_eq_true ⟨rfl, rfl, rfl⟩]))
  have HIN := Lib.hid h
  have HLN := Lib.hid h.1.1
  have HL := Lib.hid h.1.2.2.1
  have hc1 := h.2.1
  have hc2 := h.2.2.1
  unfold maxLen at hc2
  clear h
  have HAW := Lib.hid k_awake
  go_enter Try.func6, Try.ntmps6
  go_wp2_with fail
  refine (HAW.out _).mono ?_
  rintro e wx1 ⟨rfl, hb⟩
  have HB0 := Lib.hid (HIN.out.below hb)
  have bel1 : Below w.heap.size w wx1 := hb
  clear hb HAW HIN
  have HB := Lib.hid (HB0.out.below ((Below.refl _ _).alloc (Nat.le_refl _) (.cells #[] 5)))
  have HZ := Lib.hid (zero_row wx1)
  go_wp2_with (at_builtin; refine wpList_append_bytes _ rfl _ _ rfl wx1.heap.size (.slice (some ⟨wx1.heap.size, 0, none⟩) 0 0) 0 [] rfl HZ.out A n c l rfl HB.out ?c1 ?c2 ?_)
  case c1 => omega
  case c2 => simp
  intro v' wx2 h1 h2
  have hb1 := ((Below.refl wx1.heap.size wx1).alloc (Nat.le_refl _) (.cells #[] 5)).grown h2 (by simp) (fun j hj => (HZ.out.lt j hj).1)
  have hsz := hb1.size
  have HO := Lib.hid (h1.alloc (.cells #[.int .u8 (77 : Nat)] 5))
  have HN := Lib.hid (bin_one wx2 77 (by decide))
  have hbel := hb1.alloc hsz (.cells #[.int .u8 (77 : Nat)] 5)
  clear h1 h2 HB HZ hb1
  go_wp2_with (at_builtin; refine wpList_append_bytes _ rfl _ _ rfl wx1.heap.size v' n l rfl HO.out (some ⟨wx2.heap.size, 0, none⟩) 1 1 [77] rfl HN.out ?d1 ?d2 ?_)
  case d1 => omega
  case d2 => simp; omega
  intro v2 wz h1 h2
  have hb2 := hbel.grown h2 (by simp; omega) (fun j hj => (HO.out.lt j hj).1)
  clear HO HN hbel h2
  obtain ⟨G, cap, rfl, hcap⟩ : ∃ G cap, v2 = .slice (some ⟨G, 0, none⟩) (n + 1) cap ∧ n + 1 ≤ cap := by
    rcases h1.2 with ⟨he, h0⟩ | ⟨G, cap, cur, e1, e2, e3⟩
    · exact absurd h0 (by simp)
    · exact ⟨G, cap, e1, by omega⟩
  have HU := Lib.hid (ownM_in h1 HL.out HLN.out (by omega))
  have hcell := (own_cells h1).2 n (by omega)
  have hg : (l ++ [77]).getD n 0 = 77 := by have h := HLN.out; subst h; simp [List.getD_eq_getElem?_getD]
  rw [Nat.zero_add, hg] at hcell
  clear hg h1
  have HCL := Lib.hid hcell
  clear hcell
  have HB3 := Lib.hid (HB0.out.below hb2)
  have bel3 := Lib.hid (bel1.trans (hb2.mono bel1.size))
  clear HB0 bel1 hb2 hsz
  have hk : (n : Int) ≤ (cap : Int) := by omega
  have hn0 : (0 : Int) ≤ (n : Int) := by omega
  have i1 : (n : Int) + 1 ≤ (cap : Int) := by omega
  have i2 : (n : Int) < (n : Int) + 1 := by omega
  have b0_ := Below.refl wz.heap.size wz
  go_wp2_with fail
  refine (HDK.out (some ⟨G, 0, none⟩) cap _ (HU.out.below b0_)).mono ?_
  rintro e w1 ⟨rfl, hbw1⟩
  have hbel2 := b0_.trans (Below.mono hbw1 b0_.size)
  clear b0_
  clear hbw1
  go_wp2_with (first | (refine stB rfl 43 (.tmp 5) (.tmp 22) rfl w1.heap.size rfl (pv lx ly false) rfl 43 (pv (zeros 4) (zeros 4) false) (Blk.new w1 43 (pv (zeros 4) (zeros 4) false)) (i43 L_lx.out L_ly.out) (lenEq (show (pv (zeros 4) (zeros 4) false).length = 9 from rfl) (pv_len L_lx.out L_ly.out)) (pv_one _ _ _) ?_; generalize hW : World.setRow _ _ _ = w3; obtain ⟨hgw3, hnw3⟩ := newfacts hW; clear hW; have hbel6 := hbel2.trans (Below.mono hgw3 hbel2.size); clear hbel2; have D5 := Lib.hid hnw3; have szw3 := hgw3.size; clear hnw3 hgw3 szw3; generalize w1.heap.size = G4 at *))
  refine (HDD.out A c _ (HB3.out.below hbel6)).mono ?_
  rintro e w7 ⟨rfl, hbw7⟩
  have C8 := Lib.hid (D5.out.gr hbw7)
  clear D5
  have hbel9 := hbel6.trans (Below.mono hbw7 hbel6.size)
  clear hbel6
  clear hbw7
  go_wp2_with (first | (refine stB rfl 43 (.tmp 7) (.tmp 27) rfl w7.heap.size rfl (pv lx ly false) rfl 43 (pv (zeros 4) (zeros 4) false) (Blk.new w7 43 (pv (zeros 4) (zeros 4) false)) (i43 L_lx.out L_ly.out) (lenEq (show (pv (zeros 4) (zeros 4) false).length = 9 from rfl) (pv_len L_lx.out L_ly.out)) (pv_one _ _ _) ?_; generalize hW : World.setRow _ _ _ = w10; obtain ⟨hgw10, hnw10⟩ := newfacts hW; clear hW; have C13 := Lib.hid (C8.out.gr hgw10); clear C8; have hbel14 := hbel9.trans (Below.mono hgw10 hbel9.size); clear hbel9; have D12 := Lib.hid hnw10; have szw10 := hgw10.size; clear hnw10 hgw10 szw10; generalize w7.heap.size = G11 at *))
  refine (same_eq (some ⟨G, 0, none⟩) A n cap c l _ (HU.out.below hbel14).1 (HB3.out.below hbel14).1).mono ?_
  rintro e w15 ⟨rfl, hbw15⟩
  have C16 := Lib.hid (C13.out.gr hbw15)
  clear C13
  have C17 := Lib.hid (D12.out.gr hbw15)
  clear D12
  have hbel18 := hbel14.trans (Below.mono hbw15 hbel14.size)
  clear hbel14
  clear hbw15
  have c77 : w15.cell? ⟨G, n, none⟩ = some (.int .u8 77) := (hbel18.cell (World.block_lt_of_cell? wz _ HCL.out)).trans HCL.out
  have q := QE.out
  go_wp2_with (first | (refine ldwM 43 (.tmp 5) rfl G4 0 rfl (pv lx ly false) _ (blk_all (C16.out)) Try.underlying43 rfl (i43 L_lx.out L_ly.out) 1 true rfl 36 rfl rfl ?_) | (refine ldwM 43 (.tmp 7) rfl G11 0 rfl (pv lx ly false) _ (blk_all (C17.out)) Try.underlying43 rfl (i43 L_lx.out L_ly.out) 1 true rfl 36 rfl rfl ?_))
  go_ret
  exact ⟨rfl, bel3.out.trans (hbel18.mono bel3.out.size)⟩
end Go.Proofs.Ytfffmoolkgheaaa
