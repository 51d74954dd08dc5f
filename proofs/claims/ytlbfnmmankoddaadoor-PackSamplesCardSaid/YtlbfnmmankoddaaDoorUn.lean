/- Numbers below Q are drawn; uniform polynomials. Condition: the table of constants. -/
import Derived.Test.YtlbfnmmankoddaaDoorSm9
import Derived.Test.YtlbfnmmankoddaaDoorFw
import Derived.Laws.EntriesVeiled
import Derived.Laws.DeepBits32
namespace Go.Proofs.YtlbfnmmankoddaaDoor
open Go.RowKit
set_option linter.unusedVariables false
set_option linter.unusedSimpArgs false
/-- the number that three bytes make -/
def un3 (k : Nat) (L : List Nat) (j : Nat) : Nat := stY k L (3 * j) + 256 * stY k L (3 * j + 1) + 65536 * (stY k L (3 * j + 2) % 128)
theorem un3_lt (k : Nat) (L : List Nat) (j : Nat) : un3 k L j < 8388608 := by
  have h1 := stY_lt k L (3 * j)
  have h2 := stY_lt k L (3 * j + 1)
  unfold un3; omega
def unA (k : Nat) (L : List Nat) (j : Nat) : Bool := decide (un3 k L j < 8380417)
def unV (k : Nat) (L : List Nat) (j : Nat) : Int := (un3 k L j : Nat)
theorem unV_bd (k : Nat) (L : List Nat) (j : Nat) : -2147483648 ≤ unV k L j ∧ unV k L j ≤ 2147483647 := by
  have := un3_lt k L j
  unfold unV; omega
theorem and_127 {y : Nat} (h : y < 256) : bits .and .u8 (y : Int) 127 = ((y % 128 : Nat) : Int) := by
  have h2 := u8_and_nat y 127 h (by decide)
  rw [show (127 : Nat) = 2 ^ 7 - 1 from rfl, Nat.and_two_pow_sub_one_eq_mod] at h2
  exact h2
theorem i32_or_n (a b : Nat) (ha : a < 1073741824) (hb : b < 1073741824) : bits .or .i32 (a : Int) (b : Int) = ((a ||| b : Nat) : Int) := by
  have hx : a ||| b < 2 ^ 30 := Nat.or_lt_two_pow (by omega) (by omega)
  show IntKind.i32.wrap ((BitVec.ofInt 32 (a : Int) ||| BitVec.ofInt 32 (b : Int)).toNat : Int) = _
  rw [BitVec.toNat_or, ofInt_u32 a (by omega), ofInt_u32 b (by omega)]
  exact wrap_i32_small _ (by omega) (by omega)
theorem or_i8 {a b : Nat} (ha : a < 256) (hb : b < 256) : bits .or .i32 (a : Int) ((b : Int) * 256) = ((a + b * 256 : Nat) : Int) := by
  have e : (b : Int) * 256 = ((b * 256 : Nat) : Int) := by omega
  rw [e, i32_or_n a (b * 256) (by omega) (by omega)]
  have := wait_or (m := 8) b (show a < 2 ^ 8 by omega)
  rw [show (2 : Nat) ^ 8 = 256 from rfl] at this
  rw [this]
theorem or_i16 {a b : Nat} (ha : a < 65536) (hb : b < 128) : bits .or .i32 (a : Int) (wrap32 (wrap32 (b : Int) * 65536)) = ((a + b * 65536 : Nat) : Int) := by
  have e : wrap32 (wrap32 (b : Int) * 65536) = ((b * 65536 : Nat) : Int) := by
    have h1 : wrap32 (b : Int) = b := wrap32_id (by omega) (by omega)
    rw [h1, wrap32_id (by omega) (by omega)]; omega
  rw [e, i32_or_n a (b * 65536) (by omega) (by omega)]
  have := wait_or (m := 16) b (show a < 2 ^ 16 by omega)
  rw [show (2 : Nat) ^ 16 = 65536 from rfl] at this
  rw [this]
def UniAt (own : Nat → Prop) (k : Nat) (L : List Nat) (most g5 g9 g7 gS hb : Nat) (w : World) (j : Nat) : Prop :=
  3 * j ≤ most ∧ Src own k L most g5 g9 g7 gS w (3 * j) ∧ Blk w hb 36 [nxF g5 g9 g7] ∧ own hb ∧ ¬ own 0
theorem UniAt.keep {own own2 : Nat → Prop} {k most g5 g9 g7 gS hb j : Nat} {L : List Nat} {w w' : World} (H : UniAt own k L most g5 g9 g7 gS hb w j) (hk : KeepS own2 w w') (h2 : ∀ g, own2 g → own g) (n1 : ¬ own2 hb) : UniAt own k L most g5 g9 g7 gS hb w' j :=
  ⟨H.1, H.2.1.keep (hk.mono h2) H.2.2.2.2, H.2.2.1.keep hk n1, H.2.2.2⟩
set_option maxRecDepth 100000 in
set_option maxHeartbeats 3200000 in
theorem below_any (own : Nat → Prop) (OW : Nat) (hown : ∀ g, own g → g < OW) (k : Nat) (L : List Nat) (M most g5 g9 g7 gS hb j0 : Nat) (hM : most = 3 * M) (w : World) (H : UniAt own k L most g5 g9 g7 gS hb w j0) (hOW : OW ≤ w.heap.size) :
    Calls Tryd.prog 26 #[.pointer (some ⟨hb, 0, none⟩)] w (DrawnIs (SrcS g5 g9 gS) (UniAt own k L most g5 g9 g7 gS hb) (unA k L) (unV k L) M j0 w) := by
  have HS := Lib.hid H
  have HO := Lib.hid hown
  have HM := Lib.hid hM
  clear H hown hM
  go_enter Tryd.func26, Tryd.ntmps26
  go_wp2_with fail
  go_loopw [] (fun wr => ∃ j : Nat, j0 ≤ j ∧ UniAt own k L most g5 g9 g7 gS hb wr j ∧ KeepS (SrcS g5 g9 gS) w wr ∧ (∀ x, j0 ≤ x → x < j → unA k L x = false) ∧ wr.cell? ⟨g5, 0, none⟩ = some (.int .i64 ((most - 3 * j : Nat) : Int))) (fun wr => match wr.cell? ⟨g5, 0, none⟩ with | some (.int _ x) => x.toNat | _ => 0)
  case atStart => exact ⟨j0, Nat.le_refl _, HS.out, KeepS.refl _ _, fun x h1 h2 => by omega, HS.out.2.1.2.1.cell 0⟩
  case round =>
    clear HS
    obtain ⟨j, hj0, hs, hk, hall, hcl⟩ := hrel
    have cd : wr.cell? ⟨hb, 0, none⟩ = some (nxF g5 g9 g7) := hs.2.2.1.cell 0
    have HK := Lib.hid hk
    have HA := Lib.hid hall
    have HC := Lib.hid hcl
    have HS := Lib.hid hs
    have hsz := hk.2.2.2.1
    have q : ¬ SrcS g5 g9 gS hb := by
      obtain ⟨_, hsr, _, o4, _⟩ := hs
      obtain ⟨_, _, _, _, ⟨_, _, _, _, _, _, _, _, _, n5, n9, n7, nS⟩, _⟩ := hsr
      intro hx
      rcases hx with rfl | rfl | rfl
      · exact n5 o4
      · exact n9 o4
      · exact nS o4
    have HQ := Lib.hid q
    have hm3 := hs.1
    clear hk hall hcl hs q
    by_cases h5 : j < M
    · have hlt3 : 3 * j + 2 < most := by have := HM.out; omega
      have HN1 := Lib.hid (next_any own OW HO.out k L most g5 g9 g7 gS (3 * j) wr HS.out.2.1 (by omega) (by omega))
      go_wp2_with fail
      refine HN1.out.mono ?_
      rintro e w2 ⟨rfl, hs2, hk2⟩
      have HS2 := Lib.hid hs2
      have HK2 := Lib.hid hk2
      have B2 := Lib.hid (HS.out.2.2.1.keep hk2 HQ.out)
      have cd2 : w2.cell? ⟨hb, 0, none⟩ = some (nxF g5 g9 g7) := B2.out.cell 0
      have hsz2 := hk2.2.2.2.1
      clear hs2 hk2
      have HN2 := Lib.hid (next_any own OW HO.out k L most g5 g9 g7 gS (3 * j + 1) w2 HS2.out (by omega) (by omega))
      go_wp2_with fail
      refine HN2.out.mono ?_
      rintro e w3 ⟨rfl, hs3, hk3⟩
      have HS3 := Lib.hid hs3
      have HK3 := Lib.hid (HK2.out.trans hk3)
      have B3 := Lib.hid (B2.out.keep hk3 HQ.out)
      have cd3 : w3.cell? ⟨hb, 0, none⟩ = some (nxF g5 g9 g7) := B3.out.cell 0
      have hsz3 := hk3.2.2.2.1
      clear hs3 hk3
      have HN3 := Lib.hid (next_any own OW HO.out k L most g5 g9 g7 gS (3 * j + 2) w3 HS3.out (by omega) (by omega))
      go_wp2_with fail
      refine HN3.out.mono ?_
      rintro e w4 ⟨rfl, hs4, hk4⟩
      have HS4 := Lib.hid (show UniAt own k L most g5 g9 g7 gS hb w4 (j + 1) from ⟨by omega, by rw [show 3 * (j + 1) = 3 * j + 2 + 1 by omega]; exact hs4, B3.out.keep hk4 HQ.out, HS.out.2.2.2⟩)
      have HK4 := Lib.hid (HK.out.trans (HK3.out.trans hk4))
      clear hs4 hk4
      have y1 := stY_lt k L (3 * j)
      have y2 := stY_lt k L (3 * j + 1)
      have y3 := stY_lt k L (3 * j + 2)
      have HU := Lib.hid (show un3 k L j = stY k L (3 * j) + stY k L (3 * j + 1) * 256 + (stY k L (3 * j + 2) % 128) * 65536 from by unfold un3; omega)
      have hul := un3_lt k L j
      have a1 := and_127 y3
      have o1 := or_i8 y1 y2
      have o2 := or_i16 (a := stY k L (3 * j) + stY k L (3 * j + 1) * 256) (b := stY k L (3 * j + 2) % 128) (by omega) (by omega)
      rw [← HU.out] at o2
      have HAV := Lib.hid (show (unA k L j = true ↔ ((un3 k L j : Nat) : Int) < 8380417) ∧ unV k L j = ((un3 k L j : Nat) : Int) from ⟨by unfold unA; rw [decide_eq_true_iff]; omega, rfl⟩)
      clear HU hul
      generalize stY k L (3 * j) + stY k L (3 * j + 1) * 256 = c1 at *
      generalize ((un3 k L j : Nat) : Int) = u at *
      generalize stY k L (3 * j) = b1 at *
      generalize stY k L (3 * j + 1) = b2 at *
      generalize stY k L (3 * j + 2) % 128 = b3 at *
      generalize stY k L (3 * j + 2) = b4 at *
      go_wp2_with fail
      · rename_i hh
        go_ret2
        exact ⟨HK4.out, .inl ⟨j, hj0, h5, HA.out, HAV.out.1.2 hh, by rw [HAV.out.2]; rfl, HS4.out⟩⟩
      · rename_i hh
        go_roundw
        case rel => exact ⟨j + 1, by omega, HS4.out, HK4.out, fun x h1 h2 => by
          by_cases e : x = j
          · subst e; exact Bool.eq_false_iff.2 (fun ha => by have := HAV.out.1.1 ha; omega)
          · exact HA.out x h1 (by omega), HS4.out.2.1.2.1.cell 0⟩
        case measure =>
          have e1 : w4.cell? ⟨g5, 0, none⟩ = some (.int .i64 ((most - 3 * (j + 1) : Nat) : Int)) := HS4.out.2.1.2.1.cell 0
          rw [e1, HC.out]
          simp; omega
    · have hjM : 3 * j = most := by have := HM.out; omega
      have hs0 := HS.out.2.1
      rw [hjM] at hs0
      have HN := Lib.hid (next_end own k L most g5 g9 g7 gS wr hs0)
      have HJ := Lib.hid (show j = M by have := HM.out; omega)
      clear hs0 hjM
      go_wp2_with fail
      refine HN.out.mono ?_
      rintro e w2 ⟨rfl, rfl⟩
      go_wp2_with fail
      refine HN.out.mono ?_
      rintro e w2 ⟨rfl, rfl⟩
      go_wp2_with fail
      refine HN.out.mono ?_
      rintro e w2 ⟨rfl, rfl⟩
      go_wp2_with fail
      go_ret2
      exact ⟨HK.out, .inr ⟨fun x h1 h2 => HA.out x h1 (by have := HJ.out; omega), rfl⟩⟩
abbrev unF (hb : Nat) : Value := .func (.func 26) #[] #[.pointer (some ⟨hb, 0, none⟩)]
theorem belowQ_any (g5 g9 g7 : Nat) (w : World) : Calls Tryd.prog 14 #[nxF g5 g9 g7] w fun e w' => e = .returned (unF w.heap.size) ∧ w' = w.alloc (.cells #[nxF g5 g9 g7] 36) := by
  go_enter Tryd.func14, Tryd.ntmps14
  go_wp2_with fail
  go_ret
  exact ⟨rfl, rfl⟩
end Go.Proofs.YtlbfnmmankoddaaDoor
