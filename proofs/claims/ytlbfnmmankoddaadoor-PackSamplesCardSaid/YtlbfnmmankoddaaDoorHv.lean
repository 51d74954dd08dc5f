/- Half bytes, one at a call; small numbers. Condition: the source's memory. -/
import Derived.Test.YtlbfnmmankoddaaDoorFi
namespace Go.Proofs.YtlbfnmmankoddaaDoor
open Go.RowKit
set_option linter.unusedVariables false
set_option linter.unusedSimpArgs false
/-- the half byte at place h -/
def hvB (k : Nat) (L : List Nat) (h : Nat) : Nat := if h % 2 = 0 then stY k L (h / 2) % 16 else stY k L (h / 2) / 16
theorem hvB_lt (k : Nat) (L : List Nat) (h : Nat) : hvB k L h < 16 := by
  have := stY_lt k L (h / 2)
  unfold hvB; split <;> omega
abbrev hvF (hu hw hn : Nat) : Value := .func (.func 45) #[] #[.pointer (some ⟨hu, 0, none⟩), .pointer (some ⟨hw, 0, none⟩), .pointer (some ⟨hn, 0, none⟩)]
def HalfAt (own : Nat → Prop) (k : Nat) (L : List Nat) (most g5 g9 g7 gS hu hw hn : Nat) (w : World) (h : Nat) : Prop :=
  h ≤ 2 * most ∧ Src own k L most g5 g9 g7 gS w ((h + 1) / 2) ∧ Blk w hu 4 [.bool (decide (h % 2 = 0))] ∧
  (∃ x : Nat, x < 256 ∧ Blk w hw 5 [.int .u8 (x : Nat)] ∧ (h % 2 = 1 → x = stY k L (h / 2))) ∧ Blk w hn 36 [nxF g5 g9 g7] ∧
  (own hu ∧ own hw ∧ own hn ∧ hu ≠ hw ∧ hu ≠ hn ∧ hw ≠ hn ∧ ¬ own 0)
def HalfS (g5 g9 gS hu hw : Nat) (k : Nat) : Prop := SrcS g5 g9 gS k ∨ k = hu ∨ k = hw
theorem own_ne {own : Nat → Prop} {a b : Nat} (h : own a) (h2 : ¬ own b) : a ≠ b := fun e => h2 (e ▸ h)
def HalfIs (own : Nat → Prop) (k : Nat) (L : List Nat) (most g5 g9 g7 gS hu hw hn h : Nat) (w : World) (e : Ending) (w' : World) : Prop :=
  e = .returned (.tuple #[.int .u8 (hvB k L h : Nat), .bool true]) ∧ HalfAt own k L most g5 g9 g7 gS hu hw hn w' (h + 1) ∧ KeepS (HalfS g5 g9 gS hu hw) w w'
set_option maxHeartbeats 1600000 in
theorem half_odd (own : Nat → Prop) (k : Nat) (L : List Nat) (most g5 g9 g7 gS hu hw hn h : Nat) (w : World) (H : HalfAt own k L most g5 g9 g7 gS hu hw hn w h) (ho : h % 2 = 1) :
    Calls Tryd.prog 45 #[.pointer (some ⟨hu, 0, none⟩), .pointer (some ⟨hw, 0, none⟩), .pointer (some ⟨hn, 0, none⟩)] w (HalfIs own k L most g5 g9 g7 gS hu hw hn h w) := by
  obtain ⟨h1, hs, bu, ⟨x, hx, bw, hxe⟩, bn, o1, o2, o3, n1, n2, n3, o0⟩ := H
  have hx2 := hxe ho
  rw [show decide (h % 2 = 0) = false from decide_eq_false (by omega)] at bu
  have cu : w.cell? ⟨hu, 0, none⟩ = some (.bool false) := bu.cell 0
  have fu := bu.free 0
  have bw1 := bw.other ⟨hu, 0, none⟩ (.bool true) (Ne.symm n1)
  have cw : (w.setCell ⟨hu, 0, none⟩ (.bool true)).cell? ⟨hw, 0, none⟩ = some (.int .u8 (x : Nat)) := bw1.cell 0
  have FIN := Lib.hid (show HalfAt own k L most g5 g9 g7 gS hu hw hn (w.setCell ⟨hu, 0, none⟩ (.bool true)) (h + 1) ∧ KeepS (HalfS g5 g9 gS hu hw) w (w.setCell ⟨hu, 0, none⟩ (.bool true)) from by
    refine ⟨⟨by omega, ?_, ?_, ⟨x, hx, bw1, fun h3 => by omega⟩, bn.other ⟨hu, 0, none⟩ (.bool true) (Ne.symm n2), o1, o2, o3, n1, n2, n3, o0⟩, KeepS.cell w hu 0 _ (.inr (.inl rfl))⟩
    · rw [show (h + 1 + 1) / 2 = (h + 1) / 2 by omega]
      exact hs.keep (KeepS.cell w hu 0 _ o1) o0
    · rw [show decide ((h + 1) % 2 = 0) = true from decide_eq_true (by omega)]
      exact bu.set 0 (.bool true))
  have HV := Lib.hid (show hvB k L h = x / 16 from by unfold hvB; rw [if_neg (by omega), hx2])
  clear hs bu bw bn bw1 hxe hx2 o1 o2 o3 n1 n2 n3 o0
  go_enter Tryd.func45, Tryd.ntmps45
  go_wp2_with fail
  go_ret2
  exact ⟨by rw [HV.out]; go_num, FIN.out⟩
theorem and_15 {y : Nat} (h : y < 256) : bits .and .u8 (y : Int) 15 = ((y % 16 : Nat) : Int) := by
  have h2 := u8_and_nat y 15 h (by decide)
  rw [show (15 : Nat) = 2 ^ 4 - 1 from rfl, Nat.and_two_pow_sub_one_eq_mod] at h2
  exact h2
set_option maxHeartbeats 1600000 in
theorem half_even (own : Nat → Prop) (OW : Nat) (hown : ∀ g, own g → g < OW) (k : Nat) (L : List Nat) (most g5 g9 g7 gS hu hw hn h : Nat) (w : World) (H : HalfAt own k L most g5 g9 g7 gS hu hw hn w h) (he : h % 2 = 0) (hlt : h < 2 * most) (hOW : OW ≤ w.heap.size) :
    Calls Tryd.prog 45 #[.pointer (some ⟨hu, 0, none⟩), .pointer (some ⟨hw, 0, none⟩), .pointer (some ⟨hn, 0, none⟩)] w (HalfIs own k L most g5 g9 g7 gS hu hw hn h w) := by
  obtain ⟨h1, hs, bu, ⟨x, hx, bw, hxe⟩, bn, o1, o2, o3, n1, n2, n3, o0⟩ := H
  obtain ⟨_, _, _, _, ⟨_, _, _, _, _, _, _, _, _, m5, m9, m7, mS⟩, _⟩ := id hs
  rw [show decide (h % 2 = 0) = true from decide_eq_true he] at bu
  have cu : w.cell? ⟨hu, 0, none⟩ = some (.bool true) := bu.cell 0
  have fu := bu.free 0
  have bu1 := bu.set 0 (.bool false)
  have bw1 := bw.other ⟨hu, 0, none⟩ (.bool false) (Ne.symm n1)
  have bn1 := bn.other ⟨hu, 0, none⟩ (.bool false) (Ne.symm n2)
  have hs1 := hs.keep (KeepS.cell (S := own) w hu 0 (.bool false) o1) o0
  rw [show (h + 1) / 2 = h / 2 by omega] at hs1
  have cn : (w.setCell ⟨hu, 0, none⟩ (.bool false)).cell? ⟨hn, 0, none⟩ = some (nxF g5 g9 g7) := bn1.cell 0
  have HN := Lib.hid (next_any own OW hown k L most g5 g9 g7 gS (h / 2) _ hs1 (by omega) (by simp [World.setCell]; exact hOW))
  have K1 := Lib.hid (KeepS.cell (S := HalfS g5 g9 gS hu hw) w hu 0 (.bool false) (.inr (.inl rfl)))
  have ALL := Lib.hid (And.intro bu1 (And.intro bw1 (And.intro bn1 (And.intro h1 (And.intro o1 (And.intro o2 (And.intro o3 (And.intro n1 (And.intro n2 (And.intro n3 (And.intro o0 (And.intro m5 (And.intro m9 mS)))))))))))))
  have HV := Lib.hid (show hvB k L h = stY k L (h / 2) % 16 from by unfold hvB; rw [if_pos he])
  have hyl := stY_lt k L (h / 2)
  have HE := Lib.hid (And.intro he hlt)
  clear hs hs1 bu bw bn bu1 bw1 bn1 hxe h1 o1 o2 o3 n1 n2 n3 o0 m5 m9 m7 mS he hlt
  go_enter Tryd.func45, Tryd.ntmps45
  go_wp2_with fail
  refine HN.out.mono ?_
  rintro e w2 ⟨rfl, hs2, hk2⟩
  obtain ⟨bu1, bw1, bn1, h1, o1, o2, o3, n1, n2, n3, o0, m5, m9, mS⟩ := ALL.out
  obtain ⟨he, hlt⟩ := HE.out
  have q : ∀ g, own g → ¬ SrcS g5 g9 gS g := fun g hg hs => by
    rcases hs with rfl | rfl | rfl
    · exact m5 hg
    · exact m9 hg
    · exact mS hg
  have bu2 := bu1.keep hk2 (q _ o1)
  have bw2 := bw1.keep hk2 (q _ o2)
  have bn2 := bn1.keep hk2 (q _ o3)
  have k2 := K1.out.trans (hk2.mono (T := HalfS g5 g9 gS hu hw) (fun _ h => .inl h))
  have hand := and_15 hyl
  obtain ⟨y, hy⟩ : ∃ y, stY k L (h / 2) = y := ⟨_, rfl⟩
  rw [hy] at hand hyl ⊢
  have HY := Lib.hid hy
  have cw : w2.cell? ⟨hw, 0, none⟩ = some (.int .u8 (x : Nat)) := bw2.cell 0
  have fw := bw2.free 0
  have FIN := Lib.hid (show HalfAt own k L most g5 g9 g7 gS hu hw hn (w2.setCell ⟨hw, 0, none⟩ (.int .u8 (y : Nat))) (h + 1) ∧ KeepS (HalfS g5 g9 gS hu hw) w (w2.setCell ⟨hw, 0, none⟩ (.int .u8 (y : Nat))) from by
    refine ⟨⟨by omega, ?_, ?_, ⟨y, hyl, bw2.set 0 (.int .u8 (y : Nat)), fun _ => by rw [← hy]; congr 1; omega⟩, bn2.other ⟨hw, 0, none⟩ (.int .u8 (y : Nat)) (Ne.symm n3), o1, o2, o3, n1, n2, n3, o0⟩, k2.trans (KeepS.cell w2 hw 0 _ (.inr (.inr rfl)))⟩
    · rw [show (h + 1 + 1) / 2 = h / 2 + 1 by omega]
      exact hs2.keep (KeepS.cell w2 hw 0 _ o2) o0
    · rw [show decide ((h + 1) % 2 = 0) = false from decide_eq_false (by omega)]
      exact bu2.other ⟨hw, 0, none⟩ (.int .u8 (y : Nat)) n1)
  clear hs2 hk2 bu1 bw1 bn1 o1 o2 o3 n1 n2 n3 o0 m5 m9 mS bu2 bw2 bn2 k2 q hy he hlt
  go_wp2_with fail
  go_ret2
  exact ⟨by rw [HV.out, HY.out]; rfl, FIN.out⟩
set_option maxHeartbeats 1600000 in
theorem half_end (own : Nat → Prop) (k : Nat) (L : List Nat) (most g5 g9 g7 gS hu hw hn : Nat) (w : World) (H : HalfAt own k L most g5 g9 g7 gS hu hw hn w (2 * most)) :
    Calls Tryd.prog 45 #[.pointer (some ⟨hu, 0, none⟩), .pointer (some ⟨hw, 0, none⟩), .pointer (some ⟨hn, 0, none⟩)] w fun e w' => e = .returned (.tuple #[.int .u8 0, .bool false]) ∧ KeepS (HalfS g5 g9 gS hu hw) w w' := by
  obtain ⟨h1, hs, bu, ⟨x, hx, bw, hxe⟩, bn, o1, o2, o3, n1, n2, n3, o0⟩ := H
  rw [show decide (2 * most % 2 = 0) = true from decide_eq_true (by omega)] at bu
  have cu : w.cell? ⟨hu, 0, none⟩ = some (.bool true) := bu.cell 0
  have fu := bu.free 0
  have bw1 := bw.other ⟨hu, 0, none⟩ (.bool false) (Ne.symm n1)
  have bn1 := bn.other ⟨hu, 0, none⟩ (.bool false) (Ne.symm n2)
  have hs1 := hs.keep (KeepS.cell (S := own) w hu 0 (.bool false) o1) o0
  rw [show (2 * most + 1) / 2 = most by omega] at hs1
  have cn : (w.setCell ⟨hu, 0, none⟩ (.bool false)).cell? ⟨hn, 0, none⟩ = some (nxF g5 g9 g7) := bn1.cell 0
  have HN := Lib.hid (next_end own k L most g5 g9 g7 gS _ hs1)
  have K1 := Lib.hid (KeepS.cell (S := HalfS g5 g9 gS hu hw) w hu 0 (.bool false) (.inr (.inl rfl)))
  have cw : (w.setCell ⟨hu, 0, none⟩ (.bool false)).cell? ⟨hw, 0, none⟩ = some (.int .u8 (x : Nat)) := bw1.cell 0
  have fw := bw1.free 0
  have K2 := Lib.hid (K1.out.trans (KeepS.cell (S := HalfS g5 g9 gS hu hw) (w.setCell ⟨hu, 0, none⟩ (.bool false)) hw 0 (.int .u8 0) (.inr (.inr rfl))))
  have h15 : bits .and .u8 0 15 = 0 := by decide
  clear hs hs1 bu bw bn bw1 bn1 hxe h1 o1 o2 o3 n1 n2 n3 o0
  go_enter Tryd.func45, Tryd.ntmps45
  go_wp2_with fail
  refine HN.out.mono ?_
  rintro e w2 ⟨rfl, rfl⟩
  go_wp2_with fail
  go_ret2
  exact ⟨rfl, K2.out⟩
end Go.Proofs.YtlbfnmmankoddaaDoor
