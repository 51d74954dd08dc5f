/- Small numbers are drawn; small polynomials. Condition: the table of constants. -/
import Derived.Test.YtlbfnmmankoddaaDoorHv
import Derived.Test.YtlbfnmmankoddaaDoorFn
import Derived.Laws.EntriesVeiled
namespace Go.Proofs.YtlbfnmmankoddaaDoor
open Go.RowKit
set_option linter.unusedVariables false
set_option linter.unusedSimpArgs false
def smA (k : Nat) (L : List Nat) (h : Nat) : Bool := decide (hvB k L h < 9)
def smV (k : Nat) (L : List Nat) (h : Nat) : Int := 4 - (hvB k L h : Nat)
theorem smV_bd (k : Nat) (L : List Nat) (h : Nat) : -2147483648 ≤ smV k L h ∧ smV k L h ≤ 2147483647 := by
  have := hvB_lt k L h
  unfold smV; omega
/-- the closure's memory -/
def NearAt (own : Nat → Prop) (k : Nat) (L : List Nat) (most g5 g9 g7 gS hu hw hn hd : Nat) (w : World) (h : Nat) : Prop :=
  HalfAt own k L most g5 g9 g7 gS hu hw hn w h ∧ Blk w hd 36 [hvF hu hw hn] ∧ own hd ∧ hd ≠ hu ∧ hd ≠ hw
theorem NearAt.keep {own own2 : Nat → Prop} {k most g5 g9 g7 gS hu hw hn hd h : Nat} {L : List Nat} {w w' : World} (H : NearAt own k L most g5 g9 g7 gS hu hw hn hd w h) (hk : KeepS own2 w w') (h2 : ∀ g, own2 g → own g) (n1 : ¬ own2 hu) (n2 : ¬ own2 hw) (n3 : ¬ own2 hn) (n4 : ¬ own2 hd) : NearAt own k L most g5 g9 g7 gS hu hw hn hd w' h := by
  obtain ⟨⟨h1, hs, bu, ⟨x, hx, bw, hxe⟩, bn, o1, o2, o3, m1, m2, m3, o0⟩, bd, o4, m4, m5⟩ := H
  exact ⟨⟨h1, hs.keep (hk.mono h2) o0, bu.keep hk n1, ⟨x, hx, bw.keep hk n2, hxe⟩, bn.keep hk n3, o1, o2, o3, m1, m2, m3, o0⟩, bd.keep hk n4, o4, m4, m5⟩
set_option maxHeartbeats 1600000 in
theorem near_any (own : Nat → Prop) (OW : Nat) (hown : ∀ g, own g → g < OW) (k : Nat) (L : List Nat) (most g5 g9 g7 gS hu hw hn hd h0 : Nat) (w : World) (H : NearAt own k L most g5 g9 g7 gS hu hw hn hd w h0) (hOW : OW ≤ w.heap.size) :
    Calls Tryd.prog 32 #[.pointer (some ⟨hd, 0, none⟩)] w (DrawnIs (HalfS g5 g9 gS hu hw) (NearAt own k L most g5 g9 g7 gS hu hw hn hd) (smA k L) (smV k L) (2 * most) h0 w) := by
  have HS := Lib.hid H
  have HO := Lib.hid hown
  clear H hown
  have hm0 := HS.out.1.1
  go_enter Tryd.func32, Tryd.ntmps32
  go_wp2_with fail
  go_loopw [] (fun wr => ∃ h : Nat, h0 ≤ h ∧ NearAt own k L most g5 g9 g7 gS hu hw hn hd wr h ∧ KeepS (HalfS g5 g9 gS hu hw) w wr ∧ (∀ x, h0 ≤ x → x < h → smA k L x = false) ∧ wr.cell? ⟨g5, 0, none⟩ = some (.int .i64 ((most - (h + 1) / 2 : Nat) : Int)) ∧ wr.cell? ⟨hu, 0, none⟩ = some (.bool (decide (h % 2 = 0)))) (fun wr => (match wr.cell? ⟨g5, 0, none⟩ with | some (.int _ x) => 2 * x.toNat | _ => 0) + (match wr.cell? ⟨hu, 0, none⟩ with | some (.bool false) => 1 | _ => 0))
  case atStart => exact ⟨h0, Nat.le_refl _, HS.out, KeepS.refl _ _, fun x h1 h2 => by omega, HS.out.1.2.1.2.1.cell 0, HS.out.1.2.2.1.cell 0⟩
  case round =>
    clear HS
    obtain ⟨h, hh0, hs, hk, hall, hcl, hcu⟩ := hrel
    have hm := hs.1.1
    have cd : wr.cell? ⟨hd, 0, none⟩ = some (hvF hu hw hn) := hs.2.1.cell 0
    have HK := Lib.hid hk
    have HA := Lib.hid hall
    have HC := Lib.hid hcl
    have HU := Lib.hid hcu
    have HS := Lib.hid hs
    have hsz := hk.2.2.2.1
    clear hk hall hcl hcu hs
    by_cases h5 : h < 2 * most
    · have HN := Lib.hid (show Calls Tryd.prog 45 #[.pointer (some ⟨hu, 0, none⟩), .pointer (some ⟨hw, 0, none⟩), .pointer (some ⟨hn, 0, none⟩)] wr (HalfIs own k L most g5 g9 g7 gS hu hw hn h wr) from by
        by_cases ho : h % 2 = 1
        · exact half_odd own k L most g5 g9 g7 gS hu hw hn h wr HS.out.1 ho
        · exact half_even own OW HO.out k L most g5 g9 g7 gS hu hw hn h wr HS.out.1 (by omega) h5 (by omega))
      go_wp2_with fail
      refine HN.out.mono ?_
      rintro e w2 ⟨rfl, hs2, hk2⟩
      have o4 := HS.out.2.2.1
      have q : ¬ HalfS g5 g9 gS hu hw hd := by
        obtain ⟨⟨_, hsr, _, _, _, _⟩, _, o4, m4, m5⟩ := HS.out
        obtain ⟨_, _, _, _, ⟨_, _, _, _, _, _, _, _, _, n5, n9, n7, nS⟩, _⟩ := hsr
        intro hx
        rcases hx with (rfl | rfl | rfl) | rfl | rfl
        · exact n5 o4
        · exact n9 o4
        · exact nS o4
        · exact m4 rfl
        · exact m5 rfl
      have HS2 := Lib.hid (show NearAt own k L most g5 g9 g7 gS hu hw hn hd w2 (h + 1) from ⟨hs2, HS.out.2.1.keep hk2 q, HS.out.2.2⟩)
      have HK2 := Lib.hid (HK.out.trans hk2)
      have hvl := hvB_lt k L h
      have HAV := Lib.hid (show smA k L h = decide (hvB k L h < 9) ∧ smV k L h = 4 - ((hvB k L h : Nat) : Int) from ⟨rfl, rfl⟩)
      clear hs2 hk2 q
      generalize hvB k L h = v at *
      by_cases hle : v < 9
      · go_wp2_with fail
        go_ret2
        exact ⟨HK2.out, .inl ⟨h, hh0, h5, HA.out, by rw [HAV.out.1]; exact decide_eq_true hle, by rw [HAV.out.2]; rfl, HS2.out⟩⟩
      · have hle2 : ¬ ((v : Int) < 9) := by omega
        go_wp2_with fail
        go_roundw
        case rel => exact ⟨h + 1, by omega, HS2.out, HK2.out, fun x h1 h2 => by
          by_cases e : x = h
          · subst e; rw [HAV.out.1]; exact decide_eq_false hle
          · exact HA.out x h1 (by omega), HS2.out.1.2.1.2.1.cell 0, HS2.out.1.2.2.1.cell 0⟩
        case measure =>
          have e1 : w2.cell? ⟨g5, 0, none⟩ = some (.int .i64 ((most - (h + 1 + 1) / 2 : Nat) : Int)) := HS2.out.1.2.1.2.1.cell 0
          have e2 : w2.cell? ⟨hu, 0, none⟩ = some (.bool (decide ((h + 1) % 2 = 0))) := HS2.out.1.2.2.1.cell 0
          rw [e1, e2, HC.out, HU.out]
          by_cases ho : h % 2 = 0
          · rw [decide_eq_true ho, decide_eq_false (show ¬ (h + 1) % 2 = 0 by omega)]
            simp; omega
          · rw [decide_eq_false ho, decide_eq_true (show (h + 1) % 2 = 0 by omega)]
            simp; omega
    · obtain rfl : h = 2 * most := by omega
      have HN := Lib.hid (half_end own k L most g5 g9 g7 gS hu hw hn wr HS.out.1)
      go_wp2_with fail
      refine HN.out.mono ?_
      rintro e w2 ⟨rfl, hk2⟩
      have HK2 := Lib.hid (HK.out.trans hk2)
      clear hk2
      go_wp2_with fail
      go_ret2
      exact ⟨HK2.out, .inr ⟨HA.out, rfl⟩⟩
/-- what 'halves' answers -/
def HalvesIs (F : Value) (w : World) (e : Ending) (w' : World) : Prop := ∃ hu hw hn, e = .returned (.func (.func 45) #[] #[.pointer (some ⟨hu, 0, none⟩), .pointer (some ⟨hw, 0, none⟩), .pointer (some ⟨hn, 0, none⟩)]) ∧ w.heap.size ≤ hu ∧ w.heap.size ≤ hw ∧ w.heap.size ≤ hn ∧ hu ≠ hw ∧ hu ≠ hn ∧ hw ≠ hn ∧
  Blk w' hu 4 [.bool true] ∧ Blk w' hw 5 [.int .u8 0] ∧ Blk w' hn 36 [F] ∧ Below w.heap.size w w'
set_option maxHeartbeats 1600000 in
theorem halves_any (g5 g9 g7 : Nat) (w : World) : Calls Tryd.prog 31 #[nxF g5 g9 g7] w (HalvesIs (nxF g5 g9 g7) w) := by
  have B1 := Lib.hid (((Blk.new w 36 [nxF g5 g9 g7]).alloc (.cells #[.int .u8 0] 5)).alloc (.cells #[.bool true] 4))
  have B2 := Lib.hid ((Blk.new2 w (.cells #[nxF g5 g9 g7] 36) 5 [.int .u8 0]).alloc (.cells #[.bool true] 4))
  have B3 := Lib.hid (Blk.new3 w (.cells #[nxF g5 g9 g7] 36) (.cells #[.int .u8 0] 5) 4 [.bool true])
  have BEL := Lib.hid ((((Below.refl w.heap.size w).alloc (Nat.le_refl _) (.cells #[nxF g5 g9 g7] 36)).alloc (by simp) (.cells #[.int .u8 0] 5)).alloc (by simp; omega) (.cells #[.bool true] 4))
  go_enter Tryd.func31, Tryd.ntmps31
  go_wp2_with fail
  go_ret
  exact ⟨w.heap.size + 1 + 1, w.heap.size + 1, w.heap.size, rfl, by omega, by omega, by omega, by omega, by omega, by omega, B3.out, B2.out, B1.out, BEL.out⟩
abbrev nrF (hd : Nat) : Value := .func (.func 32) #[] #[.pointer (some ⟨hd, 0, none⟩)]
def NearIs (F : Value) (w : World) (e : Ending) (w' : World) : Prop := ∃ hu hw hn hd, e = .returned (nrF hd) ∧ (w.heap.size ≤ hu ∧ w.heap.size ≤ hw ∧ w.heap.size ≤ hn ∧ w.heap.size ≤ hd ∧ hu ≠ hw ∧ hu ≠ hn ∧ hw ≠ hn ∧ hd ≠ hu ∧ hd ≠ hw ∧ hd ≠ hn) ∧
  Blk w' hu 4 [.bool true] ∧ Blk w' hw 5 [.int .u8 0] ∧ Blk w' hn 36 [F] ∧ Blk w' hd 36 [hvF hu hw hn] ∧ Below w.heap.size w w'
set_option maxHeartbeats 1600000 in
theorem nearNought_any (g5 g9 g7 : Nat) (w : World) : Calls Tryd.prog 16 #[nxF g5 g9 g7] w (NearIs (nxF g5 g9 g7) w) := by
  have HH := Lib.hid (halves_any g5 g9 g7 w)
  go_enter Tryd.func16, Tryd.ntmps16
  go_wp2_with fail
  refine HH.out.mono ?_
  rintro e w1 ⟨hu, hw, hn, rfl, q1, q2, q3, q4, q5, q6, b1, b2, b3, hb⟩
  have l1 := b1.lt
  have l2 := b2.lt
  have l3 := b3.lt
  have C := Lib.hid (And.intro (b1.alloc (.cells #[hvF hu hw hn] 36)) (And.intro (b2.alloc (.cells #[hvF hu hw hn] 36)) (And.intro (b3.alloc (.cells #[hvF hu hw hn] 36)) (And.intro (Blk.new w1 36 [hvF hu hw hn]) (hb.alloc hb.size (.cells #[hvF hu hw hn] 36))))))
  have hsz := hb.size
  clear b1 b2 b3 hb HH
  go_wp2_with fail
  go_ret
  exact ⟨hu, hw, hn, w1.heap.size, rfl, ⟨q1, q2, q3, hsz, q4, q5, q6, by omega, by omega, by omega⟩, C.out⟩
end Go.Proofs.YtlbfnmmankoddaaDoor
