/- Digits read as bytes: the document's function. -/
import Derived.Test.YtgoackkmjfgneaaUnhex
namespace Go.Proofs.Ytgoackkmjfgneaa
open Go.RowKit
set_option linter.unusedVariables false

set_option maxHeartbeats 800000 in
theorem unhex32_any (s : ByteArray) (m r : Nat) (res : Option (List Nat)) (w : World) (hs : s.size = 2 * m + r) (hr : r ≤ 1) (hm : m ≤ 70368744177664) (hres : res = if r = 1 then none else unhexTo (strL s) m) :
    Calls Try.prog 32 #[.string s] w (UnhexIs res m w) := by
  have HRES := Lib.hid hres
  have HR1 := Lib.hid hr
  clear hres hr
  obtain ⟨i0, hi, hz0, hz1, hz2⟩ := info_parts info5
  have hs2 : s.size ≤ 281474976710656 := by have := HR1.out; omega
  have HS := Lib.hid hs
  clear hs
  go_enter Try.func32, Try.ntmps32
  go_wp2_with fail
  go_loopw [4, 5] (fun v i wr => ∃ (k : Nat) (L : List Nat), k ≤ m ∧ i = .int .i64 ((2 * k : Nat) : Int) ∧ wr.ownsRow w.heap.size 5 1 v k (bytesV L) ∧ unhexTo (strL s) k = some L ∧ Below w.heap.size w wr) (fun _ i _ => s.size - (intOf i).toNat)
  case atStart => exact ⟨0, [], Nat.zero_le _, rfl, World.ownsRow_nil _ _ _ _, rfl, Below.refl _ _⟩
  case round =>
    obtain ⟨k, L, hk, rfl, hown, hu, hbel⟩ := hrel
    have HU := Lib.hid hu
    clear hu
    by_cases hlt : k < m
    · have l0 : 2 * k < s.size := by have := HS.out; omega
      have l1 : 2 * k + 1 < s.size := by have := HS.out; omega
      have c0 := strL_at s (2 * k) l0
      have c1 := strL_at s (2 * k + 1) l1
      have b0 := strL_lt s (2 * k)
      have b1 := strL_lt s (2 * k + 1)
      have HNA := Lib.hid (@unhexTo_none_a (strL s) k)
      have HNB := Lib.hid (@unhexTo_none_b (strL s) k)
      have HSO := Lib.hid (fun a b => @unhexTo_some (strL s) L k a b HU.out)
      generalize (strL s).getD (2 * k) 0 = x at *
      generalize (strL s).getD (2 * k + 1) 0 = y at *
      cases hx : unhexD x with
      | none =>
        have HX := Lib.hid hx
        have HN := Lib.hid (show unhexTo (strL s) m = none by have := unhexTo_more (HNA.out hx) (m - (k + 1)); rwa [show k + 1 + (m - (k + 1)) = m by omega] at this)
        clear hx
        cases hy : unhexD y with
        | none =>
          have HY := Lib.hid hy
          clear hy
          go_wp2_with fail
          refine (dig42_no x _ b0 HX.out).mono ?_
          rintro e w' ⟨rfl, rfl⟩
          go_wp2_with fail
          refine (dig42_no y _ b1 HY.out).mono ?_
          rintro e w' ⟨rfl, rfl⟩
          go_wp2_with fail
          go_ret2
          rw [HRES.out, HN.out, ite_self]; exact ⟨rfl, hbel⟩
        | some b =>
          have HY := Lib.hid hy
          clear hy
          go_wp2_with fail
          refine (dig42_no x _ b0 HX.out).mono ?_
          rintro e w' ⟨rfl, rfl⟩
          go_wp2_with fail
          refine (dig42_yes y b _ b1 HY.out).mono ?_
          rintro e w' ⟨rfl, rfl⟩
          go_wp2_with fail
          go_ret2
          rw [HRES.out, HN.out, ite_self]; exact ⟨rfl, hbel⟩
      | some a =>
        have HX := Lib.hid hx
        clear hx
        have ha := unhexD_lt HX.out
        have da : ((a : Int) == 16) = false := by rw [beq_eq_false_iff_ne]; omega
        cases hy : unhexD y with
        | none =>
          have HY := Lib.hid hy
          have HN := Lib.hid (show unhexTo (strL s) m = none by have := unhexTo_more (HNB.out hy) (m - (k + 1)); rwa [show k + 1 + (m - (k + 1)) = m by omega] at this)
          clear hy
          go_wp2_with fail
          refine (dig42_yes x a _ b0 HX.out).mono ?_
          rintro e w' ⟨rfl, rfl⟩
          go_wp2_with fail
          refine (dig42_no y _ b1 HY.out).mono ?_
          rintro e w' ⟨rfl, rfl⟩
          go_wp2_with fail
          go_ret2
          rw [HRES.out, HN.out, ite_self]; exact ⟨rfl, hbel⟩
        | some b =>
          have HY := Lib.hid hy
          have hb := unhexD_lt hy
          have db : ((b : Int) == 16) = false := by rw [beq_eq_false_iff_ne]; omega
          have hso := HSO.out a b HX.out hy
          clear hy
          have HSZ := Lib.hid hso
          clear hso
          go_wp2_with fail
          refine (dig42_yes x a _ b0 HX.out).mono ?_
          rintro e w' ⟨rfl, rfl⟩
          go_wp2_with fail
          refine (dig42_yes y b _ b1 HY.out).mono ?_
          rintro e w' ⟨rfl, rfl⟩
          go_wp2_with (at_builtin; refine wpList_append_own _ rfl (.tmp 30) (.tmp 36) 22 rfl w.heap.size 5 i0 (.int .u8 0) 1 1 Try.underlying22 hi hz0 hz1 hz2 rfl (by decide) _ k _ rfl (hown.alloc _) ⟨wr.heap.size, 0, none⟩ 1 1 [_] rfl rfl (one_new _ _ _) (by simp [Value.oneCell']) (by unfold maxLen; omega) (by omega) (by have := hbel.size; simp; omega) ?_)
          intro v2 w2 hown2 hgrow2 _
          have hbel2 : Below w.heap.size w w2 := (hbel.alloc hbel.size _).grown hgrow2 (by have := hbel.size; simp; omega) (fun j hj => (hown.lt j hj).1)
          have hown3 : w2.ownsRow w.heap.size 5 1 v2 (k + 1) (bytesV (L ++ [16 * a + b])) := by
            rw [← bytesV_snoc]
            exact hown2
          clear hown hgrow2 c0 c1 hown2 da db
          go_wp2
          go_roundw
          case rel => exact ⟨k + 1, _, by omega, by go_num, hown3, HSZ.out, hbel2⟩
          case measure => simp [intOf]; omega
    · obtain rfl : k = m := by omega
      have hlen := unhexTo_length HU.out
      have HI := Lib.hid (own_in hown hlen.2 (by omega))
      rcases Nat.eq_zero_or_pos r with h0 | h0
      · subst h0
        have hge : ¬ (2 * k + 1 < s.size) := by have := HS.out; omega
        have d : ((s.size : Int) % 2 != 0) = false := by have := HS.out; rw [bne_eq_false_iff_eq]; omega
        go_wp2
        go_ret2
        rw [HRES.out, if_neg (by decide), HU.out]
        obtain ⟨a, c, rfl, hin, _⟩ := HI.out
        exact ⟨a, c, rfl, hin, hbel⟩
      · obtain rfl : r = 1 := by have := HR1.out; omega
        have hge : ¬ (2 * k + 1 < s.size) := by have := HS.out; omega
        have d : ((s.size : Int) % 2 != 0) = true := by have := HS.out; rw [bne_iff_ne]; omega
        go_wp2
        go_ret2
        have hnone : res = none := by have := HRES.out; simpa using this
        rw [hnone]
        exact ⟨rfl, hbel⟩
end Go.Proofs.Ytgoackkmjfgneaa
