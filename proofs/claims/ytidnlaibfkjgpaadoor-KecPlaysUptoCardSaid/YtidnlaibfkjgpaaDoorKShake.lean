/- Shake: so many bytes, or a refusal. Condition: the table of constants. -/
import Derived.Test.YtidnlaibfkjgpaaDoorKNil
import Derived.Test.YtidnlaibfkjgpaaDoorKTop
namespace Go.Proofs.YtidnlaibfkjgpaaDoor
open Go.RowKit
set_option linter.unusedVariables false
/-- what a call answers that gives so many bytes, and that all is well -/
def GaveIs (n : Nat) (l : List Nat) (w : World) (e : Ending) (w' : World) : Prop := ∃ G, e = .returned (.tuple #[.slice (some ⟨G, 0, none⟩) n n, .int .i64 0]) ∧ w.heap.size ≤ G ∧ Blk w' G 5 (natsV .u8 l) ∧ Below w.heap.size w w'
set_option maxHeartbeats 800000 in
theorem shake_kind (k n : Int) (h4 : k ≠ 4) (h5 : k ≠ 5) (v : Value) (w : World) :
    Calls Tryd.prog 14 #[.int .i64 k, v, .int .i64 n] w fun e w' => e = .returned (.tuple #[.slice none 0 0, .int .i64 31]) ∧ w = w' := by
  have e4 : (k != 4) = true := by rw [bne_iff_ne]; exact h4
  have e5 : (k != 5) = true := by rw [bne_iff_ne]; exact h5
  clear h4 h5
  go_enter Tryd.func14, Tryd.ntmps14
  go_wp2_with fail
  go_ret2
  exact ⟨rfl, rfl⟩
set_option maxHeartbeats 800000 in
theorem shake_arg (k n : Int) (hk : k = 4 ∨ k = 5) (hn : n < 0 ∨ 65536 < n) (hi : -9223372036854775808 ≤ n ∧ n ≤ 9223372036854775807) (v : Value) (w : World) :
    Calls Tryd.prog 14 #[.int .i64 k, v, .int .i64 n] w fun e w' => e = .returned (.tuple #[.slice none 0 0, .int .i64 1]) ∧ ∃ q, w' = w.drewN q := by
  have HC := Lib.hid (fun w => canAsk_any n hi w)
  have hd : (decide (0 ≤ n) && decide (n ≤ 65536)) = false := by
    rcases hn with h | h
    · rw [decide_eq_false (by omega)]; rfl
    · rw [decide_eq_false (show ¬ n ≤ 65536 by omega), Bool.and_false]
  rw [hd] at HC
  clear hd hn hi
  rcases hk with rfl | rfl
  all_goals
    go_enter Tryd.func14, Tryd.ntmps14
    go_wp2_with fail
    refine (HC.out _).mono ?_
    rintro e w' ⟨rfl, q, rfl⟩
    go_wp2_with fail
    go_ret2
    exact ⟨rfl, q, rfl⟩
set_option maxHeartbeats 1600000 in
theorem shake_4 (n : Nat) (hn : n ≤ 65536) (a : Option Addr) (m c : Nat) (l : List Nat) (w : World) (hb : BIn w a m c l) (htab : Tabs w) :
    Calls Tryd.prog 14 #[.int .i64 4, .slice a m c, .int .i64 (n : Nat)] w (GaveIs n (allK 4 l n) w) := by
  have HC := Lib.hid (fun w => canAsk_any (n : Nat) ⟨by omega, by omega⟩ w)
  have hd : (decide ((0 : Int) ≤ (n : Nat)) && decide (((n : Nat) : Int) ≤ 65536)) = true := by rw [decide_eq_true (by omega), decide_eq_true (by omega)]; rfl
  rw [hd] at HC
  clear hd
  have HBG := Lib.hid (fun q => show Calls Tryd.prog 34 #[.int .i64 4] (w.drewN q) (SpNew 4 (w.drewN q)) from begin_any 4 (by unfold IsKind; omega) (w.drewN q) (htab.below (below_drewN (Below.refl w.heap.size w) q)))
  have HB := Lib.hid hb
  have HTAB := Lib.hid htab
  have HBB := Lib.hid (bin_block hb)
  clear hb htab
  go_enter Tryd.func14, Tryd.ntmps14
  go_wp2_with fail
  refine (HC.out _).mono ?_
  rintro e w' ⟨rfl, q, rfl⟩
  clear HC
  go_wp2_with fail
  refine (HBG.out q).mono ?_
  rintro e w1 ⟨g, rfl, hg, hsp, hb1'⟩
  have hb1 : Below w.heap.size w w1 := (below_drewN (Below.refl w.heap.size w) q).trans hb1'
  have hg0 : w.heap.size ≤ g := hg
  have hg1 : 1 ≤ g := Nat.le_trans HTAB.out.size hg0
  have HT := Lib.hid (take_any g 4 0 false (sizeK 4) (zeros 25) a m c l w1 hsp (HB.out.below hb1) (fun b hb hm e => by have := HBB.out b hb hm; omega) (HTAB.out.below hb1))
  clear hsp HBG hg hb1'
  go_wp2_with fail
  refine HT.out.mono ?_
  rintro e w2 ⟨rfl, hsp, hgr⟩
  have hb2 : Below w.heap.size w w2 := hb1.trans ⟨hgr.os, hgr.tape, hgr.output, hgr.size, fun j hj => hgr.block j (Nat.lt_of_lt_of_le hj hb1.size) (fun e => by injection e with e; omega)⟩
  have HGV := Lib.hid (fun q => give_new g 4 _ n (sizeK 4) _ (w2.drewN q) (show SpAt (w2.drewN q) g 4 _ false (sizeK 4) _ from hsp) hn (by left; rfl) (HTAB.out.below (below_drewN hb2 q)) _ rfl)
  clear hsp HT
  go_wp2_with fail
  refine (HGV.out 0).mono ?_
  rintro e w3 ⟨G, rfl, hG, hblk, hsp3, hg3⟩
  have hb3 : Below w.heap.size w w3 := hb2.trans ⟨hg3.os, hg3.tape, hg3.output, hg3.size, fun j hj => hg3.block j (Nat.lt_of_lt_of_le hj hb2.size) (fun e => by injection e with e; omega)⟩
  have HBLK := Lib.hid hblk
  clear hblk hsp3 hg3 hgr HGV
  go_wp2_with fail
  go_ret2
  exact ⟨G, rfl, Nat.le_trans hb2.size hG, HBLK.out, hb3⟩
set_option maxHeartbeats 1600000 in
theorem shake_5 (n : Nat) (hn : n ≤ 65536) (a : Option Addr) (m c : Nat) (l : List Nat) (w : World) (hb : BIn w a m c l) (htab : Tabs w) :
    Calls Tryd.prog 14 #[.int .i64 5, .slice a m c, .int .i64 (n : Nat)] w (GaveIs n (allK 5 l n) w) := by
  have HC := Lib.hid (fun w => canAsk_any (n : Nat) ⟨by omega, by omega⟩ w)
  have hd : (decide ((0 : Int) ≤ (n : Nat)) && decide (((n : Nat) : Int) ≤ 65536)) = true := by rw [decide_eq_true (by omega), decide_eq_true (by omega)]; rfl
  rw [hd] at HC
  clear hd
  have HBG := Lib.hid (fun q => show Calls Tryd.prog 34 #[.int .i64 5] (w.drewN q) (SpNew 5 (w.drewN q)) from begin_any 5 (by unfold IsKind; omega) (w.drewN q) (htab.below (below_drewN (Below.refl w.heap.size w) q)))
  have HB := Lib.hid hb
  have HTAB := Lib.hid htab
  have HBB := Lib.hid (bin_block hb)
  clear hb htab
  go_enter Tryd.func14, Tryd.ntmps14
  go_wp2_with fail
  refine (HC.out _).mono ?_
  rintro e w' ⟨rfl, q, rfl⟩
  clear HC
  go_wp2_with fail
  refine (HBG.out q).mono ?_
  rintro e w1 ⟨g, rfl, hg, hsp, hb1'⟩
  have hb1 : Below w.heap.size w w1 := (below_drewN (Below.refl w.heap.size w) q).trans hb1'
  have hg0 : w.heap.size ≤ g := hg
  have hg1 : 1 ≤ g := Nat.le_trans HTAB.out.size hg0
  have HT := Lib.hid (take_any g 5 0 false (sizeK 5) (zeros 25) a m c l w1 hsp (HB.out.below hb1) (fun b hb hm e => by have := HBB.out b hb hm; omega) (HTAB.out.below hb1))
  clear hsp HBG hg hb1'
  go_wp2_with fail
  refine HT.out.mono ?_
  rintro e w2 ⟨rfl, hsp, hgr⟩
  have hb2 : Below w.heap.size w w2 := hb1.trans ⟨hgr.os, hgr.tape, hgr.output, hgr.size, fun j hj => hgr.block j (Nat.lt_of_lt_of_le hj hb1.size) (fun e => by injection e with e; omega)⟩
  have HGV := Lib.hid (fun q => give_new g 5 _ n (sizeK 5) _ (w2.drewN q) (show SpAt (w2.drewN q) g 5 _ false (sizeK 5) _ from hsp) hn (by left; rfl) (HTAB.out.below (below_drewN hb2 q)) _ rfl)
  clear hsp HT
  go_wp2_with fail
  refine (HGV.out 0).mono ?_
  rintro e w3 ⟨G, rfl, hG, hblk, hsp3, hg3⟩
  have hb3 : Below w.heap.size w w3 := hb2.trans ⟨hg3.os, hg3.tape, hg3.output, hg3.size, fun j hj => hg3.block j (Nat.lt_of_lt_of_le hj hb2.size) (fun e => by injection e with e; omega)⟩
  have HBLK := Lib.hid hblk
  clear hblk hsp3 hg3 hgr HGV
  go_wp2_with fail
  go_ret2
  exact ⟨G, rfl, Nat.le_trans hb2.size hG, HBLK.out, hb3⟩
end Go.Proofs.YtidnlaibfkjgpaaDoor
