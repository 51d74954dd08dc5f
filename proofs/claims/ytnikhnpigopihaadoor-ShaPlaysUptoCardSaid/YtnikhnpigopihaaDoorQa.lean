/- For ShaPlays: both hashes side by side (TW), and the law's own 'open' (func 39). Condition: what comes in has at most 2^47 - 4096 bytes. -/
/- For ShaPlays: the law's 'put' (func 37): an answer is right, and is kept. Condition: the two lists lie apart. -/
/- For ShaPlays: the document's Write, told sharper: which blocks it turns; both hashes with the document's own list by name. Condition: the list may grow so far. -/
/- The document's State. Condition: the list may grow so far. -/
import Derived.Test.YtnikhnpigopihaaDoorSOx
import Derived.Test.YtnikhnpigopihaaDoorSPm
import Derived.Test.YtnikhnpigopihaaDoorOwn
import Derived.Maps.AppendAt
import Derived.Deep.AppendLies
import Derived.Test.YtnikhnpigopihaaDoorRefS1
import Derived.Test.YtnikhnpigopihaaDoorState
namespace Go.Proofs.YtnikhnpigopihaaDoor
open Go.RowKit
set_option linter.unusedVariables false
set_option linter.unusedSimpArgs false
/-- both hashes are at the same place: the document's began at n0 with the words S and holds L -/
def TW (w : World) (ga gb k n0 : Nat) (S L : List Nat) : Prop :=
  HashAt w ga k (n0 + L.length) (goes (wW k) S L).1 (goes (wW k) S L).2 ∧ RefAt w gb (gb + 1) k S n0 L ∧ ga < gb ∧ n0 % (2 * wW k) = 0 ∧ n0 + L.length ≤ 2305843009213693951
theorem TW.low {w w' : World} {ga gb k n0 x : Nat} {S L : List Nat} (h : TW w ga gb k n0 S L) (hb : w.grownBy w' (some x)) (hx : x < ga) : TW w' ga gb k n0 S L :=
  ⟨h.1.grown' hb (fun e => by injection e with e; omega), h.2.1.grownB hb (by have := h.2.2.1; omega), h.2.2.1, h.2.2.2.1, h.2.2.2.2⟩
theorem TW.below {w w' : World} {ga gb k n0 : Nat} {S L : List Nat} (h : TW w ga gb k n0 S L) (hb : Below w.heap.size w w') : TW w' ga gb k n0 S L :=
  ⟨h.1.belowB hb h.1.lt, h.2.1.below hb, h.2.2.1, h.2.2.2.1, h.2.2.2.2⟩
theorem grown_new2 {a b c : World} {x y : Nat} (h1 : a.grownBy b (some x)) (h2 : b.grownBy c (some y)) (hy : a.heap.size ≤ y) : a.grownBy c (some x) :=
  ⟨h2.os.trans h1.os, h2.tape.trans h1.tape, h2.output.trans h1.output, Nat.le_trans h1.size h2.size, fun k hk hne => (h2.block k (Nat.lt_of_lt_of_le hk h1.size) (fun e => by injection e with e; omega)).trans (h1.block k hk hne)⟩
theorem own_blk {w : World} {base G n cap : Nat} {xs : List Value} (h : w.ownsRow base 5 1 (.slice (some ⟨G, 0, none⟩) n cap) n xs) (hn : 0 < n) : ∃ cs, Blk w G 5 cs ∧ n ≤ cs.length := by
  rcases h.2 with ⟨_, h0⟩ | ⟨g, cp, cur, hv, _, hG, h1, _, h3, _⟩
  · omega
  · simp only [Value.slice.injEq, Option.some.injEq, Addr.mk.injEq] at hv
    obtain ⟨⟨rfl, _⟩, _, rfl⟩ := hv
    exact ⟨cur.toList, by unfold Blk; rw [hG], by simp; omega⟩
/-- the four parts of the twin -/
def TwB (w : World) (gt : Nat) (pa pb V1 V2 : Value) : Prop := Blk w gt 44 [pa, pb, V1, V2]
/-- what 'open' answers -/
def TOp (gt : Nat) (pa pb V1 V2 : Value) (w : World) (e : Ending) (w' : World) : Prop := e = .returned (.bool true) ∧ w.grownBy w' (some gt) ∧
  (TwB w' gt pa pb V1 V2 ∨ ∃ ga gb k n0 S T, w.heap.size ≤ ga ∧ TwB w' gt (.pointer (some ⟨ga, 0, none⟩)) (.pointer (some ⟨gb, 0, none⟩)) V1 V2 ∧ TW w' ga gb k n0 S T ∧ T.length ≤ 127)
theorem isSt_back {L : List Nat} {k n : Nat} (hst : IsSt L k n) (hL : ∀ x ∈ L, x < 256) : ∃ n0 S T, tell (stW k L) 8 = S ∧ L.drop (9 + 8 * wB k) = T ∧ n - n % (2 * wW k) = n0 ∧ n0 + T.length = n ∧ T.length ≤ 127 ∧ goes (wW k) S T = (S, T) ∧ n0 % (2 * wW k) = 0 := by
  obtain ⟨hk, h0, hn8, hn, hlen⟩ := hst
  have hw : 0 < wW k ∧ wW k ≤ 64 := by unfold wW; split <;> omega
  have hTl : (L.drop (9 + 8 * wB k)).length = n % (2 * wW k) := by rw [List.length_drop]; omega
  have hr1 : n % (2 * wW k) ≤ n := Nat.mod_le _ _
  have hr2 : n % (2 * wW k) < 2 * wW k := Nat.mod_lt _ (by omega)
  refine ⟨_, _, _, rfl, rfl, rfl, by omega, by omega, goes_lo (by omega), ?_⟩
  have := Nat.div_add_mod n (2 * wW k)
  rw [show n - n % (2 * wW k) = 2 * wW k * (n / (2 * wW k)) by omega]
  exact Nat.mul_mod_right _ _
set_option maxHeartbeats 1600000 in
theorem topen_any (gt : Nat) (pa pb V1 V2 : Value) (a : Option Addr) (m c : Nat) (L : List Nat) (w : World) (hb : BIn w a m c L) (hblk : TwB w gt pa pb V1 V2) (h2 : 2 ≤ w.heap.size) (h47 : m ≤ 140737488351232) :
    Calls Tryd.prog 39 #[.pointer (some ⟨gt, 0, none⟩), .slice a m c] w (TOp gt pa pb V1 V2 w) := by
  have HB := Lib.hid hb
  have HBK := Lib.hid hblk
  have hgt : gt < w.heap.size := Blk.lt hblk
  have HO := Lib.hid (own_any a m c L w hb h47)
  have HLM := Lib.hid hb.1.1
  have HLB := Lib.hid hb.1.2.2.1
  have hlm := hb.1.1
  have HST := Lib.hid (show ∀ G cap w', Below w.heap.size w w' → w'.ownsRow w.heap.size 5 1 (.slice (some ⟨G, 0, none⟩) (m + 1) cap) (m + 1) (bytesV (L ++ [77])) → Calls Tryd.prog 14 #[.slice (some ⟨G, 0, none⟩) m cap, .slice a m c] w' fun e w'' => e = .returned (.bool true) ∧ Below w'.heap.size w' w'' from
    fun G cap w' h1 h2 => still_any w.heap.size a m c G cap L w' (hb.below h1) (by omega) h2)
  unfold TOp
  by_cases hyes : ¬ m < 9 ∧ ∃ k n, IsSt L k n
  · obtain ⟨h9, k, n, hst⟩ := hyes
    have hst' := hst
    obtain ⟨hk, h0, hn8, hn, hlen⟩ := hst
    obtain ⟨n0, S, T, hS, hT, hn0, hnT, hT1, hgo, hmod⟩ := isSt_back hst' hb.1.2.2.1
    obtain ⟨b, off, rfl, _⟩ := hb.1.2.2.2.resolve_left (by omega)
    have HP := Lib.hid (show ∀ G cap w', Below w.heap.size w w' → BIn w' (some ⟨G, 0, none⟩) m cap L → Calls Tryd.prog 24 #[.slice (some ⟨G, 0, none⟩) m cap] w' (OpenIs k n S T w') from fun G cap w' h1 h => by
      rw [← hS, ← hT]; exact open_ok G 0 m cap L k n w' h hk h0 hn8 hn (by omega) (Nat.le_trans h2 h1.size))
    have HD := Lib.hid (show ∀ w', Below w.heap.size w w' → Calls Tryd.prog 25 #[.slice (some ⟨b, off, none⟩) m c] w' (RefOp k n0 S T w') from fun w' h => by
      rw [← hS, ← hT, ← hn0]; exact refOpen_ok b off m c L k n w' (hb.below h) hk h0 hn8 hn (by omega))
    have HTW := Lib.hid (show ∀ w' ga gb, HashAt w' ga k n S T → RefAt w' gb (gb + 1) k S n0 T → ga < gb → TW w' ga gb k n0 S T from fun w' ga gb h1 h2 h3 => by
      refine ⟨?_, h2, h3, hmod, by omega⟩
      rw [hgo, hnT]; exact h1)
    clear hb hblk hst' hS hT hn0 hgo hmod h0 hn8 hlen
    go_enter Tryd.func39, Tryd.ntmps39
    go_wp2_with fail
    refine HO.out.mono ?_
    rintro e w1 ⟨G, cap, rfl, ho1, hb1⟩
    rw [HLM.out] at ho1 ⊢
    have hG := ho1.lt G rfl
    have HO1 := Lib.hid ho1
    have HPP := Lib.hid (HP.out G cap w1 hb1 (ownM_in ho1 HLB.out HLM.out (by omega)))
    clear ho1 HO
    go_wp2_with fail
    refine HPP.out.mono ?_
    rintro e w2 ⟨ga, rfl, hga, hh2, hb2⟩
    have hbe2 := hb1.trans (hb2.mono hb1.size)
    have hGa : G < ga := by have := hG.2; omega
    have hgaw : w.heap.size ≤ ga := by have := hG.1; omega
    have HH2 := Lib.hid hh2
    have HO2 := Lib.hid (own_below HO1.out hb2)
    clear hh2 hb2 HPP HO1
    go_wp2_with fail
    refine (HD.out w2 hbe2).mono ?_
    rintro e w3 ⟨gb, rfl, hgb, hr3, hb3⟩
    have hab : ga < gb := Nat.lt_of_lt_of_le HH2.out.lt hgb
    have HT3 := Lib.hid (HTW.out w3 ga gb (HH2.out.belowB hb3 HH2.out.lt) hr3 hab)
    have HO3 := Lib.hid (own_below HO2.out hb3)
    have hbe3 := hbe2.trans (hb3.mono hbe2.size)
    have HS3 := Lib.hid (HST.out G cap w3 hbe3 HO3.out)
    clear hr3 hb3 HH2 HO2 hbe2
    go_wp2_with fail
    refine HS3.out.mono ?_
    rintro e w4 ⟨rfl, hb4⟩
    have hbe4 := hbe3.trans (hb4.mono hbe3.size)
    have HT4 := Lib.hid (HT3.out.below hb4)
    have HO4 := Lib.hid (own_below HO3.out hb4)
    have hk4 : Blk w4 gt 44 [pa, pb, V1, V2] := Blk.below HBK.out hbe4 hgt
    have hk5 := hk4.set 0 (.pointer (some ⟨ga, 0, none⟩))
    have hk6 := hk5.set 1 (.pointer (some ⟨gb, 0, none⟩))
    have hc0 := hk4.cell 0
    have hc1 := hk5.cell 1
    have hf0 := hk4.free 0
    have hf1 := hk5.free 1
    rw [show ([pa, pb, V1, V2] : List Value)[0]? = some pa from rfl] at hc0
    rw [show (([pa, pb, V1, V2] : List Value).set 0 (.pointer (some ⟨ga, 0, none⟩)))[1]? = some pb from rfl] at hc1
    have HG6 := Lib.hid (show w.grownBy ((w4.setCell ⟨gt, 0, none⟩ (.pointer (some ⟨ga, 0, none⟩))).setCell ⟨gt, 1, none⟩ (.pointer (some ⟨gb, 0, none⟩))) (some gt) from grown_trans (grown_below hbe4 (some gt)) (grown_trans (grown_setCell w4 ⟨gt, 0, none⟩ (.pointer (some ⟨ga, 0, none⟩))) (grown_setCell _ ⟨gt, 1, none⟩ (.pointer (some ⟨gb, 0, none⟩)))))
    have HG46 := Lib.hid (show w4.grownBy ((w4.setCell ⟨gt, 0, none⟩ (.pointer (some ⟨ga, 0, none⟩))).setCell ⟨gt, 1, none⟩ (.pointer (some ⟨gb, 0, none⟩))) (some gt) from grown_trans (grown_setCell w4 ⟨gt, 0, none⟩ (.pointer (some ⟨ga, 0, none⟩))) (grown_setCell _ ⟨gt, 1, none⟩ (.pointer (some ⟨gb, 0, none⟩))))
    have HT6 := Lib.hid (HT4.out.low HG46.out (by omega))
    have HK6 := Lib.hid (show Blk _ gt 44 [.pointer (some ⟨ga, 0, none⟩), .pointer (some ⟨gb, 0, none⟩), V1, V2] from hk6)
    have hGgt : gt ≠ G := by have := hG.1; omega
    obtain ⟨cs0, hcs0, hcl0⟩ := own_blk HO4.out (by omega)
    have HCS := Lib.hid (show Blk ((w4.setCell ⟨gt, 0, none⟩ (.pointer (some ⟨ga, 0, none⟩))).setCell ⟨gt, 1, none⟩ (.pointer (some ⟨gb, 0, none⟩))) G 5 cs0 ∧ m ≤ cs0.length from ⟨hcs0.grown HG46.out (fun e => by injection e with e; omega), by omega⟩)
    clear hk4 hk5 hk6 hb4 HT4 HT3 HO3 HO4 hcs0 hcl0 HS3 hbe3 hbe4
    go_wp2_with fail
    go_loopw [11] (fun v wr => ∃ i : Nat, i ≤ m ∧ v = .int .i64 i ∧ (∃ cs, Blk wr G 5 cs ∧ m ≤ cs.length) ∧ ((w4.setCell ⟨gt, 0, none⟩ (.pointer (some ⟨ga, 0, none⟩))).setCell ⟨gt, 1, none⟩ (.pointer (some ⟨gb, 0, none⟩))).grownBy wr (some G)) (fun v _ => m - (intOf v).toNat)
    case atStart => exact ⟨0, by omega, rfl, ⟨cs0, HCS.out.1, HCS.out.2⟩, grown_refl _ _⟩
    case round =>
      obtain ⟨i, hi, rfl, ⟨cs, hcs, hcl⟩, hgr⟩ := hrel
      by_cases him : i < m
      · have hii : (i : Int) < (m : Int) := by omega
        obtain ⟨y, hc⟩ : ∃ y, wr.cell? ⟨G, i, none⟩ = some y := ⟨_, (hcs.cell i).trans (List.getElem?_eq_getElem (by omega))⟩
        have hf := hcs.free i
        have HK2 := Lib.hid (hcs.set i (.int .u8 99))
        have HG2 := Lib.hid (grown_trans hgr (grown_setCell wr ⟨G, i, none⟩ (.int .u8 99)))
        have HCL := Lib.hid (show m ≤ (cs.set i (.int .u8 99)).length by rw [List.length_set]; exact hcl)
        clear hcs hcl hgr
        go_wp2_with fail
        go_roundw
        case rel => exact ⟨i + 1, by omega, by go_num, ⟨_, HK2.out, HCL.out⟩, HG2.out⟩
        case measure => simp [intOf]; omega
      · obtain rfl : i = m := by omega
        have HGR := Lib.hid hgr
        clear hcs hcl hgr
        go_wp2_with fail
        go_ret
        exact ⟨rfl, grown_new2 HG6.out HGR.out hG.1, .inr ⟨ga, gb, k, n0, S, T, hgaw, Blk.grown HK6.out HGR.out (fun e => by injection e with e; omega), HT6.out.low HGR.out hGa, hT1⟩⟩
  · have hno : m < 9 ∨ ∀ k n, ¬ IsSt L k n := by
      by_cases h9 : m < 9
      · exact .inl h9
      · exact .inr (fun k n h => hyes ⟨h9, k, n, h⟩)
    have HP := Lib.hid (show ∀ G cap w', BIn w' (some ⟨G, 0, none⟩) m cap L → Calls Tryd.prog 24 #[.slice (some ⟨G, 0, none⟩) m cap] w' (NoIs w') from fun G cap w' h => by
      by_cases h9 : m < 9
      · exact open_short _ m cap w' h9
      · exact open_no G 0 m cap L w' h (by omega) (hno.resolve_left h9))
    have HD := Lib.hid (show ∀ w', Below w.heap.size w w' → Calls Tryd.prog 25 #[.slice a m c] w' (RefNo w') from fun w' h => by
      by_cases h9 : m < 9
      · exact refOpen_short a m c w' h9
      · obtain ⟨b, off, rfl, _⟩ := hb.1.2.2.2.resolve_left (by omega)
        exact refOpen_no b off m c L w' (hb.below h) (by omega) (hno.resolve_left h9))
    clear hb hblk hno hyes
    go_enter Tryd.func39, Tryd.ntmps39
    go_wp2_with fail
    refine HO.out.mono ?_
    rintro e w1 ⟨G, cap, rfl, ho1, hb1⟩
    rw [HLM.out] at ho1 ⊢
    have hG := ho1.lt G rfl
    have HO1 := Lib.hid ho1
    have HPP := Lib.hid (HP.out G cap w1 (ownM_in ho1 HLB.out HLM.out (by omega)))
    clear ho1 HO
    go_wp2_with fail
    refine HPP.out.mono ?_
    rintro e w2 ⟨rfl, hb2⟩
    have hbe2 := hb1.trans (hb2.mono hb1.size)
    have HO2 := Lib.hid (own_below HO1.out hb2)
    clear hb2 HPP HO1
    go_wp2_with fail
    refine (HD.out w2 hbe2).mono ?_
    rintro e w3 ⟨rfl, hb3⟩
    have HO3 := Lib.hid (own_below HO2.out hb3)
    have hbe3 := hbe2.trans (hb3.mono hbe2.size)
    have HS3 := Lib.hid (HST.out G cap w3 hbe3 HO3.out)
    clear hb3 HO2 hbe2
    go_wp2_with fail
    refine HS3.out.mono ?_
    rintro e w4 ⟨rfl, hb4⟩
    have hbe4 := hbe3.trans (hb4.mono hbe3.size)
    have HO4 := Lib.hid (own_below HO3.out hb4)
    have HK4 := Lib.hid (show Blk w4 gt 44 [pa, pb, V1, V2] from Blk.below HBK.out hbe4 hgt)
    have HG4 := Lib.hid (grown_below hbe4 (some gt))
    have hGgt : gt ≠ G := by have := hG.1; omega
    obtain ⟨cs0, hcs0, hcl0⟩ := own_blk HO4.out (by omega)
    have HCS := Lib.hid (show Blk w4 G 5 cs0 ∧ m ≤ cs0.length from ⟨hcs0, by omega⟩)
    clear hb4 HO3 HO4 hcs0 hcl0 HS3 hbe3 hbe4
    go_wp2_with fail
    go_loopw [11] (fun v wr => ∃ i : Nat, i ≤ m ∧ v = .int .i64 i ∧ (∃ cs, Blk wr G 5 cs ∧ m ≤ cs.length) ∧ w4.grownBy wr (some G)) (fun v _ => m - (intOf v).toNat)
    case atStart => exact ⟨0, by omega, rfl, ⟨cs0, HCS.out.1, HCS.out.2⟩, grown_refl _ _⟩
    case round =>
      obtain ⟨i, hi, rfl, ⟨cs, hcs, hcl⟩, hgr⟩ := hrel
      by_cases him : i < m
      · have hii : (i : Int) < (m : Int) := by omega
        obtain ⟨y, hc⟩ : ∃ y, wr.cell? ⟨G, i, none⟩ = some y := ⟨_, (hcs.cell i).trans (List.getElem?_eq_getElem (by omega))⟩
        have hf := hcs.free i
        have HK2 := Lib.hid (hcs.set i (.int .u8 99))
        have HG2 := Lib.hid (grown_trans hgr (grown_setCell wr ⟨G, i, none⟩ (.int .u8 99)))
        have HCL := Lib.hid (show m ≤ (cs.set i (.int .u8 99)).length by rw [List.length_set]; exact hcl)
        clear hcs hcl hgr
        go_wp2_with fail
        go_roundw
        case rel => exact ⟨i + 1, by omega, by go_num, ⟨_, HK2.out, HCL.out⟩, HG2.out⟩
        case measure => simp [intOf]; omega
      · obtain rfl : i = m := by omega
        have HGR := Lib.hid hgr
        clear hcs hcl hgr
        go_wp2_with fail
        go_ret
        exact ⟨rfl, grown_new2 HG4.out HGR.out hG.1, .inl (Blk.grown HK4.out HGR.out (fun e => by injection e with e; omega))⟩
end Go.Proofs.YtnikhnpigopihaaDoor
namespace Go.Proofs.YtnikhnpigopihaaDoor
open Go.RowKit
set_option linter.unusedVariables false
set_option linter.unusedSimpArgs false
theorem info22z : (Tryd.prog.info? 22).map (fun i => (i.zero, i.size, i.bytes)) = some (some (.slice none 0 0), 1, 24) := by kernel_rfl
theorem cell_heap {w w' : World} {b o : Nat} (h : w'.heap[b]? = w.heap[b]?) : w'.cell? ⟨b, o, none⟩ = w.cell? ⟨b, o, none⟩ := by simp [World.cell?, h]
/-- all old blocks but these three are as they were -/
def Fp3 (w w' : World) (gt : Nat) (r1 r2 : Option Nat) : Prop := w'.os = w.os ∧ w'.tape = w.tape ∧ w'.output = w.output ∧ w.heap.size ≤ w'.heap.size ∧ ∀ j, j < w.heap.size → j ≠ gt → some j ≠ r1 → some j ≠ r2 → w'.heap[j]? = w.heap[j]?
theorem Fp3.refl (w : World) (gt : Nat) (r1 r2 : Option Nat) : Fp3 w w gt r1 r2 := ⟨rfl, rfl, rfl, Nat.le_refl _, fun _ _ _ _ _ => rfl⟩
theorem Fp3.step {w a b : World} {gt : Nat} {r1 r2 r : Option Nat} (h : Fp3 w a gt r1 r2) (hb : a.grownBy b r) (hr : r = none ∨ r = some gt ∨ r = r1 ∨ r = r2 ∨ ∃ x, r = some x ∧ w.heap.size ≤ x) : Fp3 w b gt r1 r2 :=
  ⟨hb.os.trans h.1, hb.tape.trans h.2.1, hb.output.trans h.2.2.1, Nat.le_trans h.2.2.2.1 hb.size, fun j hj h1 h2 h3 => (hb.block j (Nat.lt_of_lt_of_le hj h.2.2.2.1) (by
    rcases hr with rfl | rfl | rfl | rfl | ⟨x, rfl, hx⟩
    · intro e; cases e
    · intro e; injection e with e; exact h1 e
    · exact h2
    · exact h3
    · intro e; injection e with e; omega)).trans (h.2.2.2.2 j hj h1 h2 h3)⟩
/-- where a list's own block may lie behind an append -/
def OwnAt (w : World) (V V' : Value) : Prop := V'.ownBlock = V.ownBlock ∨ ∃ x, V'.ownBlock = some x ∧ w.heap.size ≤ x
/-- what 'put' leaves -/
def PutIs (gt base N : Nat) (pa pb V1 V2 : Value) (xs ys : List Value) (u1 u2 : Value) (w : World) (e : Ending) (w' : World) : Prop := e = .returned (.bool true) ∧ ∃ V1' V2', TwB w' gt pa pb V1' V2' ∧ w'.ownsRow base 22 1 V1' (N + 1) (xs ++ [u1]) ∧ w'.ownsRow base 22 1 V2' (N + 1) (ys ++ [u2]) ∧ V1'.ownBlock ≠ V2'.ownBlock ∧ OwnAt w V1 V1' ∧ OwnAt w V2 V2' ∧ Fp3 w w' gt V1.ownBlock V2.ownBlock
theorem own_lt {w : World} {base n : Nat} {V : Value} {xs : List Value} (h : w.ownsRow base 22 1 V n xs) (j : Nat) (hj : V.ownBlock = some j) : base ≤ j ∧ j < w.heap.size := h.lt j hj
set_option maxHeartbeats 1600000 in
theorem put_any (gt base N : Nat) (pa pb V1 V2 : Value) (xs ys : List Value) (a1 a2 : Option Addr) (m c1 c2 : Nat) (l : List Nat) (w : World)
    (hk : TwB w gt pa pb V1 V2) (h1 : w.ownsRow base 22 1 V1 N xs) (h2 : w.ownsRow base 22 1 V2 N ys) (hne : V1.ownBlock = none ∨ V1.ownBlock ≠ V2.ownBlock) (hgb : gt < base) (hbw : base ≤ w.heap.size) (hN : N ≤ 1000000)
    (hr1 : BIn w a1 m c1 l) (hr2 : BIn w a2 m c2 l) (hd1 : ∀ b, a1 = some b → 0 < m → b.block ≠ gt ∧ some b.block ≠ V1.ownBlock ∧ some b.block ≠ V2.ownBlock) (hd2 : ∀ b, a2 = some b → 0 < m → b.block ≠ gt ∧ some b.block ≠ V1.ownBlock ∧ some b.block ≠ V2.ownBlock) :
    Calls Tryd.prog 37 #[.pointer (some ⟨gt, 0, none⟩), .slice a1 m c1, .slice a2 m c2] w (PutIs gt base N pa pb V1 V2 xs ys (.slice a1 m c1) (.slice a2 m c2) w) := by
  obtain ⟨i0, hi, hz0, hz1, hz2⟩ := info_parts info22z
  have hgt : gt < w.heap.size := Nat.lt_of_lt_of_le hgb hbw
  have HK := Lib.hid hk
  have H1 := Lib.hid h1
  have H2 := Lib.hid h2
  have hc2 := Blk.cell hk 2
  rw [show ([pa, pb, V1, V2] : List Value)[2]? = some V1 from rfl] at hc2
  have HI := Lib.hid (And.intro hi (And.intro hz0 (And.intro hz1 hz2)))
  have HRB := Lib.hid (show ∀ w', Fp3 w w' gt V1.ownBlock V2.ownBlock → ByteRow w' a1 m l ∧ ByteRow w' a2 m l from fun w' hf => by
    have go : ∀ (a : Option Addr) (c : Nat), BIn w a m c l → (∀ b, a = some b → 0 < m → b.block ≠ gt ∧ some b.block ≠ V1.ownBlock ∧ some b.block ≠ V2.ownBlock) → ByteRow w' a m l := by
      intro a c hb hd
      obtain ⟨q1, q2, q3, q4⟩ := hb.1
      refine ⟨q1, q2, q3, ?_⟩
      by_cases hm : m = 0
      · exact .inl hm
      · obtain ⟨b, off, rfl, hcell⟩ := q4.resolve_left hm
        obtain ⟨d1, d2, d3⟩ := hd _ rfl (by omega)
        refine .inr ⟨b, off, rfl, fun i hi => ?_⟩
        have h0 := hcell i hi
        have hlt := World.block_lt_of_cell? w _ h0
        have hh := hf.2.2.2.2 b hlt d1 d2 d3
        rw [← h0]
        exact cell_heap hh
    exact ⟨go a1 c1 hr1 hd1, go a2 c2 hr2 hd2⟩)
  have HA1 := Lib.hid (show Fp3 w (w.alloc (.cells #[.slice a1 m c1] 22)) gt V1.ownBlock V2.ownBlock from (Fp3.refl w gt _ _).step (grown_below ((Below.refl _ w).alloc (Nat.le_refl _) _) none) (.inl rfl))
  clear hk hr1 hr2 hd1 hd2 hi hz0 hz1 hz2
  go_enter Tryd.func37, Tryd.ntmps37
  go_wp2_with (at_builtin; refine wpList_append_own_at _ rfl _ _ 42 rfl base 22 i0 (.slice none 0 0) 1 24 Tryd.underlying42 HI.out.1 HI.out.2.1 HI.out.2.2.1 HI.out.2.2.2 rfl (by decide) V1 N xs rfl (H1.out.alloc _) ⟨w.heap.size, 0, none⟩ 1 1 [.slice a1 m c1] rfl rfl (cell_one_new _ _ _) (by simp [Value.oneCell']) (by unfold maxLen; omega) (by omega) (by simp; omega) ?_)
  intro V1' w2 ho2 hg2 _ hat
  obtain ⟨G1, cp1, rfl, _⟩ := World.ownsRow.form ho2 (by omega)
  have hk1 : Blk w2 gt 44 [pa, pb, V1, V2] := ((Blk.alloc HK.out _).grown hg2 (fun e => by have := (own_lt H1.out gt e.symm).1; omega))
  have HF2 := Lib.hid (HA1.out.step hg2 (.inr (.inr (.inl rfl))))
  have hsz2 : w.heap.size < w2.heap.size := Nat.lt_of_lt_of_le (by simp) hg2.size
  have HAT1 := Lib.hid (show OwnAt w V1 (Value.slice (some ⟨G1, 0, none⟩) (N + 1) cp1) from hat.elim .inl (fun h => .inr ⟨_, h, by simp⟩))
  have HO2 := Lib.hid ho2
  have H22 := Lib.hid ((H2.out.alloc (.cells #[.slice a1 m c1] 22)).kept hg2 (by
    cases hv : V2.ownBlock with
    | none => exact .inl rfl
    | some G => exact .inr (fun e => by
        rcases hne with hn | hn
        · rw [hn] at e; cases e
        · exact hn (by rw [hv]; exact e.symm))))
  have hV12 : (Value.slice (some ⟨G1, 0, none⟩) (N + 1) cp1).ownBlock ≠ V2.ownBlock := by
    intro e
    rcases hat with h | h
    · rcases hne with hn | hn
      · rw [hn] at h; cases h
      · exact hn (h.symm.trans e)
    · rw [h] at e
      have := (own_lt H2.out _ e.symm).2
      omega
  have hc3 := hk1.cell 2
  rw [show ([pa, pb, V1, V2] : List Value)[2]? = some V1 from rfl] at hc3
  have hf3 := hk1.free 2
  have hk3 := hk1.set 2 (Value.slice (some ⟨G1, 0, none⟩) (N + 1) cp1)
  obtain ⟨W3, hW3⟩ : ∃ W3, w2.setCell ⟨gt, 2, none⟩ (Value.slice (some ⟨G1, 0, none⟩) (N + 1) cp1) = W3 := ⟨_, rfl⟩
  rw [hW3] at hk3
  have hg3 : w2.grownBy W3 (some gt) := by rw [← hW3]; exact grown_setCell w2 ⟨gt, 2, none⟩ (Value.slice (some ⟨G1, 0, none⟩) (N + 1) cp1)
  have HF3 := Lib.hid (HF2.out.step hg3 (.inr (.inl rfl)))
  have HO3 := Lib.hid (HO2.out.kept hg3 (by
    cases hv : (Value.slice (some ⟨G1, 0, none⟩) (N + 1) cp1).ownBlock with
    | none => exact .inl rfl
    | some G => exact .inr (fun e => by injection e with e; have := (own_lt HO2.out G hv).1; omega)))
  have H23 := Lib.hid (H22.out.kept hg3 (by
    cases hv : V2.ownBlock with
    | none => exact .inl rfl
    | some G => exact .inr (fun e => by injection e with e; have := (own_lt H22.out G hv).1; omega)))
  have HK3 := Lib.hid (show Blk W3 gt 44 [pa, pb, (Value.slice (some ⟨G1, 0, none⟩) (N + 1) cp1), V2] from hk3)
  have hsz3 : w2.heap.size ≤ W3.heap.size := hg3.size
  have hc4 := Blk.cell HK3.out 3
  rw [show ([pa, pb, (Value.slice (some ⟨G1, 0, none⟩) (N + 1) cp1), V2] : List Value)[3]? = some V2 from rfl] at hc4
  have HA4 := Lib.hid (HF3.out.step (grown_below ((Below.refl _ W3).alloc (Nat.le_refl _) (.cells #[.slice a2 m c2] 22)) none) (.inl rfl))
  clear hk1 hk3 hat ho2 hg2 hg3 hc2
  go_upto_region 2 with (fail)
  try rw [hW3]
  clear hW3 hc3 hf3
  go_wp2_with (at_builtin; refine wpList_append_own_at _ rfl _ _ 42 rfl base 22 i0 (.slice none 0 0) 1 24 Tryd.underlying42 HI.out.1 HI.out.2.1 HI.out.2.2.1 HI.out.2.2.2 rfl (by decide) V2 N ys rfl (H23.out.alloc _) ⟨W3.heap.size, 0, none⟩ 1 1 [.slice a2 m c2] rfl rfl (cell_one_new _ _ _) (by simp [Value.oneCell']) (by unfold maxLen; omega) (by omega) (by simp; omega) ?_)
  intro V2' w5 ho5 hg5 _ hat
  obtain ⟨G2, cp2, rfl, _⟩ := World.ownsRow.form ho5 (by omega)
  have hk5 : Blk w5 gt 44 [pa, pb, (Value.slice (some ⟨G1, 0, none⟩) (N + 1) cp1), V2] := ((Blk.alloc HK3.out _).grown hg5 (fun e => by have := (own_lt H23.out gt e.symm).1; omega))
  have HF5 := Lib.hid (HA4.out.step hg5 (.inr (.inr (.inr (.inl rfl)))))
  have HAT2 := Lib.hid (show OwnAt w V2 (Value.slice (some ⟨G2, 0, none⟩) (N + 1) cp2) from hat.elim .inl (fun h => .inr ⟨_, h, by omega⟩))
  have HO5 := Lib.hid ((HO3.out.alloc (.cells #[.slice a2 m c2] 22)).kept hg5 (.inr hV12))
  have hVV : (Value.slice (some ⟨G1, 0, none⟩) (N + 1) cp1).ownBlock ≠ (Value.slice (some ⟨G2, 0, none⟩) (N + 1) cp2).ownBlock := by
    intro e
    rcases hat with h | h
    · exact hV12 (e.trans h)
    · rw [h] at e
      have := (own_lt HO3.out _ e).2
      omega
  have hc6 := hk5.cell 3
  rw [show ([pa, pb, (Value.slice (some ⟨G1, 0, none⟩) (N + 1) cp1), V2] : List Value)[3]? = some V2 from rfl] at hc6
  have hf6 := hk5.free 3
  have hk6 := hk5.set 3 (Value.slice (some ⟨G2, 0, none⟩) (N + 1) cp2)
  obtain ⟨W6, hW6⟩ : ∃ W6, w5.setCell ⟨gt, 3, none⟩ (Value.slice (some ⟨G2, 0, none⟩) (N + 1) cp2) = W6 := ⟨_, rfl⟩
  rw [hW6] at hk6
  have hg6 : w5.grownBy W6 (some gt) := by rw [← hW6]; exact grown_setCell w5 ⟨gt, 3, none⟩ (Value.slice (some ⟨G2, 0, none⟩) (N + 1) cp2)
  have HF6 := Lib.hid (HF5.out.step hg6 (.inr (.inl rfl)))
  have HK6 := Lib.hid (show Blk W6 gt 44 [pa, pb, (Value.slice (some ⟨G1, 0, none⟩) (N + 1) cp1), (Value.slice (some ⟨G2, 0, none⟩) (N + 1) cp2)] from hk6)
  have HO6 := Lib.hid (HO5.out.kept hg6 (by
    cases hv : (Value.slice (some ⟨G1, 0, none⟩) (N + 1) cp1).ownBlock with
    | none => exact .inl rfl
    | some G => exact .inr (fun e => by injection e with e; have := (own_lt HO5.out G hv).1; omega)))
  have HP6 := Lib.hid (ho5.kept hg6 (by
    cases hv : (Value.slice (some ⟨G2, 0, none⟩) (N + 1) cp2).ownBlock with
    | none => exact .inl rfl
    | some G => exact .inr (fun e => by injection e with e; have := (own_lt ho5 G hv).1; omega)))
  have HSE := Lib.hid (same_eq a1 a2 m c1 c2 l W6 (HRB.out W6 HF6.out).1 (HRB.out W6 HF6.out).2)
  clear hk5 hk6 hat ho5 hg5 hg6 hc4
  go_upto_region 3 with (fail)
  try rw [hW6]
  clear hW6 hc6 hf6
  go_wp2_with fail
  refine HSE.out.mono ?_
  rintro e w7 ⟨rfl, hb7⟩
  go_wp2_with fail
  go_ret
  refine ⟨rfl, (Value.slice (some ⟨G1, 0, none⟩) (N + 1) cp1), (Value.slice (some ⟨G2, 0, none⟩) (N + 1) cp2), Blk.below' HK6.out hb7, HO6.out.kept (grown_below hb7 none) (by cases hv : (Value.slice (some ⟨G1, 0, none⟩) (N + 1) cp1).ownBlock with | none => exact .inl rfl | some G => exact .inr (fun e => by cases e)), HP6.out.kept (grown_below hb7 none) (by cases hv : (Value.slice (some ⟨G2, 0, none⟩) (N + 1) cp2).ownBlock with | none => exact .inl rfl | some G => exact .inr (fun e => by cases e)), hVV, HAT1.out, HAT2.out, HF6.out.step (grown_below hb7 none) (.inl rfl)⟩
end Go.Proofs.YtnikhnpigopihaaDoor
namespace Go.Proofs.YtnikhnpigopihaaDoor
open Go.RowKit
set_option linter.unusedVariables false
set_option linter.unusedSimpArgs false
theorem own_ne_t {w : World} {base e size n g t : Nat} {V : Value} {xs : List Value} {cs : List Value} (h : w.ownsRow base e size V n xs) (hb : Blk w g t cs) (hte : t ≠ e) : some g ≠ V.ownBlock := by
  intro q
  rcases h.2 with ⟨rfl, _⟩ | ⟨G, cap, cur, rfl, _, hG, _⟩
  · cases q
  · have e2 : g = G := Option.some.inj q
    subst e2
    unfold Blk at hb
    rw [hb] at hG
    simp only [Option.some.injEq, Obj.cells.injEq] at hG
    exact hte hG.2.1
theorem blk_ne {w : World} {g h t u : Nat} {cs ds : List Value} (h1 : Blk w g t cs) (h2 : Blk w h u ds) (hte : t ≠ u) : g ≠ h := by
  intro q
  subst q
  unfold Blk at h1 h2
  rw [h1] at h2
  simp only [Option.some.injEq, Obj.cells.injEq] at h2
  exact hte h2.2.1
section
variable {P : Program} (w : World)
theorem wpList_append_bytes_at {ops : Array Oper} {rest : List Oper} {o : Oper} {a : Act} {Q : Exit → Act → World → Prop} (hgd : o.guard = none) (s x : Operand)
    (ho : o.op = .call { callee := .builtin .append, args := #[s, x], argTypes := #[22, 22] })
    (base : Nat) (v : Value) (n : Nat) (xs : List Nat) (hs : a.eval s = v) (hown : w.ownsRow base 5 1 v n (bytesV xs))
    (A : Option Addr) (m c : Nat) (l : List Nat) (hx : a.eval x = .slice A m c) (hr : BIn w A m c l) (hb : n + m ≤ 140737488355328) (hbase : base ≤ w.heap.size)
    (h : ∀ v' w', w'.ownsRow base 5 1 v' (n + m) (bytesV (xs ++ l)) → w.grownBy w' v.ownBlock → OwnAt w v v' → wpList Tryd.prog ops Q rest (a.put o.dst v') w') : wpList Tryd.prog ops Q (o :: rest) a w := by
  obtain ⟨i0, hi, hz0, hz1, hz2⟩ := info_parts info5
  obtain ⟨⟨hl, hm, hlt, hrow⟩, hc1, hc2, _, hnil⟩ := hr
  have hone : ∀ u ∈ bytesV l, u.oneCell' = true := by
    intro u hu; obtain ⟨y, _, rfl⟩ := List.mem_map.1 hu; rfl
  rcases A with _ | ad
  · have := hnil rfl
    obtain rfl : m = 0 := by omega
    subst this
    obtain rfl : l = [] := List.eq_nil_of_length_eq_zero hl
    refine wpList_plain hgd fun K hK => ?_
    have hrun := run_append_owned_none (P := Tryd.prog) w base 22 o.type 5 i0 1 Tryd.underlying22 hi v n (bytesV xs) hown
    have h2 := h v w (by simpa using hown) ⟨rfl, rfl, rfl, Nat.le_refl _, fun _ _ _ => rfl⟩ (.inl rfl)
    unfold Oper.wp
    simp [execOp, ho, resolve, invoke, builtin, hs, hx, hrun, Result.andThen]
    exact hK _ _ h2
  · refine wpList_append_own_at w hgd s x 22 ho base 5 i0 (.int .u8 0) 1 1 Tryd.underlying22 hi hz0 hz1 hz2 rfl (by decide) v n (bytesV xs) hs hown ad m c (bytesV l) hx (by simpa [bytesV] using hl) ?_ hone (by simp only [maxLen]; omega) (by omega) hbase ?_
    · intro j u hu
      have hj : j < l.length := by
        rcases Nat.lt_or_ge j l.length with h | h
        · exact h
        · rw [List.getElem?_eq_none (by simpa [bytesV] using h)] at hu; cases hu
      obtain ⟨b, off, hA, hc⟩ := hrow.resolve_left (by omega)
      injection hA with hA; subst hA
      have hadd : (⟨b, off, none⟩ : Addr).add j = ⟨b, off + j, none⟩ := by
        simp only [Addr.add]; split
        · rename_i h; subst h; rfl
        · rfl
      rw [hadd, hc j (by omega)]
      rw [← hu]
      simp [bytesV, List.getD_eq_getElem?_getD, List.getElem?_eq_getElem hj]
    · intro v' w' h1 h2 _ h4
      exact h v' w' (by simpa [bytesV] using h1) h2 (h4.imp id fun e => ⟨_, e, Nat.le_refl _⟩)
end
/-- the document's hash, its own list by name -/
def RefV (w : World) (g base k : Nat) (s : List Nat) (n : Nat) (L : List Nat) (v : Value) : Prop := IsKind k ∧ s.length = 8 ∧ (∀ x ∈ s, x < 2 ^ wW k) ∧ (∀ x ∈ L, x < 256) ∧ g < base ∧ base ≤ w.heap.size ∧ Blk w g 69 (rhV k s n v) ∧ w.ownsRow base 5 1 v L.length (bytesV L)
theorem RefV.at {w : World} {g base k n : Nat} {s L : List Nat} {v : Value} (h : RefV w g base k s n L v) : RefAt w g base k s n L := by
  obtain ⟨h1, h2, h3, h4, h5, h6, h7, h8⟩ := h
  exact ⟨h1, h2, h3, h4, h5, h6, v, h7, h8⟩
theorem RefAt.v {w : World} {g base k n : Nat} {s L : List Nat} (h : RefAt w g base k s n L) : ∃ v, RefV w g base k s n L v := by
  obtain ⟨h1, h2, h3, h4, h5, h6, v, h7, h8⟩ := h
  exact ⟨v, h1, h2, h3, h4, h5, h6, h7, h8⟩
/-- what the document's 'Write' leaves where the bytes fit -/
def RefWrV (g base k n : Nat) (s L : List Nat) (v : Value) (w : World) (e : Ending) (w' : World) : Prop := e = .returned (.bool true) ∧ ∃ v', RefV w' g base k s n L v' ∧ OwnAt w v v' ∧ Fp3 w w' g v.ownBlock none
set_option maxHeartbeats 1600000 in
theorem refWrite_v (g base k n : Nat) (s L : List Nat) (v : Value) (A : Option Addr) (m c : Nat) (l : List Nat) (w : World) (h : RefV w g base k s n L v) (hb : BIn w A m c l) (hfit : m ≤ 2305843009213693951 - (n + L.length)) (hn : n + L.length ≤ 2305843009213693951) (h47 : L.length + m ≤ 140737488355328) :
    Calls Tryd.prog 28 #[.pointer (some ⟨g, 0, none⟩), .slice A m c] w (RefWrV g base k n s (L ++ l) v w) := by
  have HLEN := Lib.hid (refLen_any g base k n s L w h.at (by omega) (by omega))
  obtain ⟨hk, hs, hx, hL, hgb, hbw, hblk, ho⟩ := h
  have HB := Lib.hid hb
  have HLN := Lib.hid hb.1.1
  have hc2 := hb.2.2.1
  have hc1 := hb.2.1
  unfold maxLen at hc2
  have HBLK := Lib.hid hblk
  have HO := Lib.hid ho
  have HS := Lib.hid hs
  have HK := Lib.hid hk
  have HX := Lib.hid hx
  have HL := Lib.hid (show ∀ x ∈ L ++ l, x < 256 from fun x hx => (List.mem_append.1 hx).elim (hL x) (hb.1.2.2.1 x))
  have h10 := rh_l hblk hs
  have e1 : IntKind.u64.wrap (m : Int) = (m : Int) := u64_cast _ (by omega)
  have e2 : IntKind.u64.wrap ((2305843009213693951 : Int) - ((n + L.length : Nat) : Int)) = ((2305843009213693951 - (n + L.length) : Nat) : Int) := by
    rw [show (2305843009213693951 : Int) - ((n + L.length : Nat) : Int) = ((2305843009213693951 - (n + L.length) : Nat) : Int) from by omega]; exact u64_cast _ (by omega)
  have e2' : (2305843009213693951 : Int) - ((n + L.length : Nat) : Int) = ((2305843009213693951 - (n + L.length) : Nat) : Int) := by omega
  have hcmp : decide (((2305843009213693951 - (n + L.length) : Nat) : Int) < (m : Int)) = false := by simp; omega
  have hlt := hblk.lt
  clear hb hs hk hx hL ho hblk
  generalize 2305843009213693951 - (n + L.length) = room at *
  generalize n + L.length = nm at *
  go_enter Tryd.func28, Tryd.ntmps28
  go_wp2_with fail
  refine HLEN.out.mono ?_
  rintro e w' ⟨rfl, q, rfl⟩
  have HO2 := Lib.hid (show (w.drewN q).ownsRow base 5 1 v L.length (bytesV L) from HO.out)
  have HB2 := Lib.hid (HB.out.below (below_drewN (Below.refl w.heap.size w) q))
  have HF0 := Lib.hid ((Fp3.refl w g v.ownBlock none).step (grown_drewN (grown_refl w none) q) (.inl rfl))
  go_wp2_with (at_builtin; refine wpList_append_bytes_at _ rfl _ _ rfl base v L.length L rfl HO2.out A m c l rfl HB2.out ?c1 ?c2 ?_)
  case c1 => omega
  case c2 => exact hbw
  intro v2 w2 h1 h2 hat
  have HF2 := Lib.hid (HF0.out.step h2 (.inr (.inr (.inl rfl))))
  have HAT := Lib.hid (show OwnAt w v v2 from hat)
  obtain ⟨a2, cp2, rfl, _, _⟩ := own_in h1 HL.out (by omega)
  have hg2 : w2.heap.size ≥ w.heap.size := h2.size
  have hne : v.ownBlock = none ∨ some g ≠ v.ownBlock := by
    cases hv : v.ownBlock with
    | none => exact .inl rfl
    | some G => exact .inr (fun e => by injection e with e; have := (HO.out.lt G hv).1; omega)
  have hblk2 : Blk w2 g 69 (rhV k s n v) := by
    refine (HBLK.out.drewN q).of (h2.block g (by simpa using hlt) ?_)
    rcases hne with hv | hv
    · rw [hv]; simp
    · exact hv
  have hf := hblk2.free 10
  have hc10 := rh_l hblk2 HS.out
  have HB3 := Lib.hid (rh_setL hblk2 HS.out (.slice a2 (L.length + m) cp2))
  have hne2 : (Value.slice a2 (L.length + m) cp2).ownBlock = none ∨ (Value.slice a2 (L.length + m) cp2).ownBlock ≠ some g := by
    cases hv : (Value.slice a2 (L.length + m) cp2).ownBlock with
    | none => exact .inl rfl
    | some G => exact .inr (fun e => by injection e with e; have := (h1.lt G hv).1; omega)
  have HO3 := Lib.hid (h1.kept (grown_setCell w2 ⟨g, 10, none⟩ (.slice a2 (L.length + m) cp2)) hne2)
  have HF3 := Lib.hid (HF2.out.step (grown_setCell w2 ⟨g, 10, none⟩ (.slice a2 (L.length + m) cp2)) (.inr (.inl rfl)))
  clear h1 h2 hblk2 h10 hat
  go_wp2_with fail
  go_ret
  refine ⟨rfl, .slice a2 (L.length + m) cp2, ⟨HK.out, HS.out, HX.out, HL.out, hgb, by simp; omega, HB3.out, ?_⟩, HAT.out, HF3.out⟩
  rw [List.length_append, HLN.out]; exact HO3.out
end Go.Proofs.YtnikhnpigopihaaDoor
namespace Go.Proofs.YtnikhnpigopihaaDoor
open Go.RowKit
set_option linter.unusedVariables false
set_option linter.unusedSimpArgs false
theorem own_low {w : World} {B B' n : Nat} {v : Value} {xs : List Value} (h : w.ownsRow B 5 1 v n xs) (hB : B' ≤ B) : w.ownsRow B' 5 1 v n xs := by
  obtain ⟨h1, h2⟩ := h
  rcases h2 with h2 | ⟨G, cap, cur, e, hb, rest⟩
  · exact ⟨h1, .inl h2⟩
  · exact ⟨h1, .inr ⟨G, cap, cur, e, Nat.le_trans hB hb, rest⟩⟩
theorem bin_ne66 {w : World} {A : Option Addr} {m c g2 : Nat} {R ws : List Nat} (h : BIn w A m c R) (hb : Blk w g2 66 (natsV .u64 ws)) : ∀ b, A = some b → 0 < m → b.block ≠ g2 := by
  intro b hA hm e
  obtain ⟨b', off', hA', hc⟩ := h.1.2.2.2.resolve_left (by omega)
  rw [hA'] at hA
  injection hA with hA
  subst hA
  have h0 := hc 0 hm
  have e' : b' = g2 := e
  rw [e', Nat.add_zero, hb.cell] at h0
  have hmem := List.mem_of_getElem? h0
  obtain ⟨y, _, hy⟩ := List.mem_map.1 hmem
  injection hy with hy1 hy2
  cases hy1
set_option maxRecDepth 100000 in
set_option maxHeartbeats 4000000 in
theorem refState_any (g base k n : Nat) (s L : List Nat) (w : World) (h : RefAt w g base k s n L) (hn : n + L.length ≤ 2305843009213693951) (h47 : L.length + 300 ≤ 140737488355328) :
    Calls Tryd.prog 38 #[.pointer (some ⟨g, 0, none⟩)] w (AppIs w.heap.size (stateN k (n + L.length) (goes (wW k) s L).1 (goes (wW k) s L).2) w) := by
  have HR := Lib.hid h
  obtain ⟨hk, hs, hx, hL, hgb, hbw, v, hblk, ho⟩ := h
  obtain ⟨aL, cL, rfl, hbin, _⟩ := own_in ho hL (by omega)
  have hw0 : 0 < wW k := by unfold wW; split <;> omega
  have hk13 : 1 ≤ k ∧ k ≤ 3 := by rcases hk with rfl | rfl | rfl <;> omega
  have hgs := goes_state (W := wW k) hw0 _ s L rfl hs hx
  have HGC := Lib.hid (fun W (hW : Below w.heap.size w W) => goes_any k hk s aL L.length cL L W hs hx (hbin.below hW))
  have hRlen : (goes (wW k) s L).2.length ≤ 128 := by rw [goes_tail hw0 _ s L rfl]; exact mod_le k _
  have hgl := hblk.lt
  have h10 := rh_l hblk hs
  obtain ⟨a0, a1, a2, a3, a4, a5, a6, a7, hs8⟩ := list8 hs
  obtain ⟨b0, b1, b2, b3, b4, b5, b6, b7, hb8⟩ := list8 hgs.1
  have HXB := Lib.hid hgs.2
  rw [hb8] at HXB
  obtain ⟨R, hR⟩ : ∃ R, (goes (wW k) s L).2 = R := ⟨_, rfl⟩
  rw [hR] at hRlen
  rw [hb8, hR]
  have HGOES := Lib.hid (show ∀ W, Below w.heap.size w W → Calls Tryd.prog 48 #[.int .i64 (k : Nat), .agg #[.int .u64 (a0 : Nat), .int .u64 (a1 : Nat), .int .u64 (a2 : Nat), .int .u64 (a3 : Nat), .int .u64 (a4 : Nat), .int .u64 (a5 : Nat), .int .u64 (a6 : Nat), .int .u64 (a7 : Nat)], .slice aL L.length cL] W (fun e w' => (∃ A1 c1, e = .returned (.tuple #[.agg #[.int .u64 (b0 : Nat), .int .u64 (b1 : Nat), .int .u64 (b2 : Nat), .int .u64 (b3 : Nat), .int .u64 (b4 : Nat), .int .u64 (b5 : Nat), .int .u64 (b6 : Nat), .int .u64 (b7 : Nat)], .slice A1 R.length c1]) ∧ BIn w' A1 R.length c1 R) ∧ Below W.heap.size W w') from by
    intro W hW
    have h := HGC.out W hW
    unfold GoesIs at h
    rw [hb8, hR, hs8] at h
    exact h.mono fun e w' ⟨A1, c1, he, h1, h2⟩ => ⟨⟨A1, c1, he, h1⟩, h2⟩)
  have KS := Lib.hid (show ∀ w', Below w.heap.size w w' → w'.cell? ⟨g, 0, none⟩ = some (.int .i64 (k : Nat)) ∧ w'.cell? ⟨g, 1, none⟩ = some (.int .u64 (a0 : Nat)) ∧ w'.cell? ⟨g, 2, none⟩ = some (.int .u64 (a1 : Nat)) ∧ w'.cell? ⟨g, 3, none⟩ = some (.int .u64 (a2 : Nat)) ∧ w'.cell? ⟨g, 4, none⟩ = some (.int .u64 (a3 : Nat)) ∧ w'.cell? ⟨g, 5, none⟩ = some (.int .u64 (a4 : Nat)) ∧ w'.cell? ⟨g, 6, none⟩ = some (.int .u64 (a5 : Nat)) ∧ w'.cell? ⟨g, 7, none⟩ = some (.int .u64 (a6 : Nat)) ∧ w'.cell? ⟨g, 8, none⟩ = some (.int .u64 (a7 : Nat)) ∧ w'.cell? ⟨g, 10, none⟩ = some (.slice aL L.length cL) ∧ Below w.heap.size w w' from by
    intro w' hb
    have hbb := hblk.below' hb
    have h1 := rh_l hbb hs
    rw [hs8] at hbb
    have h := cells91 hbb
    exact ⟨h.1, h.2.1, h.2.2.1, h.2.2.2.1, h.2.2.2.2.1, h.2.2.2.2.2.1, h.2.2.2.2.2.2.1, h.2.2.2.2.2.2.2.1, h.2.2.2.2.2.2.2.2, h1, hb⟩)
  have BR := Lib.hid (Below.refl w.heap.size w)
  have HGA := Lib.hid (show Calls Tryd.prog 48 #[.int .i64 (k : Nat), .agg #[.int .u64 (a0 : Nat), .int .u64 (a1 : Nat), .int .u64 (a2 : Nat), .int .u64 (a3 : Nat), .int .u64 (a4 : Nat), .int .u64 (a5 : Nat), .int .u64 (a6 : Nat), .int .u64 (a7 : Nat)], .slice aL L.length cL] (w.alloc (.cells #[.int .u64 0, .int .u64 0, .int .u64 0, .int .u64 0, .int .u64 0, .int .u64 0, .int .u64 0, .int .u64 0] 66)).drew (fun e w' => (∃ A1 c1, e = .returned (.tuple #[.agg #[.int .u64 (b0 : Nat), .int .u64 (b1 : Nat), .int .u64 (b2 : Nat), .int .u64 (b3 : Nat), .int .u64 (b4 : Nat), .int .u64 (b5 : Nat), .int .u64 (b6 : Nat), .int .u64 (b7 : Nat)], .slice A1 R.length c1]) ∧ BIn w' A1 R.length c1 R) ∧ Below w.heap.size w w' ∧ Blk w' w.heap.size 66 [.int .u64 0, .int .u64 0, .int .u64 0, .int .u64 0, .int .u64 0, .int .u64 0, .int .u64 0, .int .u64 0]) from by
    refine (HGOES.out _ ((BR.out.alloc (Nat.le_refl _) _).drew)).mono ?_
    rintro e w' ⟨h1, h2⟩
    refine ⟨h1, (BR.out.alloc (Nat.le_refl _) _).drew.trans (h2.mono (Nat.le_of_lt (by simp))), ?_⟩
    exact (Blk.new w 66 [.int .u64 0, .int .u64 0, .int .u64 0, .int .u64 0, .int .u64 0, .int .u64 0, .int .u64 0, .int .u64 0]).drew.below' h2)
  have HGB := Lib.hid (show Calls Tryd.prog 48 #[.int .i64 (k : Nat), .agg #[.int .u64 (a0 : Nat), .int .u64 (a1 : Nat), .int .u64 (a2 : Nat), .int .u64 (a3 : Nat), .int .u64 (a4 : Nat), .int .u64 (a5 : Nat), .int .u64 (a6 : Nat), .int .u64 (a7 : Nat)], .slice aL L.length cL] w.drew (fun e w' => (∃ A1 c1, e = .returned (.tuple #[.agg #[.int .u64 (b0 : Nat), .int .u64 (b1 : Nat), .int .u64 (b2 : Nat), .int .u64 (b3 : Nat), .int .u64 (b4 : Nat), .int .u64 (b5 : Nat), .int .u64 (b6 : Nat), .int .u64 (b7 : Nat)], .slice A1 R.length c1]) ∧ BIn w' A1 R.length c1 R) ∧ Below w.heap.size w w') from by
    refine (HGOES.out _ BR.out.drew).mono ?_
    rintro e w' ⟨h1, h2⟩
    exact ⟨h1, BR.out.drew.trans h2⟩)
  have HK := Lib.hid hk
  have HKC := Lib.hid (fun (w' : World) (h : Below w.heap.size w w') => rh_kind (hblk.below' h))
  clear hblk hbin hs8 hb8 hgs hs hx hL ho HGC hR hk h10
  go_enter Tryd.func38, Tryd.ntmps38
  go_upto_region 1 with (fail)
  go_cut [3, 4] from 3 to 23 (fun v3 v4 wx => ∃ (G2 : Nat) (A1 : Option Addr) (c1 : Nat), v3 = .pointer (some ⟨G2, 0, none⟩) ∧ v4 = .slice A1 R.length c1 ∧ Blk wx G2 66 (natsV .u64 [b0, b1, b2, b3, b4, b5, b6, b7]) ∧ BIn wx A1 R.length c1 R ∧ Below w.heap.size w wx)
  case first =>
    go_region_held3 (fun w' => w'.cell? ⟨g, 0, none⟩ = some (.int .i64 (k : Nat)) ∧ w'.cell? ⟨g, 1, none⟩ = some (.int .u64 (a0 : Nat)) ∧ w'.cell? ⟨g, 2, none⟩ = some (.int .u64 (a1 : Nat)) ∧ w'.cell? ⟨g, 3, none⟩ = some (.int .u64 (a2 : Nat)) ∧ w'.cell? ⟨g, 4, none⟩ = some (.int .u64 (a3 : Nat)) ∧ w'.cell? ⟨g, 5, none⟩ = some (.int .u64 (a4 : Nat)) ∧ w'.cell? ⟨g, 6, none⟩ = some (.int .u64 (a5 : Nat)) ∧ w'.cell? ⟨g, 7, none⟩ = some (.int .u64 (a6 : Nat)) ∧ w'.cell? ⟨g, 8, none⟩ = some (.int .u64 (a7 : Nat)) ∧ w'.cell? ⟨g, 10, none⟩ = some (.slice aL L.length cL) ∧ Below w.heap.size w w') ((refine KS.out _ ?_; (repeat (with_reducible apply Below.setCell; rotate_left; (first | exact Nat.le_refl _ | exact hbx.size))); first | (with_reducible exact hbx) | (with_reducible exact hbx.alloc hbx.size _) | exact BR.out.drew | exact (BR.out.alloc (Nat.le_refl _) _).drew | exact (BR.out.drew.alloc (Nat.le_refl _) _))) (first | (go_at_call 48; refine HGA.out.mono ?_; rintro e wx ⟨⟨A1, c1, rfl, hr1⟩, hbx, hz8⟩; obtain ⟨z0, f0, z1, f1, z2, f2, z3, f3, z4, f4, z5, f5, z6, f6, z7, f7⟩ := zero81 hz8) | (go_at_call 48; refine HGB.out.mono ?_; rintro e wx ⟨⟨A1, c1, rfl, hr1⟩, hbx⟩))
    · go_wp2_with fail
      have hb2 : Below w.heap.size w (wx.alloc (.cells #[.int .u64 (b0 : Nat), .int .u64 (b1 : Nat), .int .u64 (b2 : Nat), .int .u64 (b3 : Nat), .int .u64 (b4 : Nat), .int .u64 (b5 : Nat), .int .u64 (b6 : Nat), .int .u64 (b7 : Nat)] 66)) := hbx.alloc hbx.size _
      have hq : Blk (wx.alloc (.cells #[.int .u64 (b0 : Nat), .int .u64 (b1 : Nat), .int .u64 (b2 : Nat), .int .u64 (b3 : Nat), .int .u64 (b4 : Nat), .int .u64 (b5 : Nat), .int .u64 (b6 : Nat), .int .u64 (b7 : Nat)] 66)) wx.heap.size 66 (natsV .u64 [b0, b1, b2, b3, b4, b5, b6, b7]) := Blk.new wx 66 (natsV .u64 [b0, b1, b2, b3, b4, b5, b6, b7])
      have hr2 := hr1.below ((Below.refl wx.heap.size wx).alloc (Nat.le_refl _) (.cells #[.int .u64 (b0 : Nat), .int .u64 (b1 : Nat), .int .u64 (b2 : Nat), .int .u64 (b3 : Nat), .int .u64 (b4 : Nat), .int .u64 (b5 : Nat), .int .u64 (b6 : Nat), .int .u64 (b7 : Nat)] 66))
      go_meet
      case rel => exact ⟨wx.heap.size, A1, c1, rfl, rfl, hq, hr2, hb2⟩
    · go_wp2_with fail
      have hb2 := below_setCells (Nat.le_refl _) (natsV .u64 [b0, b1, b2, b3, b4, b5, b6, b7]) 0 wx hbx
      have hq := eightSet (b0 := b0) (b1 := b1) (b2 := b2) (b3 := b3) (b4 := b4) (b5 := b5) (b6 := b6) (b7 := b7) (a0 := 0) (a1 := 0) (a2 := 0) (a3 := 0) (a4 := 0) (a5 := 0) (a6 := 0) (a7 := 0) hz8
      have hr2 := hr1.grown (grown_setCells w.heap.size (natsV .u64 [b0, b1, b2, b3, b4, b5, b6, b7]) 0 wx) (bin_ne66 (ws := [0, 0, 0, 0, 0, 0, 0, 0]) hr1 hz8)
      go_meet
      case rel => exact ⟨w.heap.size, A1, c1, rfl, rfl, hq, hr2, hb2⟩
  case rest =>
    obtain ⟨G2, A1, c1, rfl, rfl, hq, hr, hbe⟩ := hcut
    have HQ := Lib.hid hq
    have HRR := Lib.hid hr
    have HBE := Lib.hid hbe
    have HRC := Lib.hid (HR.out.below hbe)
    have hkc := HKC.out wc hbe
    have ek : IntKind.u8.wrap (k : Int) = (k : Int) := by rw [IntKind.wrap_u8]; omega
    have HN1 := Lib.hid (World.ownsRow_lit (base := wc.heap.size) (e := 5) (size := 1) wc #[.int .u8 (k : Nat)] 1 (Nat.le_refl _) (by unfold maxLen; omega) rfl)
    have hb1 := (Below.refl wc.heap.size wc).alloc (Nat.le_refl _) (.cells #[.int .u8 (k : Nat)] 5)
    have HLEN := Lib.hid (fun (w' : World) (h : Below wc.heap.size wc w') => refLen_any g base k n s L w' (HRC.out.below h) (by omega) (by omega))
    have hnm : n + L.length < 2 ^ 64 := by omega
    have hgc : g < wc.heap.size := Nat.lt_of_lt_of_le hgl hbe.size
    clear hq hr hbe
    generalize n + L.length = nm at *
    go_wp2_with fail
    refine (HLEN.out _ hb1).mono ?_
    rintro e w' ⟨rfl, qn, rfl⟩
    have HO4 := Lib.hid (show ((wc.alloc (.cells #[.int .u8 (k : Nat)] 5)).drewN qn).ownsRow wc.heap.size 5 1 (.slice (some ⟨wc.heap.size, 0, none⟩) 1 1) (1 + 0) (bytesV ([k] ++ tell (dig 8 nm) 0)) from HN1.out)
    have hbel4 := below_drewN hb1 qn
    clear HN1 hb1 HLEN hkc ek
    go_wp2_with fail
    go_loopw [5, 7] (fun v i wr => ∃ p : Nat, p ≤ 8 ∧ i = .int .i64 (7 - (p : Int)) ∧ wr.ownsRow wc.heap.size 5 1 v (1 + p) (bytesV ([k] ++ tell (dig 8 nm) p)) ∧ Below wc.heap.size wc wr) (fun _ i _ => (intOf i + 1).toNat)
    case atStart => exact ⟨0, by omega, by simp, HO4.out, hbel4⟩
    case round =>
      clear HO4 hbel4
      obtain ⟨p, hp, rfl, ho, hbel⟩ := hrel
      have hMp : 0 < 1 + p := by omega
      obtain ⟨G, cap, rfl, hcap, hcap2, hG⟩ := own_form ho hMp
      have HO := Lib.hid ho
      clear ho
      have hszw := hbel.size
      by_cases hp8 : p < 8
      · rw [show (7 : Int) - (p : Int) = ((7 - p : Nat) : Int) from by omega]
        have hge0 : (0 : Int) ≤ ((7 - p : Nat) : Int) := by omega
        have hdg : (nm : Int) / 2 ^ (8 * (7 - p)) % 256 = ((dig 8 nm p : Nat) : Int) := by
          rw [show dig 8 nm p = nm / 2 ^ (8 * (7 - p)) % 256 from rfl, cast_pow, ← Int.natCast_ediv]; rfl
        have hdgl := dig_lt 8 nm p
        have HT := Lib.hid (tell_succ (dig 8 nm) p)
        have u1 : IntKind.u64.wrap ((7 - p : Nat) : Int) = ((7 - p : Nat) : Int) := u64_cast _ (by omega)
        have u2 : IntKind.u64.wrap (8 * ((7 - p : Nat) : Int)) = ((8 * (7 - p) : Nat) : Int) := by rw [show 8 * ((7 - p : Nat) : Int) = ((8 * (7 - p) : Nat) : Int) from by omega]; exact u64_cast _ (by omega)
        have u2' : 8 * ((7 - p : Nat) : Int) = ((8 * (7 - p) : Nat) : Int) := by omega
        have e5 : min (8 * (7 - p)) 64 = 8 * (7 - p) := by omega
        have h56 : 8 * (7 - p) ≤ 56 := by omega
        have HNX := Lib.hid (show (7 : Int) - ((p + 1 : Nat) : Int) = ((7 - p : Nat) : Int) - 1 from by omega)
        generalize dig 8 nm p = y at *
        generalize 8 * (7 - p) = E at *
        have hpe7 : 7 - p ≤ 7 := by omega
        generalize hpe : 7 - p = pe at *
        have HPE := Lib.hid hpe
        clear hpe
        generalize hmp : 1 + p = mp at *
        have HMP := Lib.hid hmp
        have hmpb : mp + 1 ≤ 140737488355328 := by omega
        clear hmp
        have HO2 := Lib.hid (HO.out.alloc (.cells #[.int .u8 (y : Nat)] 5))
        have HN1 := Lib.hid (bin_one wr y hdgl)
        have hb1a := hbel.alloc hszw (.cells #[.int .u8 (y : Nat)] 5)
        go_wp2_with (at_builtin; go_must (refine wpList_append_bytes _ rfl _ _ rfl wc.heap.size (.slice (some ⟨G, 0, none⟩) mp cap) mp ([k] ++ tell (dig 8 nm) p) rfl HO2.out (some ⟨wr.heap.size, 0, none⟩) 1 1 [y] rfl HN1.out ?m1 ?m2 ?_))
        case m1 => omega
        case m2 => simp; omega
        intro v3 w3 h1 h2
        have hb3 := hb1a.grown h2 (by simp; omega) (fun j hj => (HO2.out.lt j hj).1)
        have h1' : w3.ownsRow wc.heap.size 5 1 v3 (mp + 1) (bytesV ([k] ++ tell (dig 8 nm) (p + 1))) := by
          rw [HT.out, ← List.append_assoc]; simpa using h1
        obtain ⟨G3, cap3, rfl, _, _, _⟩ := own_form h1' (by omega)
        have HO3 := Lib.hid (show w3.ownsRow wc.heap.size 5 1 (.slice (some ⟨G3, 0, none⟩) (mp + 1) cap3) (1 + (p + 1)) (bytesV ([k] ++ tell (dig 8 nm) (p + 1))) from by rw [show 1 + (p + 1) = mp + 1 from by rw [← HMP.out]; omega]; exact h1')
        clear h1 h1' h2 u1 u2 u2' hdg
        go_wp2_with fail
        go_roundw
        case rel => exact ⟨p + 1, by omega, by rw [HNX.out], HO3.out, hb3⟩
        case measure => have := HPE.out; simp [intOf] <;> omega
      · obtain rfl : p = 8 := by omega
        have hneg : ¬ (0 : Int) ≤ 7 - ((8 : Nat) : Int) := by omega
        have HO8 := Lib.hid (show wr.ownsRow wc.heap.size 5 1 (.slice (some ⟨G, 0, none⟩) 9 cap) 9 (bytesV ([k] ++ beB 8 nm)) from HO.out)
        have pk : wr.cell? ⟨g, 0, none⟩ = some (.int .i64 (k : Nat)) := rh_kind ((show Blk wc g 69 _ from HRC.out.2.2.2.2.2.2.choose_spec.1).below' hbel)
        obtain ⟨q0, q1, q2, q3, q4, q5, q6, q7, _, _, _, _, _, _, _, _⟩ := eightFacts (HQ.out.below' hbel)
        have hx64 : ∀ x ∈ [b0, b1, b2, b3, b4, b5, b6, b7], x < 2 ^ 64 := fun x hx => Nat.lt_of_lt_of_le (HXB.out x hx) (Nat.pow_le_pow_right (by decide) (by unfold wW; split <;> omega))
        have hWL : (beW (wB k) [b0, b1, b2, b3, b4, b5, b6, b7]).length ≤ 64 ∧ 0 < (beW (wB k) [b0, b1, b2, b3, b4, b5, b6, b7]).length := by rw [beW_length]; unfold wB; constructor <;> (split <;> simp)
        have HWD := words_any k HK.out [b0, b1, b2, b3, b4, b5, b6, b7] wr.drew rfl hx64
        have HSF := Lib.hid (show stateN k nm [b0, b1, b2, b3, b4, b5, b6, b7] R = ([k] ++ beB 8 nm) ++ beW (wB k) [b0, b1, b2, b3, b4, b5, b6, b7] ++ R from rfl)
        have HWB := Lib.hid (show ∀ x ∈ beW (wB k) [b0, b1, b2, b3, b4, b5, b6, b7], x < 256 from fun x hx => beW_lt _ _ x hx)
        clear hx64
        generalize beW (wB k) [b0, b1, b2, b3, b4, b5, b6, b7] = WB at *
        generalize hWLe : WB.length = WL at *
        have HWLE := Lib.hid hWLe
        have HAW := Lib.hid (show Calls Tryd.prog 49 #[.int .i64 (k : Nat), .agg #[.int .u64 (b0 : Nat), .int .u64 (b1 : Nat), .int .u64 (b2 : Nat), .int .u64 (b3 : Nat), .int .u64 (b4 : Nat), .int .u64 (b5 : Nat), .int .u64 (b6 : Nat), .int .u64 (b7 : Nat)]] wr.drew (fun e w' => ∃ G5 cap5, e = .returned (.slice (some ⟨G5, 0, none⟩) WL cap5) ∧ BIn w' (some ⟨G5, 0, none⟩) WL cap5 WB ∧ Below wr.heap.size wr w') from
          HWD.mono fun e w' h => by
            obtain ⟨v, he, ho, hb⟩ := h
            rw [HWLE.out] at ho
            obtain ⟨G5, cap5, rfl, _, _, _⟩ := own_form ho hWL.2
            obtain ⟨a5, c5, he5, hin5, _⟩ := own_in ho HWB.out (by omega)
            simp only [Value.slice.injEq] at he5
            obtain ⟨rfl, _, rfl⟩ := he5
            exact ⟨G5, _, he, hin5, ⟨hb.os, hb.tape, hb.output, hb.size, hb.block⟩⟩)
        clear HWD hWLe HO hcap hcap2
        generalize [k] ++ beB 8 nm = XS at *
        have HSUM := Lib.hid (show 9 + WL ≤ 140737488355328 from by omega)
        go_upto_region 8 with (fail)
        go_region_law (first | (refine step_append_bytes rfl (.tmp 45) (.tmp 51) rfl wc.heap.size (.slice (some ⟨G, 0, none⟩) 9 cap) 9 XS rfl (own_below HO8.out hb5) G5 0 WL cap5 WB rfl hin5 HSUM.out (Nat.le_trans hszw hb5.size) ?_; intro v' w' h1 h2) | (go_simp; go_at_call 49; refine HAW.out.mono ?_; rintro e w5 ⟨G5, cap5, rfl, hin5, hb5⟩))
        all_goals
          have hb6 := (hbel.trans (hb5.mono hszw)).grown h2 (Nat.le_trans hszw hb5.size) (fun j hj => ((own_below HO8.out hb5).lt j hj).1)
          have H1 := Lib.hid h1
          have HRR6 := Lib.hid (HRR.out.below hb6)
          clear h1 h2 hin5
          go_wp2_with (at_builtin; go_must (refine wpList_append_bytes _ rfl _ _ rfl wc.heap.size v' (9 + WL) (XS ++ WB) rfl H1.out A1 R.length c1 R rfl HRR6.out ?x1 ?x2 ?_))
          case x1 => omega
          case x2 => exact hb6.size
          intro v9 w9 h3 h4
          have hb9 := hb6.grown h4 hb6.size (fun j hj => (H1.out.lt j hj).1)
          have h5 := own_low h3 HBE.out.size
          have h6 : (XS ++ WB ++ R).length = 9 + WL + R.length := by have := h3.1; simpa [bytesV] using this
          go_wp2_with fail
          go_ret
          exact ⟨v9, rfl, by rw [HSF.out, h6, List.append_assoc]; exact h5, HBE.out.trans (hb9.mono HBE.out.size)⟩
end Go.Proofs.YtnikhnpigopihaaDoor
