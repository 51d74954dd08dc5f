/- A hash told as bytes. Condition: none but that the hash lies there. -/
import Derived.Test.YtnikhnpigopihaaDoorTake
import Derived.Deep.RegionLaw
import Derived.Deep.CutRange
import Derived.Deep.RegionWith
namespace Go.Proofs.YtnikhnpigopihaaDoor
open Go.RowKit
set_option linter.unusedVariables false
/-- a hash's state as bytes -/
def stateN (k n : Nat) (s t : List Nat) : List Nat := ([k] ++ beB 8 n) ++ beW (wB k) s ++ t
theorem step_append_bytes {ops : Array Oper} {o : Oper} {a : Act} {w : World} {K : Act → World → Prop} {Q : Exit → Act → World → Prop} {E : Prop}
    (hg : o.guard = none) (s x : Operand) (hop : o.op = Op.call { callee := Callee.builtin Builtin.append, args := #[s, x], argTypes := #[22, 22] })
    (base : Nat) (v : Value) (n : Nat) (xs : List Nat) (hs : a.eval s = v) (hown : w.ownsRow base 5 1 v n (bytesV xs)) (b off : Nat) (m c : Nat) (l : List Nat) (hx : a.eval x = .slice (some ⟨b, off, none⟩) m c) (hr : BIn w (some ⟨b, off, none⟩) m c l)
    (hb : n + m ≤ 140737488355328) (hbase : base ≤ w.heap.size)
    (hK : ∀ v' w', w'.ownsRow base 5 1 v' (n + m) (bytesV (xs ++ l)) → w.grownBy w' v.ownBlock → K (a.put o.dst v') w') :
    if Region.wanted o (yielded ops a.tmps) = true then Oper.wp Tryd.prog o a w K Q else E := by
  have hw : Region.wanted o (yielded ops a.tmps) = true := by simp [Region.wanted, hg]
  rw [if_pos hw]
  obtain ⟨i0, hi, hz0, hz1, hz2⟩ := info_parts info5
  obtain ⟨⟨hl, hm, hlt, hrow⟩, hc1, hc2, _, hnil⟩ := hr
  have hcs : ∀ j u, (bytesV l)[j]? = some u → w.cell? ((⟨b, off, none⟩ : Addr).add j) = some u := by
    intro j u hu
    have hj : j < l.length := by
      rcases Nat.lt_or_ge j l.length with h | h
      · exact h
      · rw [List.getElem?_eq_none (by simpa [bytesV] using h)] at hu; cases hu
    obtain ⟨b', off', hA, hc⟩ := hrow.resolve_left (by omega)
    injection hA with hA
    injection hA with e1 e2
    subst e1 e2
    have hadd : (⟨b, off, none⟩ : Addr).add j = ⟨b, off + j, none⟩ := by unfold Addr.add; split <;> simp_all
    rw [hadd, hc j (by omega), ← hu]
    simp [bytesV, List.getD_eq_getElem?_getD, List.getElem?_eq_getElem hj]
  have hone : ∀ u ∈ bytesV l, u.oneCell' = true := by
    intro u hu; obtain ⟨y, _, rfl⟩ := List.mem_map.1 hu; rfl
  obtain ⟨v', w', hrun, h1, h2, _⟩ := run_append_own (P := Tryd.prog) w base 22 o.type 5 i0 (.int .u8 0) 1 1 Tryd.underlying22 hi hz0 hz1 hz2 rfl (by decide) v n (bytesV xs) hown ⟨b, off, none⟩ m c (bytesV l) (by simpa [bytesV] using hl) hcs hone (by simp only [maxLen]; omega) (by omega) hbase
  unfold Oper.wp
  simp [execOp, hop, resolve, invoke, builtin, hs, hx, hrun, Result.andThen]
  exact hK v' w' (by simpa [bytesV] using h1) h2
theorem mod_le (k n : Nat) : n % (2 * wW k) ≤ 128 := by
  have h : n % (2 * wW k) < 2 * wW k := Nat.mod_lt _ (by unfold wW; split <;> omega)
  have h2 : 2 * wW k ≤ 128 := by unfold wW; split <;> omega
  omega
set_option maxRecDepth 100000 in
set_option maxHeartbeats 1600000 in
theorem state_any (g k n : Nat) (s t : List Nat) (w : World) (h : HashAt w g k n s t) :
    Calls Tryd.prog 26 #[.pointer (some ⟨g, 0, none⟩)] w (AppIs w.heap.size (stateN k n s t) w) := by
  obtain ⟨hk, hn, hs, hx, ht, hg, r, hr, hr2, hrt, blk⟩ := h
  have hx64 : ∀ x ∈ s, x < 2 ^ 64 := fun x hx' => Nat.lt_of_lt_of_le (hx x hx') (Nat.pow_le_pow_right (by decide) (by unfold wW; split <;> omega))
  have hkb : k < 256 := by rcases hk with rfl | rfl | rfl <;> decide
  have hkc := hash_kind blk
  have htc := hash_taken blk
  have hgl := blk.lt
  have BLK := Lib.hid blk
  have HN1 := Lib.hid (World.ownsRow_lit (base := w.heap.size) (e := 5) (size := 1) w #[.int .u8 (k : Nat)] 1 (Nat.le_refl _) (by unfold maxLen; omega) rfl)
  have hC1 := appendNumber_any w.heap.size (.slice (some ⟨w.heap.size, 0, none⟩) 1 1) [k] n 8 (w.alloc (.cells #[.int .u8 (k : Nat)] 5)).drew (by exact HN1.out) (by simp) (by simp) (Nat.le_refl _) hn
  have HC1 := Lib.hid hC1
  have HT := Lib.hid ht
  have HRT := Lib.hid hrt
  have HR2 := Lib.hid hr2
  clear hC1 hrt hr2 hx ht
  go_enter Tryd.func26, Tryd.ntmps26
  go_upto_region 3 with (fail)
  go_cut [3] from 6 to 15 (fun v wx => wx.ownsRow w.heap.size 5 1 v ([k] ++ beB 8 n).length (bytesV ([k] ++ beB 8 n)) ∧ Below w.heap.size w wx)
  case first =>
    go_region_with (go_at_call 43; refine HC1.out.mono ?_; rintro e w1 ⟨v, rfl, ho, hb⟩)
    all_goals
      have HO := Lib.hid ho
      have hb' := ((Below.refl w.heap.size w).alloc (Nat.le_refl _) (.cells #[.int .u8 (k : Nat)] 5)).trans (show Below w.heap.size (w.alloc (.cells #[.int .u8 (k : Nat)] 5)) w1 from ⟨hb.os, hb.tape, hb.output, hb.size, hb.block⟩)
      clear ho
      go_wp2_with fail
      go_meet
      case rel => exact ⟨HO.out, hb'⟩
  case rest =>
    obtain ⟨ho, hbel⟩ := hcut
    clear HN1 HC1 hkc htc
    have BLK1 := Lib.hid (BLK.out.below' hbel)
    obtain ⟨a0, a1, a2, a3, a4, a5, a6, a7, hs8⟩ := list8 hs
    have hsz1 := hbel.size
    have hC2 := appendWords_any w.heap.size u3 ([k] ++ beB 8 n) s (wB k) wc.drew ho hsz1 (by simp [beB_length]) (by unfold wB; split <;> omega) hs hx64
    have blk1 := BLK1.out
    subst hs8
    have HC2 := Lib.hid (show Calls Tryd.prog 44 #[u3, .agg #[.int .u64 (a0 : Nat), .int .u64 (a1 : Nat), .int .u64 (a2 : Nat), .int .u64 (a3 : Nat), .int .u64 (a4 : Nat), .int .u64 (a5 : Nat), .int .u64 (a6 : Nat), .int .u64 (a7 : Nat)], .int .i64 (wB k : Nat)] wc.drew (AppIs w.heap.size ([k] ++ beB 8 n ++ beW (wB k) [a0, a1, a2, a3, a4, a5, a6, a7]) wc.drew) from hC2)
    obtain ⟨p0, p1, p2, p3, p4, p5, p6, p7, _, _, _, _, _, _, _, _⟩ := wordFacts blk1
    have hkc := hash_kind blk1
    have HWS := Lib.hid (fun w => wordSize_any k hk w)
    clear hC2 blk1 ho
    go_upto_region 4 with (fail)
    go_cut [3] from 16 to 26 (fun v wx => wx.ownsRow w.heap.size 5 1 v (([k] ++ beB 8 n) ++ beW (wB k) [a0, a1, a2, a3, a4, a5, a6, a7]).length (bytesV (([k] ++ beB 8 n) ++ beW (wB k) [a0, a1, a2, a3, a4, a5, a6, a7])) ∧ Below w.heap.size w wx)
    case first =>
      go_region_with (first | (go_at_call 41; refine (HWS.out _).mono ?_; rintro e w' ⟨rfl, rfl⟩) | (go_at_call 44; refine HC2.out.mono ?_; rintro e w1 ⟨v, rfl, ho, hb⟩))
      all_goals
        have HO := Lib.hid ho
        have hb' := hbel.trans (show Below w.heap.size wc w1 from ⟨hb.os, hb.tape, hb.output, hb.size, hb.block⟩)
        clear ho
        go_wp2_with fail
        go_meet
        case rel => exact ⟨HO.out, hb'⟩
    case rest =>
      obtain ⟨ho, hbel2⟩ := hcut
      clear HC2 p0 p1 p2 p3 p4 p5 p6 p7 hkc BLK1 hbel hsz1
      have blk2 := BLK.out.below' hbel2
      have hbin := rest_bin (sz := t.length) blk2 rfl hr HR2.out (by rw [HT.out]; exact mod_le k n)
      rw [HRT.out] at hbin
      have htl : t.length ≤ 128 := by rw [HT.out]; exact mod_le k n
      have hW : 16 * wB k = 2 * wW k := by unfold wW wB; split <;> rfl
      have hHD := held_any g k n [a0, a1, a2, a3, a4, a5, a6, a7] r hk hn wc.drew blk2.drew
      rw [hW, ← HT.out] at hHD
      have HHD := Lib.hid hHD
      have hXS : (([k] ++ beB 8 n) ++ beW (wB k) [a0, a1, a2, a3, a4, a5, a6, a7]).length ≤ 100 := by
        rw [List.length_append, List.length_append, beB_length, beW_length]; have : wB k ≤ 8 := by unfold wB; split <;> omega
        simp; omega
      have HFIN := Lib.hid (show stateN k n [a0, a1, a2, a3, a4, a5, a6, a7] t = (([k] ++ beB 8 n) ++ beW (wB k) [a0, a1, a2, a3, a4, a5, a6, a7]) ++ t from rfl)
      have HO := Lib.hid ho
      have HBIN := Lib.hid hbin
      have hsz2 := hbel2.size
      clear ho hbin hHD hW blk2 hr
      generalize ([k] ++ beB 8 n) ++ beW (wB k) [a0, a1, a2, a3, a4, a5, a6, a7] = XS at *
      have HSUM := Lib.hid (show XS.length + t.length ≤ 140737488355328 from by omega)
      generalize t.length = tl at *
      have htI : (tl : Int) ≤ 128 := by omega
      have HTL := Lib.hid HBIN.out.1.1
      go_upto_region 5 with (fail)
      go_region_law (first | (refine step_append_bytes rfl (.tmp 27) (.tmp 33) rfl w.heap.size u3 XS.length XS rfl HO.out g 10 tl 128 t rfl HBIN.out HSUM.out hsz2 ?_; intro v' w' h1 h2) | (go_simp; go_at_call 42; refine HHD.out.mono ?_; rintro e w' ⟨rfl, q, rfl⟩))
      all_goals
        have hb4 : Below w.heap.size w w' := hbel2.trans (⟨h2.os, h2.tape, h2.output, h2.size, fun j hj => h2.block j (Nat.lt_of_lt_of_le hj hsz2) (fun e => by have := (HO.out.lt j e.symm).1; omega)⟩)
        have H1 := Lib.hid h1
        clear h1 h2
        go_wp2_with fail
        go_ret
        refine ⟨v', rfl, ?_, hb4⟩
        rw [HFIN.out, List.length_append, HTL.out]
        exact H1.out
end Go.Proofs.YtnikhnpigopihaaDoor
