/- ShaFull's walk. -/
import Derived.Test.YtnikhnpigopihaaDoorBack
import Derived.Test.YtnikhnpigopihaaDoorAwake
import Derived.Test.YtnikhnpigopihaaDoorMeth
import Derived.Test.YtnikhnpigopihaaDoorSame
namespace Go.Proofs.YtnikhnpigopihaaDoor
open Go.RowKit
set_option linter.unusedVariables false
set_option maxRecDepth 100000 in
set_option maxHeartbeats 4000000 in
theorem full_walk (K Q : Int) (a1 : Option Addr) (n1 c1 : Nat) (X : List Nat) (a2 : Option Addr) (m2 c2 : Nat) (M : List Nat) (w : World) (hK : -9223372036854775808 ≤ K ∧ K ≤ 9223372036854775807) (hQ : -9223372036854775808 ≤ Q ∧ Q ≤ 9223372036854775807)
    (h1 : BIn w a1 n1 c1 X) (h2 : BIn w a2 m2 c2 M) (htab : Tabs w) :
    Calls Tryd.prog 7 #[.agg #[.int .i64 K, .int .i64 Q, .slice a1 n1 c1, .slice a2 m2 c2]] w fun e w' => e = .returned (.bool true) ∧ Below w.heap.size w w' := by
  obtain ⟨W1, hW1⟩ : ∃ W1 : World, w.alloc (.cells #[.int .i64 K, .int .i64 Q, .slice a1 n1 c1, .slice a2 m2 c2] 58) = W1 := ⟨_, rfl⟩
  have hb1 : Below w.heap.size w W1 := by rw [← hW1]; exact (Below.refl _ _).alloc (Nat.le_refl _) _
  have HA := Lib.hid (awake_any W1 (htab.below hb1))
  have HW1 := Lib.hid hW1
  clear hW1
  go_enter Tryd.func7, Tryd.ntmps7
  go_wp2_with fail
  rw [HW1.out]
  refine HA.out.mono ?_
  rintro e w2 ⟨rfl, hb2'⟩
  have hb2 := hb1.trans (hb2'.mono hb1.size)
  clear HA HW1 hb1 hb2'
  go_upto_if 32 with (fail)
  go_cut [3] from 33 to 35 (fun v wx => ∃ p : Nat, p ≤ 9223372036854775807 ∧ v = .int .i64 p ∧ wx = w2)
  case first =>
    by_cases hK0 : K < 0
    · have e1 : ∃ p : Nat, p ≤ 9223372036854775807 ∧ -(K + 1) = (p : Int) := ⟨(-(K + 1)).toNat, by omega, by omega⟩
      obtain ⟨p, hp, e1⟩ := e1
      go_wp2_with fail
      go_meet
      case rel => exact ⟨p, hp, (by first | rfl | rw [e1]), rfl⟩
    · obtain ⟨p, rfl⟩ := Int.eq_ofNat_of_zero_le (show 0 ≤ K by omega)
      go_wp2_with fail
      go_meet
      case rel => exact ⟨p, by omega, rfl, rfl⟩
  case rest =>
    obtain ⟨p, hp, rfl, rfl⟩ := hcut
    go_upto_if 37 with (fail)
    go_cut [4] from 38 to 40 (fun v wx => ∃ q : Nat, q ≤ 9223372036854775807 ∧ v = .int .i64 q ∧ wx = wc)
    case first =>
      by_cases hQ0 : Q < 0
      · have e1 : ∃ p : Nat, p ≤ 9223372036854775807 ∧ -(Q + 1) = (p : Int) := ⟨(-(Q + 1)).toNat, by omega, by omega⟩
        obtain ⟨p', hp', e1⟩ := e1
        go_wp2_with fail
        go_meet
        case rel => exact ⟨p', hp', (by first | rfl | rw [e1]), rfl⟩
      · obtain ⟨p', rfl⟩ := Int.eq_ofNat_of_zero_le (show 0 ≤ Q by omega)
        go_wp2_with fail
        go_meet
        case rel => exact ⟨p', by omega, rfl, rfl⟩
    case rest =>
      obtain ⟨q, hq, rfl, rfl⟩ := hcut
      clear hK hQ
      obtain ⟨k, hk⟩ : ∃ k, 1 + p % 3 = k := ⟨_, rfl⟩
      have hkk : IsKind k := by unfold IsKind; omega
      have ek : 1 + (p : Int) % 3 = (k : Int) := by omega
      obtain ⟨lf, hlf⟩ : ∃ lf, q % 300 = lf := ⟨_, rfl⟩
      have hlf3 : lf < 300 := by omega
      have el : (q : Int) % 300 = (lf : Int) := by omega
      obtain ⟨nn, hnn⟩ : ∃ nn, 2305843009213693951 - lf = nn := ⟨_, rfl⟩
      have hnn1 : nn ≤ 2305843009213693951 := by omega
      have en : (2305843009213693951 : Int) - (lf : Int) = (nn : Int) := by omega
      have hk3 : k ≤ 3 := by omega
      have HNL := Lib.hid (show nn + lf = 2305843009213693951 from by omega)
      clear hk hlf hnn
      have HKI := Lib.hid (fun w => Kind_any k hkk w)
      have HKI2 := Lib.hid (show ∀ w, Calls Tryd.prog 32 #[.int .i64 (k : Nat)] w fun e w' => e = .returned (.tuple #[.int .u64 (wW k : Nat), .int .i64 (16 * wB k : Nat), .int .i64 (rounds (wW k) : Nat), .int .i64 (dgB k : Nat)]) ∧ w = w' from HKI.out)
      clear HKI
      have hwW : wW k ≤ 64 := by unfold wW; split <;> omega
      have hwB : wB k ≤ 8 ∧ 4 ≤ wB k := by unfold wB; split <;> omega
      have HRel := Lib.hid (show wW k = 8 * wB k ∧ 2 * wW k = 16 * wB k from by unfold wW wB; split <;> simp)
      obtain ⟨sz, hsz⟩ : ∃ sz, 16 * wB k = sz := ⟨_, rfl⟩
      rw [hsz] at HKI2
      have hszb : 64 ≤ sz ∧ sz ≤ 128 := by omega
      have HSZ := Lib.hid hsz
      clear hsz hwB
      obtain ⟨ww, hww⟩ : ∃ ww, wW k = ww := ⟨_, rfl⟩
      rw [hww] at HKI2 hwW
      have HWW := Lib.hid hww
      clear hww
      generalize rounds ww = rr at *
      generalize dgB k = dd at *
      go_wp2_with fail
      refine (HKI2.out _).mono ?_
      rintro e w' ⟨rfl, rfl⟩
      go_wp2_with fail
      have hmodI : (nn : Int) % (sz : Int) = ((nn % sz : Nat) : Int) := (Int.natCast_emod nn sz).symm
      have hdl : nn % sz < sz := Nat.mod_lt _ (by omega)
      obtain ⟨hd, hhd⟩ : ∃ hd, nn % sz = hd := ⟨_, rfl⟩
      rw [hhd] at hmodI hdl
      have HHD := Lib.hid hhd
      have EL := Lib.hid el
      clear hhd ek el en
      have hkb : k < 256 := by omega
      have HOWN0 := Lib.hid (World.ownsRow_lit (base := wc.heap.size) (e := 5) (size := 1) wc #[.int .u8 (k : Nat)] 1 (Nat.le_refl _) (by unfold maxLen; omega) rfl)
      go_loopw [14, 15] (fun v i wr => ∃ j : Nat, j ≤ 8 ∧ i = .int .i64 (7 - (j : Int)) ∧ wr.ownsRow wc.heap.size 5 1 v (1 + j) (bytesV ([k] ++ tell (dig 8 nn) j)) ∧ Below wc.heap.size wc wr) (fun _ i _ => (intOf i + 1).toNat)
      case atStart => exact ⟨0, by omega, rfl, by simpa [tell, bytesV] using HOWN0.out, (Below.refl _ _).alloc (Nat.le_refl _) _⟩
      case round =>
        obtain ⟨j, hj, rfl, hown, hbel⟩ := hrel
        have HO := Lib.hid hown
        clear hown HOWN0
        by_cases hj8 : j < 8
        · rw [show (7 : Int) - (j : Int) = ((7 - j : Nat) : Int) from by omega]
          have hdg : (nn : Int) / 2 ^ (8 * (7 - j)) % 256 = ((dig 8 nn j : Nat) : Int) := by
            unfold dig; rw [cast_pow, ← Int.natCast_ediv]; rfl
          have hdgl := dig_lt 8 nn j
          have HT := Lib.hid (tell_succ (dig 8 nn) j)
          have e5 : min (8 * (7 - j)) 64 = 8 * (7 - j) := by omega
          have h7 : 7 - j ≤ 7 := by omega
          generalize dig 8 nn j = y at *
          have hszw := hbel.size
          have hbel2 := hbel.alloc (show wc.heap.size ≤ wr.heap.size by omega) (.cells #[.int .u8 (y : Nat)] 5)
          have HBN := Lib.hid (bin_new wr y hdgl)
          have HO2 := Lib.hid (HO.out.alloc (.cells #[.int .u8 (y : Nat)] 5))
          go_wp2_with (at_builtin; refine wpList_append_bytes _ rfl _ _ rfl wc.heap.size u14 (1 + j) ([k] ++ tell (dig 8 nn) j) rfl HO2.out (some ⟨wr.heap.size, 0, none⟩) 1 1 [y] rfl HBN.out ?c1 ?c2 ?_)
          case c1 => omega
          case c2 => first | (simp; omega) | omega
          intro v' w' q1 q2
          have hb3 := hbel2.grown q2 (by simp; omega) (fun i hi => (HO2.out.lt i hi).1)
          have Q1 := Lib.hid (show w'.ownsRow wc.heap.size 5 1 v' (1 + (j + 1)) (bytesV ([k] ++ tell (dig 8 nn) (j + 1))) from by rw [HT.out, ← List.append_assoc]; exact q1)
          clear q1 q2
          go_wp2_with fail
          go_roundw
          case rel => exact ⟨j + 1, by omega, by go_num, Q1.out, hb3⟩
          case measure => simp [intOf] <;> omega
        · obtain rfl : j = 8 := by omega
          rw [show (7 : Int) - ((8 : Nat) : Int) = -1 from rfl]
          go_wp2_with fail
          have HSL := Lib.hid (show ([k] ++ tell (dig 8 nn) 8 : List Nat) = [k] ++ beB 8 nn from rfl)
          have HO9 := Lib.hid (show wr.ownsRow wc.heap.size 5 1 u14 (9 + 0) (bytesV (([k] ++ beB 8 nn) ++ tell (fun i => if i < n1 then X.getD i 0 else i) 0)) from by simpa [tell, beB] using HO.out)
          have hT : ww + hd ≤ 192 := by omega
          have H1 := Lib.hid (h1.below hb2)
          have hszc := hbel.size
          clear HO HSL
          go_loopw [14, 16] (fun v i wr' => ∃ t : Nat, t ≤ ww + hd ∧ i = .int .i64 (t : Nat) ∧ wr'.ownsRow wc.heap.size 5 1 v (9 + t) (bytesV (([k] ++ beB 8 nn) ++ tell (fun i => if i < n1 then X.getD i 0 else i) t)) ∧ Below wc.heap.size wc wr') (fun _ i _ => ww + hd - (intOf i).toNat)
          case atStart => exact ⟨0, by omega, rfl, HO9.out, hbel⟩
          case round =>
            clear hbel HO9 hszc
            obtain ⟨t, ht, rfl, hown, hbel⟩ := hrel
            have HO := Lib.hid hown
            clear hown
            have hszw := hbel.size
            by_cases htT : t < ww + hd
            · obtain ⟨y, hy⟩ : ∃ y, (if t < n1 then X.getD t 0 else t) = y := ⟨_, rfl⟩
              have hyl : y < 256 := by rw [← hy]; split; exact getD_lt H1.out.1.2.2.1 t; omega
              have HT := Lib.hid (show tell (fun i => if i < n1 then X.getD i 0 else i) (t + 1) = tell (fun i => if i < n1 then X.getD i 0 else i) t ++ [y] from by rw [tell_succ, ← hy])
              have htI : (t : Int) < (ww : Int) + (hd : Int) := by omega
              have ht256 : t < 256 := by omega
              by_cases htn : t < n1
              · rw [if_pos htn] at hy
                obtain ⟨b, off, rfl, hcell⟩ := H1.out.1.2.2.2.resolve_left (by omega)
                have hc := hcell t htn
                rw [hy] at hc
                have hcx : wr.cell? ⟨b, off + t, none⟩ = some (.int .u8 (y : Nat)) := (hbel.cell (World.block_lt_of_cell? _ _ hc)).trans hc
                clear hcell hc hy
                have htnI : (t : Int) < (n1 : Int) := by omega
                have hbel2 := hbel.alloc (show wc.heap.size ≤ wr.heap.size by omega) (.cells #[.int .u8 (y : Nat)] 5)
                have HBN := Lib.hid (bin_new wr y hyl)
                have HO2 := Lib.hid (HO.out.alloc (.cells #[.int .u8 (y : Nat)] 5))
                clear hyl
                go_wp2_with (at_builtin; refine wpList_append_bytes _ rfl _ _ rfl wc.heap.size u14 (9 + t) (([k] ++ beB 8 nn) ++ tell (fun i => if i < n1 then X.getD i 0 else i) t) rfl HO2.out (some ⟨wr.heap.size, 0, none⟩) 1 1 [y] rfl HBN.out ?c1 ?c2 ?_)
                case c1 => omega
                case c2 => first | (simp; omega) | omega
                intro v' w' q1 q2
                have hb3 := hbel2.grown q2 (by simp; omega) (fun i hi => (HO2.out.lt i hi).1)
                have Q1 := Lib.hid (show w'.ownsRow wc.heap.size 5 1 v' (9 + (t + 1)) (bytesV (([k] ++ beB 8 nn) ++ tell (fun i => if i < n1 then X.getD i 0 else i) (t + 1))) from by rw [HT.out, ← List.append_assoc]; exact q1)
                clear q1 q2
                go_wp2_with fail
                go_roundw
                case rel => exact ⟨t + 1, by omega, by go_num, Q1.out, hb3⟩
                case measure => simp [intOf] <;> omega
              · rw [if_neg htn] at hy
                subst hy
                have htnI : ¬ (t : Int) < (n1 : Int) := by omega
                have hbel2 := hbel.alloc (show wc.heap.size ≤ wr.heap.size by omega) (.cells #[.int .u8 (t : Nat)] 5)
                have HBN := Lib.hid (bin_new wr t hyl)
                have HO2 := Lib.hid (HO.out.alloc (.cells #[.int .u8 (t : Nat)] 5))
                clear hyl
                go_wp2_with (at_builtin; refine wpList_append_bytes _ rfl _ _ rfl wc.heap.size u14 (9 + t) (([k] ++ beB 8 nn) ++ tell (fun i => if i < n1 then X.getD i 0 else i) t) rfl HO2.out (some ⟨wr.heap.size, 0, none⟩) 1 1 [t] rfl HBN.out ?c1 ?c2 ?_)
                case c1 => omega
                case c2 => first | (simp; omega) | omega
                intro v' w' q1 q2
                have hb3 := hbel2.grown q2 (by simp; omega) (fun i hi => (HO2.out.lt i hi).1)
                have Q1 := Lib.hid (show w'.ownsRow wc.heap.size 5 1 v' (9 + (t + 1)) (bytesV (([k] ++ beB 8 nn) ++ tell (fun i => if i < n1 then X.getD i 0 else i) (t + 1))) from by rw [HT.out, ← List.append_assoc]; exact q1)
                clear q1 q2
                go_wp2_with fail
                go_roundw
                case rel => exact ⟨t + 1, by omega, by go_num, Q1.out, hb3⟩
                case measure => simp [intOf] <;> omega
            · obtain rfl : t = ww + hd := by omega
              obtain ⟨G, cap, rfl, hcap1, hcap2, hG⟩ := own_form HO.out (by omega)
              obtain ⟨L, hL⟩ : ∃ L, ([k] ++ beB 8 nn) ++ tell (fun i => if i < n1 then X.getD i 0 else i) (ww + hd) = L := ⟨_, rfl⟩
              rw [hL] at HO
              have hLlt : ∀ x ∈ L, x < 256 := by
                rw [← hL]
                intro x hx
                rcases List.mem_append.1 hx with h | h
                · rcases List.mem_append.1 h with h | h
                  · simp at h; omega
                  · exact beB_lt _ _ x h
                · obtain ⟨i, hi, rfl⟩ := List.mem_map.1 h
                  have hi' := List.mem_range.1 hi
                  show (if i < n1 then X.getD i 0 else i) < 256
                  split
                  · exact getD_lt H1.out.1.2.2.1 i
                  · omega
              have hL0 : L.getD 0 0 = k := by rw [← hL]; rfl
              have hLn : be ((L.drop 1).take 8) = nn := by
                have e : (L.drop 1).take 8 = beB 8 nn := by
                  rw [← hL]
                  show List.take 8 (beB 8 nn ++ tell (fun i => if i < n1 then X.getD i 0 else i) (ww + hd)) = _
                  rw [List.take_append_of_le_length (by rw [beB_length]; exact Nat.le_refl _), List.take_of_length_le (by rw [beB_length]; exact Nat.le_refl _)]
                rw [e]; exact be_beB 8 nn (by omega)
              have hm9 : 9 + (ww + hd) = 9 + 8 * wB k + nn % (2 * wW k) := by
                have e1 := HRel.out.1
                have e2 := HRel.out.2
                have e3 := HWW.out
                have e4 := HSZ.out
                have e5 := HHD.out
                rw [e2, e4, e5]; omega
              obtain ⟨a', c', hv, hbin, hLl⟩ := own_in HO.out hLlt (by omega)
              injection hv with v1 v2 v3
              subst v1 v3
              have hbw : Below w.heap.size w wr := hb2.trans (hbel.mono hb2.size)
              have hw2 : 2 ≤ w.heap.size := htab.size
              have HOP := Lib.hid (open_ok G 0 (9 + (ww + hd)) cap L k nn wr hbin hkk hL0 hLn hnn1 hm9 (Nat.le_trans hw2 hbw.size))
              have HSB := Lib.hid (state_back k nn L hLlt (by rw [hLl]; omega) hL0 hLn)
              have HBIN := Lib.hid hbin
              have HLL := Lib.hid hLl
              have HBW := Lib.hid hbw
              have hbel' := hbel
              clear HO hL hLlt hL0 hLn hm9 hbin hLl hbw
              generalize tell (stW k L) 8 = s8 at *
              generalize L.drop (9 + 8 * wB k) = t8 at *
              go_wp2_with fail
              refine HOP.out.mono ?_
              rintro e w3 ⟨g, rfl, hg, hha, hb3⟩
              have hbw3 := HBW.out.trans (hb3.mono HBW.out.size)
              have hgw : w.heap.size ≤ g := Nat.le_trans HBW.out.size hg
              have el := EL.out
              have HHA := Lib.hid hha
              clear hha HOP
              by_cases hfit : m2 ≤ lf
              · have hfI : (m2 : Int) ≤ (lf : Int) := by omega
                have hfB : decide ((m2 : Int) ≤ (lf : Int)) = true := by simp; omega
                have HWR := Lib.hid (write_any g k nn s8 t8 M a2 m2 c2 w3 HHA.out (h2.below hbw3) (fun b hb hm e => by have := bin_block h2 b hb hm; omega) (htab.below hbw3) (by have := HNL.out; omega))
                go_wp2_with fail
                refine HWR.out.mono ?_
                rintro e w4 ⟨rfl, hha4, hg4⟩
                have hbw4 : Below w.heap.size w w4 := hbw3.trans ⟨hg4.os, hg4.tape, hg4.output, hg4.size, fun i hi => hg4.block i (Nat.lt_of_lt_of_le hi hbw3.size) (fun e => by injection e with e; omega)⟩
                have HLEN := Lib.hid (len_any g k (nn + m2) _ _ w4 hha4)
                have heq : (((nn + m2 : Nat) : Int) == (nn : Int) + (m2 : Int)) = true := by simp
                clear hha4 hg4 HWR
                go_wp2_with fail
                refine HLEN.out.mono ?_
                rintro e w' ⟨rfl, rfl⟩
                go_wp2_with fail
                go_ret
                exact ⟨rfl, hbw4⟩
              · have hfI : ¬ (m2 : Int) ≤ (lf : Int) := by omega
                have hfB : decide ((m2 : Int) ≤ (lf : Int)) = false := by simp; omega
                have HWR := Lib.hid (write_long g k nn s8 t8 M a2 m2 c2 w3 HHA.out hnn1 h2.2.2.2.1 (by have := HNL.out; omega))
                have HLEN := Lib.hid (len_any g k nn s8 t8 w3 HHA.out)
                have HST := Lib.hid (state_any g k nn s8 t8 w3 HHA.out)
                rw [HSB.out] at HST
                go_wp2_with fail
                refine HWR.out.mono ?_
                rintro e w' ⟨rfl, rfl⟩
                go_wp2_with fail
                refine HLEN.out.mono ?_
                rintro e w' ⟨rfl, rfl⟩
                go_wp2_with fail
                refine HST.out.mono ?_
                rintro e w4 ⟨v4, rfl, ho4, hb4⟩
                obtain ⟨a4, c4, rfl, hbin4, hl4⟩ := own_in ho4 HBIN.out.1.2.2.1 (by rw [HLL.out]; omega)
                rw [HLL.out] at hbin4
                have HSM := Lib.hid (same_eq a4 (some ⟨G, 0, none⟩) (9 + (ww + hd)) c4 cap L w4 hbin4.1 ((HBIN.out.below hb3).below hb4).1)
                have hbw4 := hbw3.trans (hb4.mono hbw3.size)
                rw [HLL.out]
                clear ho4 hbin4 hl4 HST HWR HLEN
                go_wp2_with fail
                refine HSM.out.mono ?_
                rintro e w5 ⟨rfl, hb5⟩
                go_wp2_with fail
                go_ret
                exact ⟨rfl, hbw4.trans (hb5.mono hbw4.size)⟩
end Go.Proofs.YtnikhnpigopihaaDoor
