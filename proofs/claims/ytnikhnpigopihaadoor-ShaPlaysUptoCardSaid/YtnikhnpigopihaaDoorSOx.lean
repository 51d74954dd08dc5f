/- ShaOpens' walk. Condition: the tables; what is written has at most 2^47 - 4096 bytes. -/
import Derived.Test.YtnikhnpigopihaaDoorROk
import Derived.Test.YtnikhnpigopihaaDoorRSn
import Derived.Test.YtnikhnpigopihaaDoorBack
import Derived.Test.YtnikhnpigopihaaDoorAwake
import Derived.Test.YtnikhnpigopihaaDoorOnce
import Derived.Test.YtnikhnpigopihaaDoorMeth
import Derived.Test.YtnikhnpigopihaaDoorState
import Derived.Test.YtnikhnpigopihaaDoorSame
namespace Go.Proofs.YtnikhnpigopihaaDoor
open Go.RowKit
set_option linter.unusedVariables false
set_option linter.unusedSimpArgs false
theorem dgB_le (k : Nat) : dgB k ≤ 64 := by unfold dgB; (repeat' split) <;> omega
/-- what the law answers -/
def SoIs (w : World) (e : Ending) (w' : World) : Prop := e = .returned (.bool true) ∧ Below w.heap.size w w'
theorem HashAt.belowB {w w' : World} {g k n B : Nat} {s t : List Nat} (h : HashAt w g k n s t) (hb : Below B w w') (hg : g < B) : HashAt w' g k n s t := by
  obtain ⟨h1, h2, h3, h4, h5, h6, r, h7, h8, h9, h10⟩ := h
  exact ⟨h1, h2, h3, h4, h5, h6, r, h7, h8, h9, h10.below hb hg⟩
theorem HashAt.lt {w : World} {g k n : Nat} {s t : List Nat} (h : HashAt w g k n s t) : g < w.heap.size := by
  obtain ⟨r, b⟩ := h.blk
  exact b.lt
theorem RefAt.grownB {w w' : World} {g base k n x : Nat} {s L : List Nat} (h : RefAt w g base k s n L) (hb : w.grownBy w' (some x)) (hx : x < g) : RefAt w' g base k s n L := by
  obtain ⟨h1, h2, h3, h4, h5, h6, v, h7, h8⟩ := h
  refine ⟨h1, h2, h3, h4, h5, Nat.le_trans h6 hb.size, v, h7.grown hb (fun e => by injection e with e; omega), h8.kept hb ?_⟩
  cases hv : v.ownBlock with
  | none => exact .inl rfl
  | some G => exact .inr (fun e => by injection e with e; have := (h8.lt G hv).1; omega)
set_option maxHeartbeats 1600000 in
theorem opens_no (a : Option Addr) (m c : Nat) (L : List Nat) (a2 : Option Addr) (m2 c2 : Nat) (w : World) (hb : BIn w a m c L) (htab : Tabs w) (hno : m < 9 ∨ ∀ k n, ¬ IsSt L k n) :
    Calls Tryd.prog 5 #[.slice a m c, .slice a2 m2 c2] w (SoIs w) := by
  have HP := Lib.hid (show ∀ w', Below w.heap.size w w' → Calls Tryd.prog 24 #[.slice a m c] w' (NoIs w') from fun w' h => by
    by_cases h9 : m < 9
    · exact open_short a m c w' h9
    · obtain ⟨b, off, rfl, _⟩ := hb.1.2.2.2.resolve_left (by omega)
      exact open_no b off m c L w' (hb.below h) (by omega) (hno.resolve_left h9))
  have HD := Lib.hid (show ∀ w', Below w.heap.size w w' → Calls Tryd.prog 25 #[.slice a m c] w' (RefNo w') from fun w' h => by
    by_cases h9 : m < 9
    · exact refOpen_short a m c w' h9
    · obtain ⟨b, off, rfl, _⟩ := hb.1.2.2.2.resolve_left (by omega)
      exact refOpen_no b off m c L w' (hb.below h) (by omega) (hno.resolve_left h9))
  have HA := Lib.hid (awake_any w htab)
  clear hb htab hno
  unfold SoIs
  go_enter Tryd.func5, Tryd.ntmps5
  go_wp2_with fail
  refine HA.out.mono ?_
  rintro e w1 ⟨rfl, hb1⟩
  go_wp2_with fail
  refine (HP.out w1 hb1).mono ?_
  rintro e w2 ⟨rfl, hb2⟩
  have hbe2 := hb1.trans (hb2.mono hb1.size)
  clear hb2
  go_wp2_with fail
  refine (HD.out w2 hbe2).mono ?_
  rintro e w3 ⟨rfl, hb3⟩
  have hbe3 := hbe2.trans (hb3.mono hbe2.size)
  clear hb3
  go_wp2_with fail
  go_ret
  exact ⟨rfl, hbe3⟩
set_option maxHeartbeats 3200000 in
theorem opens_yes (b off m c : Nat) (L : List Nat) (a2 : Option Addr) (m2 c2 : Nat) (l : List Nat) (k n : Nat) (w : World) (hb : BIn w (some ⟨b, off, none⟩) m c L) (hb2 : BIn w a2 m2 c2 l) (htab : Tabs w) (h2 : 2 ≤ w.heap.size) (hst : IsSt L k n) (h47 : m2 ≤ 140737488351232) :
    Calls Tryd.prog 5 #[.slice (some ⟨b, off, none⟩) m c, .slice a2 m2 c2] w (SoIs w) := by
  obtain ⟨hk, h0, hn8, hn, hlen⟩ := hst
  have hm := hb.1.1
  have hmk : m = 9 + 8 * wB k + n % (2 * wW k) := by omega
  have HO := Lib.hid (show ∀ w', Below w.heap.size w w' → Calls Tryd.prog 24 #[.slice (some ⟨b, off, none⟩) m c] w' (OpenIs k n (tell (stW k L) 8) (L.drop (9 + 8 * wB k)) w') from fun w' h => open_ok b off m c L k n w' (hb.below h) hk h0 hn8 hn hmk (Nat.le_trans h2 h.size))
  have HR := Lib.hid (show ∀ w', Below w.heap.size w w' → Calls Tryd.prog 25 #[.slice (some ⟨b, off, none⟩) m c] w' (RefOp k (n - n % (2 * wW k)) (tell (stW k L) 8) (L.drop (9 + 8 * wB k)) w') from fun w' h => refOpen_ok b off m c L k n w' (hb.below h) hk h0 hn8 hn hmk)
  have HSB := Lib.hid (state_back k n L hb.1.2.2.1 (by omega) h0 hn8)
  have hw : 0 < wW k ∧ wW k ≤ 64 := by unfold wW; split <;> omega
  have hTl : (L.drop (9 + 8 * wB k)).length = n % (2 * wW k) := by rw [List.length_drop]; omega
  have hr1 : n % (2 * wW k) ≤ n := Nat.mod_le _ _
  have hr2 : n % (2 * wW k) < 2 * wW k := Nat.mod_lt _ (by omega)
  have hmod : (n - n % (2 * wW k)) % (2 * wW k) = 0 := by
    have := Nat.div_add_mod n (2 * wW k)
    rw [show n - n % (2 * wW k) = 2 * wW k * (n / (2 * wW k)) by omega]
    exact Nat.mul_mod_right _ _
  have hS8 : (tell (stW k L) 8).length = 8 := tell_length _ _
  have hSx : ∀ x ∈ tell (stW k L) 8, x < 2 ^ wW k := tell_lt _ _ (stW_lt k L hb.1.2.2.1) _
  have HLB := Lib.hid hb.1.2.2.1
  have HLM := Lib.hid hm
  have HB := Lib.hid hb
  have HB2 := Lib.hid hb2
  have HTAB := Lib.hid htab
  have HA := Lib.hid (awake_any w htab)
  have hm47 := hb.2.2.2.1
  have HL2 := Lib.hid hb2.1.1
  generalize tell (stW k L) 8 = S at *
  generalize L.drop (9 + 8 * wB k) = T at *
  obtain ⟨n0, hn0⟩ : ∃ n0, n - n % (2 * wW k) = n0 := ⟨_, rfl⟩
  have hnT : n0 + T.length = n := by omega
  have hT128 : T.length < 128 := by omega
  rw [hn0] at HR hmod
  have HMOD := Lib.hid hmod
  have HS8 := Lib.hid hS8
  have HSX := Lib.hid hSx
  have HDN0 := Lib.hid (show ∀ N X, (digN k N S X).length ≤ 140737488355328 from fun N X => by have h1 := digN_length k N S X hS8 hSx; have h2 := dgB_le k; omega)
  have hw0 := hw.1
  clear hb hb2 htab hmod hS8 hSx hlen hmk hr1 hr2 hn0 hTl h0 hn8 hw hm
  unfold SoIs
  go_enter Tryd.func5, Tryd.ntmps5
  go_wp2_with fail
  refine HA.out.mono ?_
  rintro e w1 ⟨rfl, hb1⟩
  go_wp2_with fail
  refine (HO.out w1 hb1).mono ?_
  rintro e w2 ⟨g, rfl, hg, hh2, hb2⟩
  have hgw := Nat.le_trans hb1.size hg
  have hbe2 := hb1.trans (hb2.mono hb1.size)
  have HH2 := Lib.hid hh2
  clear hb2 hh2 hg
  go_wp2_with fail
  refine (HR.out w2 hbe2).mono ?_
  rintro e w3 ⟨g2, rfl, hg2, hr3, hb3⟩
  have HH3 := Lib.hid (HH2.out.belowB hb3 HH2.out.lt)
  have hgg : g < g2 := Nat.lt_of_lt_of_le HH2.out.lt hg2
  have HR3 := Lib.hid hr3
  have HBE3 := Lib.hid (hbe2.trans (hb3.mono hbe2.size))
  clear hb3 hr3 hbe2 hb1 hg2 HH2
  have HST := Lib.hid (state_any g k n S T w3 HH3.out)
  rw [HSB.out] at HST
  go_wp2_with fail
  refine HST.out.mono ?_
  rintro e w4 ⟨v4, rfl, ho4, hb4⟩
  obtain ⟨A4, c4, rfl, hin4, _⟩ := own_in ho4 HLB.out (by rw [HLM.out]; exact hm47)
  rw [HLM.out] at hin4
  rw [HLM.out]
  have HBE4 := Lib.hid (HBE3.out.trans (hb4.mono HBE3.out.size))
  have HH4 := Lib.hid (HH3.out.belowB hb4 HH3.out.lt)
  have HR4 := Lib.hid (HR3.out.below hb4)
  have HSA := Lib.hid (same_eq A4 (some ⟨b, off, none⟩) m c4 c L w4 hin4.1 (HB.out.below HBE4.out).1)
  clear ho4 hb4 hin4 HH3 HR3 HBE3 HST
  go_wp2_with fail
  refine HSA.out.mono ?_
  rintro e w5 ⟨rfl, hb5⟩
  have HBE5 := Lib.hid (HBE4.out.trans (hb5.mono HBE4.out.size))
  have HH5 := Lib.hid (HH4.out.belowB hb5 HH4.out.lt)
  have HR5 := Lib.hid (HR4.out.below hb5)
  clear hb5 HH4 HR4 HBE4 HSA
  by_cases hfit : n + m2 ≤ 2305843009213693951
  · have HW := Lib.hid (write_any g k n S T l a2 m2 c2 w5 HH5.out (HB2.out.below HBE5.out) (fun b' hb' hn' e => by have := bin_block HB2.out b' hb' hn'; omega) (HTAB.out.below HBE5.out) hfit)
    go_wp2_with fail
    refine HW.out.mono ?_
    rintro e w6' ⟨rfl, hh6, hg6⟩
    have hbe6 := HBE5.out.grown hg6 HBE5.out.size (fun j hj => by injection hj with hj; omega)
    have HX6 := Lib.hid hh6
    have HY6 := Lib.hid (HR5.out.grownB hg6 hgg)
    have HZ6 := Lib.hid hbe6
    clear hh6 hg6 hbe6 HW HH5 HR5
    have HV := Lib.hid (refWrite_fits g2 (g2 + 1) k n0 S T a2 m2 c2 l w6' HY6.out (HB2.out.below HZ6.out) (by omega) (by omega) (by omega))
    go_wp2_with fail
    refine HV.out.mono ?_
    rintro e w6 ⟨rfl, hr6, hb6⟩
    have HR6 := Lib.hid hr6
    have HBE6 := Lib.hid (HZ6.out.trans (hb6.mono (by omega)))
    have HH6 := Lib.hid (HX6.out.belowB hb6 hgg)
    have hlt : (T ++ l).length + 300 ≤ 140737488355328 := by rw [List.length_append, HL2.out]; omega
    have hnn : n0 + (T ++ l).length = n + m2 := by rw [List.length_append, HL2.out]; omega
    have HDP := Lib.hid (digN_goes k (n + m2) S (T ++ l) hw0)
    have HDL0 := Lib.hid (digN_lt k (n + m2) S (T ++ l))
    have HDN1 := Lib.hid (HDN0.out (n + m2) (T ++ l))
    have HDD := Lib.hid (show digN k (n + m2) S (T ++ l) = digN k (n + m2) S (T ++ l) from rfl)
    clear hr6 hb6 HV HX6 HY6 HZ6
    generalize (goes (wW k) S (T ++ l)).1 = S1 at *
    generalize (goes (wW k) S (T ++ l)).2 = T1 at *
    generalize T ++ l = L1 at *
    generalize n + m2 = NN at *
    have HNN := Lib.hid hnn
    generalize hDq : digN k NN S L1 = D at HDP HDL0 HDN1 HDD
    have HDD := Lib.hid hDq
    have HDL := Lib.hid HDL0.out
    have HDN := Lib.hid HDN1.out
    clear hDq
    have HS6 := Lib.hid (sum_any g k NN S1 T1 w6 HH6.out (HTAB.out.below HBE6.out))
    rw [HDP.out] at HS6
    have HQ6 := Lib.hid (show ∀ w', Below w6.heap.size w6 w' → Calls Tryd.prog 30 #[.pointer (some ⟨g2, 0, none⟩)] w' (AppIs w'.heap.size D w') from fun w' h => by
      have := refSum_any g2 (g2 + 1) k n0 S L1 w' (HR6.out.below h) HMOD.out (by omega) (by omega)
      rw [HNN.out, HDD.out] at this
      exact this)
    go_wp2_with fail
    refine HS6.out.mono ?_
    rintro e w7 ⟨v7, rfl, ho7, hb7⟩
    obtain ⟨A7, c7, rfl, hin7, _⟩ := own_in ho7 HDL.out HDN.out
    have HIN7 := Lib.hid hin7
    have HBE7 := Lib.hid (HBE6.out.trans (hb7.mono HBE6.out.size))
    have HB7 := Lib.hid hb7
    clear ho7 hin7 hb7
    go_wp2_with fail
    refine (HQ6.out w7 HB7.out).mono ?_
    rintro e w8 ⟨v8, rfl, ho8, hb8⟩
    obtain ⟨A8, c8, rfl, hin8, _⟩ := own_in ho8 HDL.out HDN.out
    have HSM := Lib.hid (same_eq A7 A8 D.length c7 c8 D w8 (HIN7.out.below hb8).1 hin8.1)
    have HBE8 := Lib.hid (HBE7.out.trans (hb8.mono HBE7.out.size))
    have HB8 := Lib.hid (HB7.out.trans (hb8.mono HB7.out.size))
    clear ho8 hin8 hb8
    go_wp2_with fail
    refine HSM.out.mono ?_
    rintro e w9 ⟨rfl, hb9⟩
    have HBE9 := Lib.hid (HBE8.out.trans (hb9.mono HBE8.out.size))
    have HB9 := Lib.hid (HB8.out.trans (hb9.mono HB8.out.size))
    have HL9 := Lib.hid (len_any g k NN S1 T1 w9 (HH6.out.belowB HB9.out HH6.out.lt))
    have HK9 := Lib.hid (refLen_any g2 (g2 + 1) k n0 S L1 w9 (HR6.out.below HB9.out) (by omega) (by omega))
    rw [HNN.out] at HK9
    clear hb9
    go_wp2_with fail
    refine HL9.out.mono ?_
    rintro e w' ⟨rfl, rfl⟩
    go_wp2_with fail
    refine HK9.out.mono ?_
    rintro e w' ⟨rfl, q, rfl⟩
    go_wp2_with fail
    go_ret
    exact ⟨rfl, below_drewN HBE9.out q⟩
  · have HW := Lib.hid (write_long g k n S T l a2 m2 c2 w5 HH5.out hn (by omega) (by omega))
    go_wp2_with fail
    refine HW.out.mono ?_
    rintro e w6' ⟨rfl, rfl⟩
    have HV := Lib.hid (refWrite_long g2 (g2 + 1) k n0 S T a2 m2 c2 w5 HR5.out (by omega) (by omega) (by omega) (by omega))
    clear HW
    go_wp2_with fail
    refine HV.out.mono ?_
    rintro e w6 ⟨rfl, q, hq⟩
    have hbq : Below w5.heap.size w5 w6 := by rw [hq]; exact below_drewN (Below.refl _ _) q
    clear hq
    have HR6 := Lib.hid (HR5.out.below hbq)
    have HBE6 := Lib.hid (HBE5.out.trans (hbq.mono HBE5.out.size))
    have HH6 := Lib.hid (HH5.out.belowB hbq HH5.out.lt)
    have hlt : T.length + 300 ≤ 140737488355328 := by omega
    have hnn : n0 + T.length = n := hnT
    have HDL := Lib.hid (digN_lt k n S T)
    have HDN := Lib.hid (HDN0.out n T)
    clear hbq HV HH5 HR5
    obtain ⟨NN, hNN⟩ : ∃ NN, n = NN := ⟨_, rfl⟩
    obtain ⟨S1, hS1⟩ : ∃ S1, S = S1 := ⟨_, rfl⟩
    obtain ⟨T1, hT1⟩ : ∃ T1, T = T1 := ⟨_, rfl⟩
    obtain ⟨L1, hL1⟩ : ∃ L1, T = L1 := ⟨_, rfl⟩
    have HNN := Lib.hid (show n0 + L1.length = NN by rw [← hL1, ← hNN]; exact hnn)
    obtain ⟨D, hD⟩ : ∃ D, digN k n S T = D := ⟨_, rfl⟩
    rw [hD] at HDL HDN
    have HDP := Lib.hid (show digN k NN S1 T1 = D by rw [← hNN, ← hS1, ← hT1]; exact hD)
    have HDD := Lib.hid (show digN k NN S L1 = D by rw [← hNN, ← hL1]; exact hD)
    rw [hNN, hS1, hT1] at HH6
    rw [hL1] at HR6 hlt hnn
    rw [hNN] at hnn
    have hnNN : NN ≤ 2305843009213693951 := by omega
    clear hD hS1 hT1 hL1 hNN
    have HS6 := Lib.hid (sum_any g k NN S1 T1 w6 HH6.out (HTAB.out.below HBE6.out))
    rw [HDP.out] at HS6
    have HQ6 := Lib.hid (show ∀ w', Below w6.heap.size w6 w' → Calls Tryd.prog 30 #[.pointer (some ⟨g2, 0, none⟩)] w' (AppIs w'.heap.size D w') from fun w' h => by
      have := refSum_any g2 (g2 + 1) k n0 S L1 w' (HR6.out.below h) HMOD.out (by omega) (by omega)
      rw [HNN.out, HDD.out] at this
      exact this)
    go_wp2_with fail
    refine HS6.out.mono ?_
    rintro e w7 ⟨v7, rfl, ho7, hb7⟩
    obtain ⟨A7, c7, rfl, hin7, _⟩ := own_in ho7 HDL.out HDN.out
    have HIN7 := Lib.hid hin7
    have HBE7 := Lib.hid (HBE6.out.trans (hb7.mono HBE6.out.size))
    have HB7 := Lib.hid hb7
    clear ho7 hin7 hb7
    go_wp2_with fail
    refine (HQ6.out w7 HB7.out).mono ?_
    rintro e w8 ⟨v8, rfl, ho8, hb8⟩
    obtain ⟨A8, c8, rfl, hin8, _⟩ := own_in ho8 HDL.out HDN.out
    have HSM := Lib.hid (same_eq A7 A8 D.length c7 c8 D w8 (HIN7.out.below hb8).1 hin8.1)
    have HBE8 := Lib.hid (HBE7.out.trans (hb8.mono HBE7.out.size))
    have HB8 := Lib.hid (HB7.out.trans (hb8.mono HB7.out.size))
    clear ho8 hin8 hb8
    go_wp2_with fail
    refine HSM.out.mono ?_
    rintro e w9 ⟨rfl, hb9⟩
    have HBE9 := Lib.hid (HBE8.out.trans (hb9.mono HBE8.out.size))
    have HB9 := Lib.hid (HB8.out.trans (hb9.mono HB8.out.size))
    have HL9 := Lib.hid (len_any g k NN S1 T1 w9 (HH6.out.belowB HB9.out HH6.out.lt))
    have HK9 := Lib.hid (refLen_any g2 (g2 + 1) k n0 S L1 w9 (HR6.out.below HB9.out) (by omega) (by omega))
    rw [HNN.out] at HK9
    clear hb9
    go_wp2_with fail
    refine HL9.out.mono ?_
    rintro e w' ⟨rfl, rfl⟩
    go_wp2_with fail
    refine HK9.out.mono ?_
    rintro e w' ⟨rfl, q, rfl⟩
    go_wp2_with fail
    go_ret
    exact ⟨rfl, below_drewN HBE9.out q⟩
theorem opens_walk (a : Option Addr) (m c : Nat) (L : List Nat) (a2 : Option Addr) (m2 c2 : Nat) (l : List Nat) (w : World) (hb : BIn w a m c L) (hb2 : BIn w a2 m2 c2 l) (htab : Tabs w) (h2 : 2 ≤ w.heap.size) (h47 : m2 ≤ 140737488351232) :
    Calls Tryd.prog 5 #[.slice a m c, .slice a2 m2 c2] w (SoIs w) := by
  by_cases h9 : m < 9
  · exact opens_no a m c L a2 m2 c2 w hb htab (.inl h9)
  · by_cases hs : ∃ k n, IsSt L k n
    · obtain ⟨k, n, hs⟩ := hs
      obtain ⟨b, off, rfl, _⟩ := hb.1.2.2.2.resolve_left (by omega)
      exact opens_yes b off m c L a2 m2 c2 l k n w hb hb2 htab h2 hs h47
    · exact opens_no a m c L a2 m2 c2 w hb htab (.inr (fun k n h => hs ⟨k, n, h⟩))
end Go.Proofs.YtnikhnpigopihaaDoor
