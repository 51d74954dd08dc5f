/- The document's Down answers as told by plain lists. Condition: the coefficients are 32-bit numbers. -/
import Derived.Test.YtkpbephjjhfigaaRDu
import Derived.Test.YtkpbephjjhfigaaRDn
namespace Go.Proofs.YtkpbephjjhfigaaR
open Go.RowKit
set_option linter.unusedVariables false
set_option linter.unusedSimpArgs false
theorem dCentred_any (c : Int) (h1 : 0 ≤ c) (h2 : c < 8380417) (w : World) : Calls Try.prog 21 #[.int .i32 c] w fun e w' => e = .returned (.int .i32 (cen c)) ∧ w = w' := by
  by_cases h : 4190208 < c
  · have e : cen c = c - 8380417 := if_pos h
    rw [e]; clear e
    go_enter Try.func21, Try.ntmps21
    go_wp2_with fail
    go_ret
    exact ⟨rfl, rfl⟩
  · have e : cen c = c := if_neg h
    rw [e]; clear e
    go_enter Try.func21, Try.ntmps21
    go_wp2_with fail
    go_ret
    exact ⟨rfl, rfl⟩
theorem natJ_dn {s : Nat} {top : Int} {l : List Int} (h : inB s (dnP top l) = true) : flI (dnI top l) 256 = natJ (natL (dnP top l)) := by
  rw [flI_all]
  exact tellI_congr fun i hi => by rw [← dnP_get top l i hi]; exact (inB_nat h i hi).2
set_option maxRecDepth 100000 in
set_option maxHeartbeats 1600000 in
theorem dDown_in (l : List Int) (hl : IsP l) (top : Int) (s : Nat) (hg : cgd top (s : Nat) = true) (w : World) : Calls Try.prog 9 #[.agg (iv l).toArray, .int .i32 top, .int .i64 (s : Nat)] w (PkIs (if pln l = true ∧ inB s (dnP top l) = true then 0 else 92) (if pln l = true ∧ inB s (dnP top l) = true then layN s (natL (dnP top l)) else []) w) := by
  obtain ⟨g1, g2, g3, g4⟩ := cgd_iff.1 hg
  have HP := Lib.hid (fun w => dPlain_any l hl.1 w)
  have LL := Lib.hid hl.1
  have B1 := Lib.hid (Blk.new w 23 (iv l))
  have BEL := Lib.hid ((Below.refl w.heap.size w).alloc (Nat.le_refl _) (.cells (iv l).toArray 23))
  cases hp : pln l with
  | false =>
    rw [hp] at HP
    rw [if_neg (by simp), if_neg (by simp)]
    clear hp hl hg
    go_enter Try.func9, Try.ntmps9
    go_wp2_with (first | (refine wpList_load_row rfl 23 (.tmp 3) rfl w.heap.size rfl 23 (iv l).toArray (0, 0) _ B1.out Try.underlying23 rfl (j23 LL.out) ?_))
    refine (HP.out _).mono ?_
    rintro e w1 ⟨rfl, hb1⟩
    have hbel := BEL.out.trans (hb1.mono BEL.out.size)
    go_wp2_with fail
    go_ret2
    exact ⟨_, rfl, own_nil _ _, hbel⟩
  | true =>
  rw [hp] at HP
  have HFZ := Lib.hid (flI_zero (dnI top l))
  have HFS := Lib.hid (fun t => flI_succ (dnI top l) t)
  have HFL := Lib.hid (fun t => flI_len (dnI top l) t)
  have HGT := Lib.hid (fun t (ht : t < 256) => show (flI (dnI top l) (t + 1)).getD t 0 = dnI top l t by unfold flI; rw [tellI_get _ _ _ ht, if_pos (by omega)])
  have HCB := Lib.hid (fun t ht => (pln_iff hl.1).1 hp t ht)
  have HDB := Lib.hid (fun t ht => dnI_bd (top := top) hl.1 hp g3 g4 t ht)
  have HDE := Lib.hid (fun t => dnI_eq top l t)
  have HNO := Lib.hid (fun t ht h => @inB_no s (dnP top l) t ht (by rw [dnP_get top l t ht]; exact h))
  have HYE := Lib.hid (fun (h : ∀ i, i < 256 → 0 ≤ dnI top l i ∧ dnI top l i < 2 ^ s) => (@inB_iff s (dnP top l)).2 (fun i hi => by rw [dnP_get top l i hi]; exact h i hi))
  have HNJ := Lib.hid (fun h => @natJ_dn s top l h)
  have HLAY := Lib.hid (fun h w => Lay_any (natL (dnP top l)) s (by omega) (by omega) h w)
  have HNL := Lib.hid (fun h t ht => (@inB_nat s (dnP top l) h t ht).1)
  have hs4 := pow_lit (s := s) (by omega)
  have hs5 := pw_bd (s := s) (by omega)
  have z42 := zero42
  obtain ⟨er, her⟩ : ∃ er : Nat, (if true = true ∧ inB s (dnP top l) = true then 0 else 92) = er := ⟨_, rfl⟩
  obtain ⟨eL, heL⟩ : ∃ eL : List Nat, (if true = true ∧ inB s (dnP top l) = true then layN s (natL (dnP top l)) else []) = eL := ⟨_, rfl⟩
  rw [her, heL]
  generalize layN s (natL (dnP top l)) = L at *
  generalize natJ (natL (dnP top l)) = J at *
  generalize natL (dnP top l) = X at *
  generalize flI (dnI top l) = K at *
  generalize inB s (dnP top l) = ib at *
  generalize hdi : dnI top l = D at *
  have HER := Lib.hid her
  have HEL := Lib.hid heL
  clear her heL hl hp hdi hg
  go_enter Try.func9, Try.ntmps9
  go_wp2_with (first | (refine wpList_load_row rfl 23 (.tmp 3) rfl w.heap.size rfl 23 (iv l).toArray (0, 0) _ B1.out Try.underlying23 rfl (j23 LL.out) ?_))
  refine (HP.out _).mono ?_
  rintro e w1 ⟨rfl, hb1⟩
  have hbel := BEL.out.trans (hb1.mono BEL.out.size)
  have D1 := Lib.hid ((B1.out.below' hb1).alloc (.cells (jv zerI).toArray 42))
  have D2 := Lib.hid (Blk.new w1 42 (jv zerI))
  have hbel2 := hbel.alloc hbel.size (.cells (jv zerI).toArray 42)
  have hz1 : w.heap.size < w1.heap.size := (B1.out.below' hb1).lt
  clear hb1 hbel BEL B1 HP
  go_wp2_with fail
  clear z42
  generalize w1.heap.size = G at *
  go_loopw [10] (fun v8 wr => ∃ t : Nat, t ≤ 256 ∧ v8 = .int .i64 t ∧ Blk wr w.heap.size 23 (iv l) ∧ Blk wr G 42 (jv (K t)) ∧ Below w.heap.size w wr ∧ (∀ i, i < t → 0 ≤ D i ∧ D i < 2 ^ s)) (fun v8 _ => 256 - (intOf v8).toNat)
  case atStart => exact ⟨0, by omega, rfl, D1.out, by rw [HFZ.out]; exact D2.out, hbel2, fun i hi => absurd hi (Nat.not_lt_zero i)⟩
  case round =>
    clear D1 D2 hbel2 HFZ
    obtain ⟨t, ht, rfl, k1, k2, hbel, hall⟩ := hrel
    have K1 := Lib.hid k1
    have K2 := Lib.hid k2
    have HA := Lib.hid hall
    clear k1 k2 hall
    by_cases h5 : t < 256
    · have i1 : (t : Int) < 256 := by omega
      have hx := K1.out.iv t (by rw [LL.out]; exact h5)
      have hc0 := K2.out.jv t (by rw [HFL.out]; exact h5)
      have hf0 := K2.out.free t
      have HV := Lib.hid (HFS.out t)
      obtain ⟨hb1, hb2⟩ := HCB.out t h5
      obtain ⟨hd1, hd2⟩ := HDB.out t h5
      have HC := Lib.hid (fun w => dCentred_any (l.getD t 0) hb1 hb2 w)
      have hcb := cen_bd ⟨hb1, hb2⟩
      have HE := Lib.hid (HDE.out t)
      have HNO2 := Lib.hid (HNO.out t h5)
      have k1 := Lib.hid (K1.out.other ⟨G, t, none⟩ (.int .i64 (D t)) (by simp; omega))
      have k2 := K2.out.jvSet t (D t)
      rw [HV.out] at k2
      have K22 := Lib.hid k2
      have hc1 := k2.jv t (by rw [HFL.out]; exact h5)
      rw [HGT.out t h5] at hc1
      have hbel2 := hbel.setCell (p := ⟨G, t, none⟩) (by simp; omega) (.int .i64 (D t))
      have HSU := Lib.hid (fun (hx : 0 ≤ D t ∧ D t < 2 ^ s) => show ∀ i, i < t + 1 → 0 ≤ D i ∧ D i < 2 ^ s from fun i hi => by
        by_cases e : i = t
        · subst e; exact hx
        · exact HA.out i (by omega))
      clear k2 HV
      generalize D t = y at *
      generalize cen (l.getD t 0) = z at *
      generalize l.getD t 0 = x at *
      have he3 := HE.out.symm
      by_cases hy0 : y < 0
      · obtain rfl : ib = false := HNO2.out (fun h => by omega)
        obtain rfl : er = 92 := by rw [← HER.out]; simp
        obtain rfl : eL = [] := by rw [← HEL.out]; simp
        go_wp2_with (first | (go_at_call 21; refine (HC.out _).mono ?_; rintro e w' ⟨rfl, rfl⟩))
        go_ret2
        exact ⟨_, rfl, own_nil _ _, hbel2⟩
      · by_cases hlt : y < 2 ^ s
        · have hd : decide ((2 : Int) ^ s ≤ y) = false := decide_eq_false (by omega)
          have HLT := Lib.hid hlt
          clear hlt
          go_wp2_with (first | (go_at_call 21; refine (HC.out _).mono ?_; rintro e w' ⟨rfl, rfl⟩))
          go_roundw
          case rel => exact ⟨t + 1, by omega, by go_num, k1.out, K22.out, hbel2, HSU.out ⟨by omega, HLT.out⟩⟩
          case measure => simp [intOf]; omega
        · have hd : decide ((2 : Int) ^ s ≤ y) = true := decide_eq_true (by omega)
          obtain rfl : ib = false := HNO2.out (fun h => hlt h.2)
          obtain rfl : er = 92 := by rw [← HER.out]; simp
          obtain rfl : eL = [] := by rw [← HEL.out]; simp
          clear hlt
          go_wp2_with (first | (go_at_call 21; refine (HC.out _).mono ?_; rintro e w' ⟨rfl, rfl⟩))
          go_ret2
          exact ⟨_, rfl, own_nil _ _, hbel2⟩
    · obtain rfl : t = 256 := by omega
      obtain rfl : ib = true := HYE.out HA.out
      obtain rfl : er = 0 := by rw [← HER.out]; simp
      obtain rfl : eL = L := by rw [← HEL.out]; simp
      have hJ := HNJ.out rfl
      have LJ := Lib.hid (show J.length = 256 by rw [← hJ]; exact HFL.out 256)
      rw [hJ] at K2
      have HLL := Lib.hid (HLAY.out (HNL.out rfl))
      clear HLAY HA hJ HNL HNJ
      go_wp2_with (first | (refine wpList_load_row rfl 42 (.tmp 9) rfl G rfl 42 (jv J).toArray (0, 0) _ K2.out Try.underlying42 rfl (j42 LJ.out) ?_))
      refine (HLL.out _).mono ?_
      intro e w3 hm
      obtain ⟨v, rfl, ho, hbel3⟩ := made_pk hbel hm
      have HO := Lib.hid ho
      clear ho hm
      obtain ⟨A, c, rfl⟩ := own_slice HO.out
      go_wp2_with fail
      go_ret2
      exact ⟨_, rfl, HO.out, hbel3⟩
set_option maxHeartbeats 1600000 in
theorem dDown_arg (l : List Int) (top bits : Int) (hg : cgd top bits = false) (w : World) : Calls Try.prog 9 #[.agg (iv l).toArray, .int .i32 top, .int .i64 bits] w (PkIs 1 [] w) := by
  have BEL := Lib.hid ((Below.refl w.heap.size w).alloc (Nat.le_refl _) (.cells (iv l).toArray 23))
  have hno : ¬ (1 ≤ bits ∧ bits ≤ 22 ∧ 0 ≤ top ∧ top ≤ 4194304) := of_decide_eq_false hg
  clear hg
  by_cases h1 : bits < 1
  · clear hno
    go_enter Try.func9, Try.ntmps9
    go_wp2_with fail
    go_ret2
    exact ⟨_, rfl, own_nil _ _, BEL.out⟩
  by_cases h2 : 22 < bits
  · clear hno
    go_enter Try.func9, Try.ntmps9
    go_wp2_with fail
    go_ret2
    exact ⟨_, rfl, own_nil _ _, BEL.out⟩
  by_cases h3 : top < 0
  · clear hno
    go_enter Try.func9, Try.ntmps9
    go_wp2_with fail
    go_ret2
    exact ⟨_, rfl, own_nil _ _, BEL.out⟩
  · have h4 : 4194304 < top := by omega
    clear hno
    go_enter Try.func9, Try.ntmps9
    go_wp2_with fail
    go_ret2
    exact ⟨_, rfl, own_nil _ _, BEL.out⟩
theorem dDown_any (l : List Int) (hl : IsP l) (top bits : Int) (w : World) : Calls Try.prog 9 #[.agg (iv l).toArray, .int .i32 top, .int .i64 bits] w (PkIs (dnE l top bits) (dnL l top bits) w) := by
  cases hg : cgd top bits with
  | true =>
    obtain ⟨g1, g2, g3, g4⟩ := cgd_iff.1 hg
    obtain ⟨s, rfl⟩ : ∃ s : Nat, bits = s := ⟨bits.toNat, by omega⟩
    have := dDown_in l hl top s hg w
    unfold dnE dnL
    rw [if_pos hg]
    simp only [hg, true_and, Int.toNat_natCast]
    exact this
  | false =>
    have e1 : dnE l top bits = 1 := if_neg (by rw [hg]; simp)
    have e2 : dnL l top bits = [] := if_neg (by rw [hg]; simp)
    rw [e1, e2]
    exact dDown_arg l top bits hg w
end Go.Proofs.YtkpbephjjhfigaaR
