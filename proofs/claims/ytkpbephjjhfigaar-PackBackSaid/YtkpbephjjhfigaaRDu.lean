/- The document's Up answers as told by plain lists. Condition: the coefficients are 32-bit numbers. -/
import Derived.Test.YtkpbephjjhfigaaRLy
import Derived.Test.YtkpbephjjhfigaaRDr
import Derived.Test.YtkpbephjjhfigaaRUp
namespace Go.Proofs.YtkpbephjjhfigaaR
open Go.RowKit
set_option linter.unusedVariables false
set_option linter.unusedSimpArgs false
theorem natJ_eq {s : Nat} {l : List Int} (h : inB s l = true) : flI (fun i => l.getD i 0) 256 = natJ (natL l) := by
  rw [flI_all]
  exact tellI_congr fun i hi => (inB_nat h i hi).2
theorem pow_lit {s : Nat} (hs : s ≤ 23) : (2 : Int) ^ s % 4294967296 = 2 ^ s := by have := pw_bd hs; omega
set_option maxRecDepth 100000 in
set_option maxHeartbeats 1600000 in
theorem dUp_in (l : List Int) (hl : IsP l) (s : Nat) (hs1 : 1 ≤ s) (hs2 : s ≤ 23) (w : World) : Calls Try.prog 8 #[.agg (iv l).toArray, .int .i64 (s : Nat)] w (PkIs (if pln l = true ∧ inB s l = true then 0 else 92) (if pln l = true ∧ inB s l = true then layN s (natL l) else []) w) := by
  have HP := Lib.hid (fun w => dPlain_any l hl.1 w)
  have LL := Lib.hid hl.1
  have B1 := Lib.hid (Blk.new w 23 (iv l))
  have BEL := Lib.hid ((Below.refl w.heap.size w).alloc (Nat.le_refl _) (.cells (iv l).toArray 23))
  have HFZ := Lib.hid (flI_zero (fun i => l.getD i 0))
  have HFS := Lib.hid (fun t => flI_succ (fun i => l.getD i 0) t)
  have HFL := Lib.hid (fun t => flI_len (fun i => l.getD i 0) t)
  have HBD := Lib.hid hl.2
  have HGT := Lib.hid (fun t (ht : t < 256) => show (flI (fun i => l.getD i 0) (t + 1)).getD t 0 = l.getD t 0 by unfold flI; rw [tellI_get _ _ _ ht, if_pos (by omega)])
  have HPT := Lib.hid (fun h => (pln_iff hl.1).1 h)
  have HNO := Lib.hid (fun t ht h => @inB_no s l t ht h)
  have HYE := Lib.hid (fun h => (@inB_iff s l).2 h)
  have HNJ := Lib.hid (fun h => @natJ_eq s l h)
  have HLAY := Lib.hid (fun h w => Lay_any (natL l) s hs1 hs2 h w)
  have HNL := Lib.hid (fun h t ht => (@inB_nat s l h t ht).1)
  have hs4 := pow_lit hs2
  have hs5 := pw_bd hs2
  have z42 := zero42
  obtain ⟨er, her⟩ : ∃ er : Nat, (if pln l = true ∧ inB s l = true then 0 else 92) = er := ⟨_, rfl⟩
  obtain ⟨eL, heL⟩ : ∃ eL : List Nat, (if pln l = true ∧ inB s l = true then layN s (natL l) else []) = eL := ⟨_, rfl⟩
  rw [her, heL]
  generalize layN s (natL l) = L at *
  generalize natJ (natL l) = J at *
  generalize natL l = X at *
  generalize flI (fun i => l.getD i 0) = K at *
  generalize pln l = pl at *
  generalize inB s l = ib at *
  have HER := Lib.hid her
  have HEL := Lib.hid heL
  clear her heL hl
  go_enter Try.func8, Try.ntmps8
  go_wp2_with (first | (refine wpList_load_row rfl 23 (.tmp 2) rfl w.heap.size rfl 23 (iv l).toArray (0, 0) _ B1.out Try.underlying23 rfl (j23 LL.out) ?_))
  refine (HP.out _).mono ?_
  rintro e w1 ⟨rfl, hb1⟩
  have hbel := BEL.out.trans (hb1.mono BEL.out.size)
  have D1 := Lib.hid ((B1.out.below' hb1).alloc (.cells (jv zerI).toArray 42))
  have D2 := Lib.hid (Blk.new w1 42 (jv zerI))
  have hbel2 := hbel.alloc hbel.size (.cells (jv zerI).toArray 42)
  have hsz := D1.out.lt
  have hz1 : w.heap.size < w1.heap.size := (B1.out.below' hb1).lt
  clear hb1 hbel BEL B1 HP hsz
  go_wp2_with fail
  clear z42
  generalize w1.heap.size = G at *
  go_loopw [8] (fun v8 wr => ∃ t : Nat, t ≤ 256 ∧ v8 = .int .i64 t ∧ Blk wr w.heap.size 23 (iv l) ∧ Blk wr G 42 (jv (K t)) ∧ Below w.heap.size w wr ∧ (∀ i, i < t → pl = true ∧ 0 ≤ l.getD i 0 ∧ l.getD i 0 < 2 ^ s)) (fun v8 _ => 256 - (intOf v8).toNat)
  case atStart => exact ⟨0, by omega, rfl, D1.out, by rw [HFZ.out]; exact D2.out, hbel2, fun i hi => absurd hi (Nat.not_lt_zero i)⟩
  case round =>
    clear D1 D2 hbel2 HFZ
    obtain ⟨t, ht, rfl, k1, k2, hbel, hall⟩ := hrel
    have K1 := Lib.hid k1
    have K2 := Lib.hid k2
    have HA := Lib.hid hall
    clear k1 k2 hall
    by_cases h5 : t < 256
    · have i1 : (t : Int) < 256 := by omega
      have hx := K1.out.iv t (by rw [LL.out]; exact h5)
      have hc0 := K2.out.jv t (by rw [HFL.out]; exact h5)
      have hf0 := K2.out.free t
      have HV := Lib.hid (HFS.out t)
      obtain ⟨hb1, hb2⟩ := HBD.out t h5
      have HPT2 := Lib.hid (fun h => HPT.out h t h5)
      have HNO2 := Lib.hid (HNO.out t h5)
      have k1 := Lib.hid (K1.out.other ⟨G, t, none⟩ (.int .i64 (l.getD t 0)) (by simp; omega))
      have k2 := K2.out.jvSet t (l.getD t 0)
      rw [HV.out] at k2
      have K22 := Lib.hid k2
      have hc1 := k2.jv t (by rw [HFL.out]; exact h5)
      rw [HGT.out t h5] at hc1
      have hbel2 := hbel.setCell (p := ⟨G, t, none⟩) (by simp; omega) (.int .i64 (l.getD t 0))
      have HSU := Lib.hid (fun (hx : pl = true ∧ 0 ≤ l.getD t 0 ∧ l.getD t 0 < 2 ^ s) => show ∀ i, i < t + 1 → pl = true ∧ 0 ≤ l.getD i 0 ∧ l.getD i 0 < 2 ^ s from fun i hi => by
        by_cases e : i = t
        · subst e; exact hx
        · exact HA.out i (by omega))
      clear k2 HV
      generalize l.getD t 0 = x at *
      cases pl with
      | false =>
        obtain rfl : er = 92 := by rw [← HER.out]; simp
        obtain rfl : eL = [] := by rw [← HEL.out]; simp
        go_wp2_with fail
        go_ret2
        exact ⟨_, rfl, own_nil _ _, hbel2⟩
      | true =>
        have hx0 := HPT2.out rfl
        by_cases hlt : x < 2 ^ s
        · have hd : decide ((2 : Int) ^ s ≤ x) = false := decide_eq_false (by omega)
          have HLT := Lib.hid hlt
          clear hlt
          go_wp2_with fail
          go_roundw
          case rel => exact ⟨t + 1, by omega, by go_num, k1.out, K22.out, hbel2, fun i hi => ⟨by first | trivial | rfl, (HSU.out ⟨rfl, hx0.1, HLT.out⟩ i hi).2⟩⟩
          case measure => simp [intOf]; omega
        · have hd : decide ((2 : Int) ^ s ≤ x) = true := decide_eq_true (by omega)
          obtain rfl : ib = false := HNO2.out (fun h => hlt h.2)
          obtain rfl : er = 92 := by rw [← HER.out]; simp
          obtain rfl : eL = [] := by rw [← HEL.out]; simp
          clear hlt
          go_wp2_with fail
          go_ret2
          exact ⟨_, rfl, own_nil _ _, hbel2⟩
    · obtain rfl : t = 256 := by omega
      obtain rfl : pl = true := (HA.out 0 (by decide)).1
      obtain rfl : ib = true := HYE.out (fun i hi => (HA.out i hi).2)
      obtain rfl : er = 0 := by rw [← HER.out]; simp
      obtain rfl : eL = L := by rw [← HEL.out]; simp
      have hJ := HNJ.out rfl
      have LJ := Lib.hid (show J.length = 256 by rw [← hJ]; exact HFL.out 256)
      rw [hJ] at K2
      have HLL := Lib.hid (HLAY.out (HNL.out rfl))
      clear HLAY HA hJ HNL HNJ
      go_wp2_with (first | (refine wpList_load_row rfl 42 (.tmp 7) rfl G rfl 42 (jv J).toArray (0, 0) _ K2.out Try.underlying42 rfl (j42 LJ.out) ?_))
      refine (HLL.out _).mono ?_
      intro e w3 hm
      obtain ⟨v, rfl, ho, hbel3⟩ := made_pk hbel hm
      have HO := Lib.hid ho
      clear ho hm
      obtain ⟨A, c, rfl⟩ := own_slice HO.out
      go_wp2_with fail
      go_ret2
      exact ⟨_, rfl, HO.out, hbel3⟩
set_option maxRecDepth 100000 in
set_option maxHeartbeats 1600000 in
theorem dUp_arg (l : List Int) (bits : Int) (h : ¬ (1 ≤ bits ∧ bits ≤ 23)) (w : World) : Calls Try.prog 8 #[.agg (iv l).toArray, .int .i64 bits] w (PkIs 1 [] w) := by
  have BEL := Lib.hid ((Below.refl w.heap.size w).alloc (Nat.le_refl _) (.cells (iv l).toArray 23))
  by_cases h1 : bits < 1
  · clear h
    go_enter Try.func8, Try.ntmps8
    go_wp2_with fail
    go_ret2
    exact ⟨_, rfl, own_nil _ _, BEL.out⟩
  · have h2 : 23 < bits := by omega
    clear h
    go_enter Try.func8, Try.ntmps8
    go_wp2_with fail
    go_ret2
    exact ⟨_, rfl, own_nil _ _, BEL.out⟩
theorem dUp_any (l : List Int) (hl : IsP l) (bits : Int) (w : World) : Calls Try.prog 8 #[.agg (iv l).toArray, .int .i64 bits] w (PkIs (upE l bits) (upL l bits) w) := by
  by_cases h : 1 ≤ bits ∧ bits ≤ 23
  · obtain ⟨s, rfl⟩ : ∃ s : Nat, bits = s := ⟨bits.toNat, by omega⟩
    have := dUp_in l hl s (by omega) (by omega) w
    unfold upE upL
    rw [if_pos h]
    simp only [h, true_and, Int.toNat_natCast]
    exact this
  · obtain ⟨e1, e2⟩ := up_arg (l := l) h
    rw [e1, e2]
    exact dUp_arg l bits h w
end Go.Proofs.YtkpbephjjhfigaaR
