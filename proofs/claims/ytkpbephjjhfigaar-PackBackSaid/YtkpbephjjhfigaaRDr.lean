/- The document reduces any polynomial, and knows a plain one. Condition: the coefficients are 32-bit numbers. -/
import Derived.Test.YtkpbephjjhfigaaRRd
namespace Go.Proofs.YtkpbephjjhfigaaR
open Go.RowKit
set_option linter.unusedVariables false
set_option linter.unusedSimpArgs false
set_option maxHeartbeats 400000 in
theorem Mod_any (x : Int) (w : World) (h1 : -4611686018427387904 ≤ x) (h2 : x ≤ 4611686018427387904) :
    Calls Try.prog 22 #[.int .i64 x] w fun e w' => e = .returned (.int .i32 (x % 8380417)) ∧ w = w' := by
  have hb := tmod_bd x
  have he := Lib.hid (tmod_emod x)
  by_cases hn : x.tmod 8380417 < 0
  · go_enter Try.func22, Try.ntmps22
    go_wp2_with fail
    go_ret
    exact ⟨ret1 (by have := he.out; omega), rfl⟩
  · go_enter Try.func22, Try.ntmps22
    go_wp2_with fail
    go_ret
    exact ⟨ret1 (by have := he.out; omega), rfl⟩
set_option maxRecDepth 100000 in
set_option maxHeartbeats 4000000 in
theorem dReduce_any (l : List Int) (hl : IsP l) (w : World) : Calls Try.prog 11 #[.agg (iv l).toArray] w fun e w' => e = .returned (.agg (iv (rdL l)).toArray) ∧ Below w.heap.size w w' := by
  obtain ⟨hlen, hbd⟩ := hl
  have LL := Lib.hid hlen
  have HBD := Lib.hid hbd
  have B1 := Lib.hid (((Blk.new w 23 (iv l)).alloc (.cells (iv zerI).toArray 23)).alloc (.cells (iv zerI).toArray 23))
  have B2 := Lib.hid ((Blk.new2 w (.cells (iv l).toArray 23) 23 (iv zerI)).alloc (.cells (iv zerI).toArray 23))
  have B3 := Lib.hid (Blk.new3 w (.cells (iv l).toArray 23) (.cells (iv zerI).toArray 23) 23 (iv zerI))
  have BEL := Lib.hid ((((Below.refl w.heap.size w).alloc (Nat.le_refl _) (.cells (iv l).toArray 23)).alloc (by simp) (.cells (iv zerI).toArray 23)).alloc (by simp; omega) (.cells (iv zerI).toArray 23))
  clear hlen hbd
  have z23 := zero23
  go_enter Try.func11, Try.ntmps11
  go_wp2_with fail
  clear z23
  go_loopw [4] (fun c wr => ∃ t : Nat, t ≤ 256 ∧ c = .int .i64 t ∧ Blk wr w.heap.size 23 (iv l) ∧ Blk wr (w.heap.size + 1) 23 (iv zerI) ∧ Blk wr (w.heap.size + 1 + 1) 23 (iv (flI (rI l) t)) ∧ Below w.heap.size w wr) (fun c _ => 256 - (intOf c).toNat)
  case atStart => exact ⟨0, by omega, rfl, B1.out, B2.out, by rw [flI_zero]; exact B3.out, BEL.out⟩
  case round =>
    clear B1 B2 B3 BEL
    obtain ⟨t, ht, rfl, k1, k2, k3, hbel⟩ := hrel
    have K1 := Lib.hid k1
    have K2 := Lib.hid k2
    have K3 := Lib.hid k3
    clear k1 k2 k3
    by_cases h5 : t < 256
    · have hx := K1.out.iv t (by rw [LL.out]; exact h5)
      obtain ⟨hb1, hb2⟩ := HBD.out t h5
      have HM := Lib.hid (fun w => Mod_any (l.getD t 0) w (by omega) (by omega))
      have HR := Lib.hid (rI_val l t)
      have hc := K3.out.iv t (by rw [flI_len]; exact h5)
      have hf := K3.out.free t
      have HV := Lib.hid (flI_succ (rI l) t)
      have i1 : (t : Int) < 256 := by omega
      rw [← HR.out] at HM
      generalize l.getD t 0 = x at *
      generalize rI l t = y at *
      clear HR
      go_wp2_with (first | (go_at_call 22; refine (HM.out _).mono ?_; rintro e w' ⟨rfl, rfl⟩))
      have k3 := K3.out.ivSet t y
      rw [HV.out] at k3
      have k1 := K1.out.other ⟨w.heap.size + 1 + 1, t, none⟩ (.int .i32 y) (by simp; omega)
      have k2 := K2.out.other ⟨w.heap.size + 1 + 1, t, none⟩ (.int .i32 y) (by simp)
      have hb2 := hbel.setCell (p := ⟨w.heap.size + 1 + 1, t, none⟩) (by simp; omega) (.int .i32 y)
      go_roundw
      case rel => exact ⟨t + 1, by omega, by go_num, k1, k2, k3, hb2⟩
      case measure => simp [intOf]; omega
    · obtain rfl : t = 256 := by omega
      rw [flI_rd] at K3
      have HL := Lib.hid (rdL_len l)
      obtain ⟨m, hm⟩ : ∃ m, rdL l = m := ⟨_, rfl⟩
      rw [hm] at K3 HL
      have HMQ := Lib.hid hm
      clear hm
      go_wp2_with (first | (refine wpList_load_row rfl 23 (.tmp 3) rfl (w.heap.size + 1 + 1) rfl 23 (iv m).toArray (0, 0) _ K3.out Try.underlying23 rfl (j23 HL.out) ?_) | (refine wpList_store_row rfl 23 (.tmp 2) (.tmp 16) rfl (w.heap.size + 1) (iv m).toArray rfl rfl 23 (iv zerI).toArray K2.out (j23 HL.out) (by rw [iv_size, iv_size, HL.out, zerI_length]) (iv_all _) ?_))
      have j2 := K2.out.setRow (iv m)
      have hb2 := below_setRow' hbel (show w.heap.size ≤ w.heap.size + 1 by omega) (iv m).toArray
      refine bodyPost_ret (v := .agg (iv m).toArray) ?_ rfl ⟨by rw [HMQ.out], hb2⟩
      exact results_cell_row Try.results11 _ _ (w.heap.size + 1) 23 _ (0, 0) _ rfl j2 Try.underlying23 rfl (j23 HL.out)
set_option maxRecDepth 100000 in
set_option maxHeartbeats 4000000 in
theorem dPlain_any (l : List Int) (hlen : l.length = 256) (w : World) : Calls Try.prog 19 #[.agg (iv l).toArray] w fun e w' => e = .returned (.bool (pln l)) ∧ Below w.heap.size w w' := by
  have LL := Lib.hid hlen
  have HP := Lib.hid (pln_iff hlen)
  have HN := Lib.hid (pln_no hlen)
  have B1 := Lib.hid (Blk.new w 23 (iv l))
  have BEL := Lib.hid ((Below.refl w.heap.size w).alloc (Nat.le_refl _) (.cells (iv l).toArray 23))
  clear hlen
  generalize pln l = b at *
  go_enter Try.func19, Try.ntmps19
  go_wp2_with fail
  go_loop [3] (fun c => ∃ t : Nat, t ≤ 256 ∧ c = .int .i64 t ∧ ∀ i, i < t → 0 ≤ l.getD i 0 ∧ l.getD i 0 < 8380417) (fun c => 256 - (intOf c).toNat)
  case atStart => exact ⟨0, by omega, rfl, fun i hi => absurd hi (Nat.not_lt_zero i)⟩
  case round =>
    obtain ⟨t, ht, rfl, hall⟩ := hrel
    have HA := Lib.hid hall
    clear hall
    by_cases h5 : t < 256
    · have hx := B1.out.iv t (by rw [LL.out]; exact h5)
      have i1 : (t : Int) < 256 := by omega
      have HNT := Lib.hid (HN.out t h5)
      have HSU := Lib.hid (fun (hx : 0 ≤ l.getD t 0 ∧ l.getD t 0 < 8380417) => show ∀ i, i < t + 1 → 0 ≤ l.getD i 0 ∧ l.getD i 0 < 8380417 from fun i hi => by
        by_cases e : i = t
        · subst e; exact hx
        · exact HA.out i (by omega))
      generalize hgx : l.getD t 0 = x at *
      clear hgx
      by_cases c1 : x < 0
      · go_wp2_with fail
        go_ret
        exact ⟨by rw [HNT.out (by omega)]; rfl, BEL.out⟩
      · by_cases c2 : 8380417 ≤ x
        · go_wp2_with fail
          go_ret
          exact ⟨by rw [HNT.out (by omega)]; rfl, BEL.out⟩
        · go_wp2_with fail
          go_round
          case rel => exact ⟨t + 1, by omega, by go_num, HSU.out (by omega)⟩
          case measure => simp [intOf]; omega
    · obtain rfl : t = 256 := by omega
      go_wp2_with fail
      go_ret
      exact ⟨by rw [HP.out.2 HA.out]; rfl, BEL.out⟩
end Go.Proofs.YtkpbephjjhfigaaR
