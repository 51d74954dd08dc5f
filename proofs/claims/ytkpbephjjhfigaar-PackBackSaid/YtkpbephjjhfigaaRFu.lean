/- FromUp and FromDown of the project answer as told by plain lists. Condition: none but bytes that are there. -/
import Derived.Test.YtkpbephjjhfigaaRDn
namespace Go.Proofs.YtkpbephjjhfigaaR
open Go.RowKit
set_option linter.unusedVariables false
set_option linter.unusedSimpArgs false
/-- what a call answers that makes a polynomial or refuses -/
def PoIs (er : Nat) (l : List Int) (w : World) (e : Ending) (w' : World) : Prop := e = .returned (.tuple #[.agg (iv l).toArray, .int .i64 (er : Nat)]) ∧ Below w.heap.size w w'
def fuE (L : List Nat) (bits : Int) : Nat := if 1 ≤ bits ∧ bits ≤ 23 then (if L.length = 32 * bits.toNat then (if pln (takP bits.toNat L) = true then 0 else 92) else 91) else 1
def fuP (L : List Nat) (bits : Int) : List Int := if (1 ≤ bits ∧ bits ≤ 23) ∧ L.length = 32 * bits.toNat ∧ pln (takP bits.toNat L) = true then takP bits.toNat L else zerI
theorem takP_IsP {s : Nat} (hs : s ≤ 23) (L : List Nat) : IsP (takP s L) := ⟨takP_len s L, fun i hi => by
  rw [takP_get s L i hi]
  have h1 := takN_lt s L i
  have h2 : 2 ^ s ≤ 2 ^ 23 := Nat.pow_le_pow_right (by decide) hs
  unfold takI; omega⟩
theorem zz {l : List Int} (h : l.length = 256) : (iv zerI).toArray.size = (iv l).toArray.size := by rw [iv_size, iv_size, h, zerI_length]
set_option maxRecDepth 100000 in
set_option maxHeartbeats 1600000 in
theorem FromUp_arg (A : Option Addr) (n cp : Nat) (bits : Int) (h : ¬ (1 ≤ bits ∧ bits ≤ 23)) (w : World) : Calls Try.prog 12 #[.slice A n cp, .int .i64 bits] w (PoIs 1 zerI w) := by
  have B1 := Lib.hid (Blk.new w 23 (iv zerI))
  have BEL := Lib.hid ((Below.refl w.heap.size w).alloc (Nat.le_refl _) (.cells (iv zerI).toArray 23))
  have z23 := zero23
  by_cases h1 : bits < 1
  · clear h
    go_enter Try.func12, Try.ntmps12
    go_wp2_with (first | (refine wpList_build_is rfl 23 _ rfl (iv zerI).toArray built0 ?_) | (refine wpList_store_row rfl 23 (.tmp 4) (.tmp 13) rfl w.heap.size (iv zerI).toArray rfl rfl 23 (iv zerI).toArray B1.out (j23 zerI_length) (zz zerI_length) (iv_all _) ?_))
    have j2 := B1.out.setRow (iv zerI)
    have hb2 := below_setRow' BEL.out (show w.heap.size ≤ w.heap.size by omega) (iv zerI).toArray
    refine bodyPost_ret (v := .tuple #[.agg (iv zerI).toArray, .int .i64 1]) ?_ rfl ⟨rfl, hb2⟩
    exact results_two Try.results12 _ _ (w.heap.size) 23 _ (0, 0) _ _ rfl rfl j2 Try.underlying23 rfl (j23 zerI_length)
  · have h2 : 23 < bits := by omega
    clear h
    go_enter Try.func12, Try.ntmps12
    go_wp2_with (first | (refine wpList_build_is rfl 23 _ rfl (iv zerI).toArray built0 ?_) | (refine wpList_store_row rfl 23 (.tmp 4) (.tmp 13) rfl w.heap.size (iv zerI).toArray rfl rfl 23 (iv zerI).toArray B1.out (j23 zerI_length) (zz zerI_length) (iv_all _) ?_))
    have j2 := B1.out.setRow (iv zerI)
    have hb2 := below_setRow' BEL.out (show w.heap.size ≤ w.heap.size by omega) (iv zerI).toArray
    refine bodyPost_ret (v := .tuple #[.agg (iv zerI).toArray, .int .i64 1]) ?_ rfl ⟨rfl, hb2⟩
    exact results_two Try.results12 _ _ (w.heap.size) 23 _ (0, 0) _ _ rfl rfl j2 Try.underlying23 rfl (j23 zerI_length)
set_option maxRecDepth 100000 in
set_option maxHeartbeats 1600000 in
theorem FromUp_len (A : Option Addr) (n cp : Nat) (s : Nat) (hs1 : 1 ≤ s) (hs2 : s ≤ 23) (hn : n ≠ 32 * s) (w : World) : Calls Try.prog 12 #[.slice A n cp, .int .i64 (s : Nat)] w (PoIs 91 zerI w) := by
  have B1 := Lib.hid (Blk.new w 23 (iv zerI))
  have BEL := Lib.hid ((Below.refl w.heap.size w).alloc (Nat.le_refl _) (.cells (iv zerI).toArray 23))
  have z23 := zero23
  have HSZ := Lib.hid (fun w => sizeIn_any s hs2 w)
  obtain ⟨m, hm⟩ : ∃ m, 32 * s = m := ⟨_, rfl⟩
  rw [hm] at HSZ
  have hnm : ((n : Int) != (m : Int)) = true := by simp; omega
  clear hm hn
  go_enter Try.func12, Try.ntmps12
  go_wp2_with (first | (go_at_call 23; refine (HSZ.out _).mono ?_; rintro e w' ⟨rfl, rfl⟩) | (refine wpList_build_is rfl 23 _ rfl (iv zerI).toArray built0 ?_) | (refine wpList_store_row rfl 23 (.tmp 4) (.tmp 19) rfl w.heap.size (iv zerI).toArray rfl rfl 23 (iv zerI).toArray B1.out (j23 zerI_length) (zz zerI_length) (iv_all _) ?_))
  have j2 := B1.out.setRow (iv zerI)
  have hb2 := below_setRow' BEL.out (show w.heap.size ≤ w.heap.size by omega) (iv zerI).toArray
  refine bodyPost_ret (v := .tuple #[.agg (iv zerI).toArray, .int .i64 91]) ?_ rfl ⟨rfl, hb2⟩
  exact results_two Try.results12 _ _ (w.heap.size) 23 _ (0, 0) _ _ rfl rfl j2 Try.underlying23 rfl (j23 zerI_length)
set_option maxRecDepth 100000 in
set_option maxHeartbeats 1600000 in
theorem FromUp_in (A : Option Addr) (n cp : Nat) (L : List Nat) (s : Nat) (hs1 : 1 ≤ s) (hs2 : s ≤ 23) (hn : n = 32 * s) (w : World) (hb : BIn w A n cp L) : Calls Try.prog 12 #[.slice A n cp, .int .i64 (s : Nat)] w (PoIs (if pln (takP s L) = true then 0 else 92) (if pln (takP s L) = true then takP s L else zerI) w) := by
  have B1 := Lib.hid (Blk.new w 23 (iv zerI))
  have BEL := Lib.hid ((Below.refl w.heap.size w).alloc (Nat.le_refl _) (.cells (iv zerI).toArray 23))
  have z23 := zero23
  have HSZ := Lib.hid (fun w => sizeIn_any s hs2 w)
  rw [← hn] at HSZ
  have HT := Lib.hid (taken_any A n cp L s hs1 hs2 hn _ (hb.below BEL.out))
  have HP := Lib.hid (fun w => isPlain_any (takP s L) (takP_IsP hs2 L) w)
  have LM := Lib.hid (takP_len s L)
  obtain ⟨er, her⟩ : ∃ er : Nat, (if pln (takP s L) = true then 0 else 92) = er := ⟨_, rfl⟩
  obtain ⟨eP, heP⟩ : ∃ eP : List Int, (if pln (takP s L) = true then takP s L else zerI) = eP := ⟨_, rfl⟩
  rw [her, heP]
  have HER := Lib.hid her
  have HEP := Lib.hid heP
  generalize pln (takP s L) = pl at *
  generalize takP s L = m at *
  clear hb her heP hn
  go_enter Try.func12, Try.ntmps12
  go_wp2_with (first | (go_at_call 23; refine (HSZ.out _).mono ?_; rintro e w' ⟨rfl, rfl⟩) | (refine wpList_build_is rfl 23 _ rfl (iv zerI).toArray built0 ?_))
  refine HT.out.mono ?_
  rintro e w1 ⟨rfl, hb1⟩
  have bel1 := BEL.out.trans (hb1.mono BEL.out.size)
  have C1 := Lib.hid (B1.out.below' hb1)
  have hz1 : w.heap.size < w1.heap.size := C1.out.lt
  clear hb1 B1 BEL HT HSZ
  go_wp2_with (first | (refine wpList_store_row rfl 23 (.tmp 6) (.tmp 22) rfl w1.heap.size (iv m).toArray rfl rfl 23 (iv zerI).toArray (Blk.new w1 23 (iv zerI)) (j23 LM.out) (zz LM.out) (iv_all _) ?_; generalize hW : World.setRow _ _ _ = w2; obtain ⟨hgr2, hD2⟩ := newfacts hW; clear hW; have E1 := Lib.hid (C1.out.gr hgr2); have bel3 := bel1.trans (Below.mono hgr2 bel1.size); have E2 := Lib.hid hD2; clear hgr2 hD2 C1 bel1; generalize w1.heap.size = G at *) | (refine wpList_load_row rfl 23 (.tmp 6) rfl G rfl 23 (iv m).toArray (0, 0) _ E2.out Try.underlying23 rfl (j23 LM.out) ?_))
  refine (HP.out _).mono ?_
  rintro e w3 ⟨rfl, hb3⟩
  have bel4 := bel3.trans (hb3.mono bel3.size)
  have G1 := Lib.hid (E1.out.below' hb3)
  have G2 := Lib.hid (E2.out.below' hb3)
  clear hb3 bel3 E1 E2 HP
  cases pl with
  | false =>
    obtain rfl : er = 92 := HER.out.symm
    obtain rfl : eP = zerI := HEP.out.symm
    go_wp2_with (first | (refine wpList_build_is rfl 23 _ rfl (iv zerI).toArray built0 ?_) | (refine wpList_store_row rfl 23 (.tmp 4) (.tmp 26) rfl w.heap.size (iv zerI).toArray rfl rfl 23 (iv zerI).toArray G1.out (j23 zerI_length) (zz zerI_length) (iv_all _) ?_))
    have j2 := G1.out.setRow (iv zerI)
    have hb2 := below_setRow' bel4 (show w.heap.size ≤ w.heap.size by omega) (iv zerI).toArray
    refine bodyPost_ret (v := .tuple #[.agg (iv zerI).toArray, .int .i64 92]) ?_ rfl ⟨rfl, hb2⟩
    exact results_two Try.results12 _ _ (w.heap.size) 23 _ (0, 0) _ _ rfl rfl j2 Try.underlying23 rfl (j23 zerI_length)
  | true =>
    clear z23
    obtain rfl : er = 0 := HER.out.symm
    obtain rfl : eP = m := HEP.out.symm
    go_wp2_with (first | (refine wpList_load_row rfl 23 (.tmp 6) rfl G rfl 23 (iv eP).toArray (0, 0) _ G2.out Try.underlying23 rfl (j23 LM.out) ?_) | (refine wpList_store_row rfl 23 (.tmp 4) (.tmp 27) rfl w.heap.size (iv eP).toArray rfl rfl 23 (iv zerI).toArray G1.out (j23 LM.out) (zz LM.out) (iv_all _) ?_))
    have j2 := G1.out.setRow (iv eP)
    have hb2 := below_setRow' bel4 (show w.heap.size ≤ w.heap.size by omega) (iv eP).toArray
    refine bodyPost_ret (v := .tuple #[.agg (iv eP).toArray, .int .i64 0]) ?_ rfl ⟨rfl, hb2⟩
    exact results_two Try.results12 _ _ (w.heap.size) 23 _ (0, 0) _ _ rfl rfl j2 Try.underlying23 rfl (j23 LM.out)
theorem FromUp_any (A : Option Addr) (n cp : Nat) (L : List Nat) (bits : Int) (w : World) (hb : BIn w A n cp L) : Calls Try.prog 12 #[.slice A n cp, .int .i64 bits] w (PoIs (fuE L bits) (fuP L bits) w) := by
  by_cases h : 1 ≤ bits ∧ bits ≤ 23
  · obtain ⟨s, rfl⟩ : ∃ s : Nat, bits = s := ⟨bits.toNat, by omega⟩
    by_cases hn : n = 32 * s
    · have := FromUp_in A n cp L s (by omega) (by omega) hn w hb
      have hl : L.length = 32 * s := by rw [hb.1.1, hn]
      unfold fuE fuP
      rw [if_pos h]
      simp only [h, true_and, Int.toNat_natCast, hl, if_true]
      exact this
    · have := FromUp_len A n cp s (by omega) (by omega) hn w
      have hl : L.length ≠ 32 * s := by rw [hb.1.1]; exact hn
      have e1 : fuE L (s : Nat) = 91 := by unfold fuE; rw [if_pos h, if_neg (by simpa using hl)]
      have e2 : fuP L (s : Nat) = zerI := if_neg fun k => hl (by simpa using k.2.1)
      rw [e1, e2]; exact this
  · have e1 : fuE L bits = 1 := if_neg h
    have e2 : fuP L bits = zerI := if_neg fun k => h k.1
    rw [e1, e2]
    exact FromUp_arg A n cp bits h w
end Go.Proofs.YtkpbephjjhfigaaR
