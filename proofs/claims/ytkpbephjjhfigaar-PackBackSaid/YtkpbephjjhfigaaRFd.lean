/- FromDown of the project answers as told by plain lists. Condition: none but bytes that are there. -/
import Derived.Test.YtkpbephjjhfigaaRFu
namespace Go.Proofs.YtkpbephjjhfigaaR
open Go.RowKit
set_option linter.unusedVariables false
set_option linter.unusedSimpArgs false
def fdI (top : Int) (s : Nat) (L : List Nat) (i : Nat) : Int := top - takI s L i
def fdOk (top : Int) (s : Nat) (L : List Nat) : Bool := (List.range 256).all fun i => decide (-4190208 ≤ fdI top s L i)
def fdC (top : Int) (s : Nat) (L : List Nat) : List Int := tellI (fdI top s L) 256
def fdK (top : Int) (s : Nat) (L : List Nat) (t : Nat) : List Int := tellI (fun j => if j < t then fdI top s L j else (takP s L).getD j 0) 256
theorem fdK_len (top : Int) (s : Nat) (L : List Nat) (t : Nat) : (fdK top s L t).length = 256 := tellI_length _ _
theorem fdK_zero (top : Int) (s : Nat) (L : List Nat) : fdK top s L 0 = takP s L := tellI_none _ _ 256 (takP_len s L)
theorem fdK_all (top : Int) (s : Nat) (L : List Nat) : fdK top s L 256 = fdC top s L := tellI_all _ _ 256
theorem fdK_succ (top : Int) (s : Nat) (L : List Nat) (t : Nat) : (fdK top s L t).set t (fdI top s L t) = fdK top s L (t + 1) := tellI_fill (fdI top s L) _ 256 t
theorem fdK_get (top : Int) (s : Nat) (L : List Nat) (t : Nat) (ht : t < 256) : (fdK top s L (t + 1)).getD t 0 = fdI top s L t := by
  unfold fdK; rw [tellI_get _ _ _ ht, if_pos (by omega)]
theorem fdOk_iff {top : Int} {s : Nat} {L : List Nat} : fdOk top s L = true ↔ ∀ i, i < 256 → -4190208 ≤ fdI top s L i := by
  unfold fdOk
  rw [List.all_eq_true]
  exact ⟨fun h i hi => of_decide_eq_true (h i (List.mem_range.2 hi)), fun h i hi => decide_eq_true (h i (List.mem_range.1 hi))⟩
theorem fdOk_no {top : Int} {s : Nat} {L : List Nat} (i : Nat) (hi : i < 256) (h : ¬ -4190208 ≤ fdI top s L i) : fdOk top s L = false := by
  cases hp : fdOk top s L with
  | false => rfl
  | true => exact absurd (fdOk_iff.1 hp i hi) h
theorem fdI_bd {top : Int} {s : Nat} (hs : s ≤ 22) (h1 : 0 ≤ top) (h2 : top ≤ 4194304) (L : List Nat) (i : Nat) : -4194304 ≤ fdI top s L i ∧ fdI top s L i ≤ 4194304 := by
  have h3 := takN_lt s L i
  have h4 : 2 ^ s ≤ 2 ^ 22 := Nat.pow_le_pow_right (by decide) hs
  unfold fdI takI; omega
theorem fdC_IsP {top : Int} {s : Nat} (hs : s ≤ 22) (h1 : 0 ≤ top) (h2 : top ≤ 4194304) (L : List Nat) : IsP (fdC top s L) := ⟨tellI_length _ _, fun i hi => by
  rw [show (fdC top s L).getD i 0 = fdI top s L i from tellI_get _ _ _ hi]
  have := fdI_bd hs h1 h2 L i
  omega⟩
theorem fdI_eq (top : Int) (s : Nat) (L : List Nat) (i : Nat) : fdI top s L i = top - takI s L i := rfl
def fdE (L : List Nat) (top bits : Int) : Nat := if cgd top bits = true then (if L.length = 32 * bits.toNat then (if fdOk top bits.toNat L = true then 0 else 92) else 91) else 1
def fdP (L : List Nat) (top bits : Int) : List Int := if cgd top bits = true ∧ L.length = 32 * bits.toNat ∧ fdOk top bits.toNat L = true then rdL (fdC top bits.toNat L) else zerI
set_option maxRecDepth 100000 in
set_option maxHeartbeats 1600000 in
theorem FromDown_arg (A : Option Addr) (n cp : Nat) (top bits : Int) (hg : cgd top bits = false) (w : World) : Calls Try.prog 13 #[.slice A n cp, .int .i32 top, .int .i64 bits] w (PoIs 1 zerI w) := by
  have B1 := Lib.hid (Blk.new w 23 (iv zerI))
  have BEL := Lib.hid ((Below.refl w.heap.size w).alloc (Nat.le_refl _) (.cells (iv zerI).toArray 23))
  have z23 := zero23
  have HG := Lib.hid (fun w => canGoDown_any top bits w)
  rw [hg] at HG
  clear hg
  go_enter Try.func13, Try.ntmps13
  go_wp2_with (first | (go_at_call 17; refine (HG.out _).mono ?_; rintro e w' ⟨rfl, rfl⟩) | (refine wpList_build_is rfl 23 _ rfl (iv zerI).toArray built0 ?_) | (refine wpList_store_row rfl 23 (.tmp 6) (.tmp 15) rfl w.heap.size (iv zerI).toArray rfl rfl 23 (iv zerI).toArray B1.out (j23 zerI_length) (zz zerI_length) (iv_all _) ?_))
  have j2 := B1.out.setRow (iv zerI)
  have hb2 := below_setRow' BEL.out (show w.heap.size ≤ w.heap.size by omega) (iv zerI).toArray
  refine bodyPost_ret (v := .tuple #[.agg (iv zerI).toArray, .int .i64 1]) ?_ rfl ⟨rfl, hb2⟩
  exact results_two Try.results13 _ _ (w.heap.size) 23 _ (0, 0) _ _ rfl rfl j2 Try.underlying23 rfl (j23 zerI_length)
set_option maxRecDepth 100000 in
set_option maxHeartbeats 1600000 in
theorem FromDown_len (A : Option Addr) (n cp : Nat) (top : Int) (s : Nat) (hg : cgd top (s : Nat) = true) (hn : n ≠ 32 * s) (w : World) : Calls Try.prog 13 #[.slice A n cp, .int .i32 top, .int .i64 (s : Nat)] w (PoIs 91 zerI w) := by
  have B1 := Lib.hid (Blk.new w 23 (iv zerI))
  have BEL := Lib.hid ((Below.refl w.heap.size w).alloc (Nat.le_refl _) (.cells (iv zerI).toArray 23))
  have z23 := zero23
  obtain ⟨g1, g2, g3, g4⟩ := cgd_iff.1 hg
  have HG := Lib.hid (fun w => canGoDown_any top (s : Nat) w)
  rw [hg] at HG
  have HSZ := Lib.hid (fun w => sizeIn_any s (by omega) w)
  obtain ⟨m, hm⟩ : ∃ m, 32 * s = m := ⟨_, rfl⟩
  rw [hm] at HSZ
  have hnm : ((n : Int) != (m : Int)) = true := by simp; omega
  clear hm hn hg
  go_enter Try.func13, Try.ntmps13
  go_wp2_with (first | (go_at_call 17; refine (HG.out _).mono ?_; rintro e w' ⟨rfl, rfl⟩) | (go_at_call 23; refine (HSZ.out _).mono ?_; rintro e w' ⟨rfl, rfl⟩) | (refine wpList_build_is rfl 23 _ rfl (iv zerI).toArray built0 ?_) | (refine wpList_store_row rfl 23 (.tmp 6) (.tmp 21) rfl w.heap.size (iv zerI).toArray rfl rfl 23 (iv zerI).toArray B1.out (j23 zerI_length) (zz zerI_length) (iv_all _) ?_))
  have j2 := B1.out.setRow (iv zerI)
  have hb2 := below_setRow' BEL.out (show w.heap.size ≤ w.heap.size by omega) (iv zerI).toArray
  refine bodyPost_ret (v := .tuple #[.agg (iv zerI).toArray, .int .i64 91]) ?_ rfl ⟨rfl, hb2⟩
  exact results_two Try.results13 _ _ (w.heap.size) 23 _ (0, 0) _ _ rfl rfl j2 Try.underlying23 rfl (j23 zerI_length)
set_option maxRecDepth 100000 in
set_option maxHeartbeats 1600000 in
theorem FromDown_in (A : Option Addr) (n cp : Nat) (L : List Nat) (top : Int) (s : Nat) (hg : cgd top (s : Nat) = true) (hn : n = 32 * s) (w : World) (hb : BIn w A n cp L) : Calls Try.prog 13 #[.slice A n cp, .int .i32 top, .int .i64 (s : Nat)] w (PoIs (if fdOk top s L = true then 0 else 92) (if fdOk top s L = true then rdL (fdC top s L) else zerI) w) := by
  have B1 := Lib.hid (Blk.new w 23 (iv zerI))
  have BEL := Lib.hid ((Below.refl w.heap.size w).alloc (Nat.le_refl _) (.cells (iv zerI).toArray 23))
  have z23 := zero23
  obtain ⟨g1, g2, g3, g4⟩ := cgd_iff.1 hg
  have HG := Lib.hid (fun w => canGoDown_any top (s : Nat) w)
  rw [hg] at HG
  have HSZ := Lib.hid (fun w => sizeIn_any s (by omega) w)
  rw [← hn] at HSZ
  have HT := Lib.hid (taken_any A n cp L s (by omega) (by omega) hn _ (hb.below BEL.out))
  have HR := Lib.hid (fun w => Reduce_any (fdC top s L) (fdC_IsP (by omega) g3 g4 L) w)
  have LM := Lib.hid (takP_len s L)
  have LC := Lib.hid (show (fdC top s L).length = 256 from tellI_length _ _)
  have LR := Lib.hid (rdL_len (fdC top s L))
  have HKL := Lib.hid (fun t => fdK_len top s L t)
  have HKZ := Lib.hid (fdK_zero top s L)
  have HKA := Lib.hid (fdK_all top s L)
  have HKS := Lib.hid (fun t => fdK_succ top s L t)
  have HKG := Lib.hid (fun t ht => fdK_get top s L t ht)
  have HIB := Lib.hid (fun t => fdI_bd (top := top) (s := s) (by omega) g3 g4 L t)
  have HIE := Lib.hid (fun t => fdI_eq top s L t)
  have HTG := Lib.hid (fun t ht => takP_get s L t ht)
  have HOY := Lib.hid (@fdOk_iff top s L)
  have HON := Lib.hid (fun t ht h => @fdOk_no top s L t ht h)
  have HTN := Lib.hid (fun t => show 0 ≤ takI s L t ∧ takI s L t < 4194304 by
    have h3 := takN_lt s L t
    have h4 : 2 ^ s ≤ 2 ^ 22 := Nat.pow_le_pow_right (by decide) (by omega)
    unfold takI; omega)
  obtain ⟨er, her⟩ : ∃ er : Nat, (if fdOk top s L = true then 0 else 92) = er := ⟨_, rfl⟩
  obtain ⟨eP, heP⟩ : ∃ eP : List Int, (if fdOk top s L = true then rdL (fdC top s L) else zerI) = eP := ⟨_, rfl⟩
  rw [her, heP]
  have HER := Lib.hid her
  have HEP := Lib.hid heP
  generalize fdOk top s L = ok at *
  generalize rdL (fdC top s L) = r at *
  generalize fdC top s L = c at *
  generalize fdK top s L = K at *
  generalize takP s L = m at *
  generalize hdi : fdI top s L = D at *
  generalize htk : takI s L = T at *
  clear hb her heP hn hg hdi htk
  go_enter Try.func13, Try.ntmps13
  go_wp2_with (first | (go_at_call 17; refine (HG.out _).mono ?_; rintro e w' ⟨rfl, rfl⟩) | (go_at_call 23; refine (HSZ.out _).mono ?_; rintro e w' ⟨rfl, rfl⟩))
  refine HT.out.mono ?_
  rintro e w1 ⟨rfl, hb1⟩
  have bel1 := BEL.out.trans (hb1.mono BEL.out.size)
  have C1 := Lib.hid (B1.out.below' hb1)
  have hz1 : w.heap.size < w1.heap.size := C1.out.lt
  clear hb1 B1 BEL HT HSZ HG
  go_wp2_with (first | (refine wpList_store_row rfl 23 (.tmp 8) (.tmp 24) rfl w1.heap.size (iv m).toArray rfl rfl 23 (iv zerI).toArray (Blk.new w1 23 (iv zerI)) (j23 LM.out) (zz LM.out) (iv_all _) ?_; generalize hW : World.setRow _ _ _ = w2; obtain ⟨hgr2, hD2⟩ := newfacts hW; clear hW; have E1 := Lib.hid (C1.out.gr hgr2); have bel3 := bel1.trans (Below.mono hgr2 bel1.size); have E2 := Lib.hid hD2; clear hgr2 hD2 C1 bel1; generalize w1.heap.size = G at *) | (refine wpList_load_row rfl 23 (.tmp 8) rfl G rfl 23 (iv m).toArray (0, 0) _ E2.out Try.underlying23 rfl (j23 LM.out) ?_))
  go_loopw [26] (fun cc wr => ∃ t : Nat, t ≤ 256 ∧ cc = .int .i64 t ∧ Blk wr w.heap.size 23 (iv zerI) ∧ Blk wr G 23 (iv (K t)) ∧ Below w.heap.size w wr ∧ (∀ i, i < t → -4190208 ≤ D i)) (fun cc _ => 256 - (intOf cc).toNat)
  case atStart => exact ⟨0, by omega, rfl, E1.out, by rw [HKZ.out]; exact E2.out, bel3, fun i hi => absurd hi (Nat.not_lt_zero i)⟩
  case round =>
    clear E1 E2 bel3 HKZ
    obtain ⟨t, ht, rfl, k1, k2, hbel, hall⟩ := hrel
    have K1 := Lib.hid k1
    have K2 := Lib.hid k2
    have HA := Lib.hid hall
    clear k1 k2 hall
    by_cases h5 : t < 256
    · have i1 : (t : Int) < 256 := by omega
      have hx := fun w => index23 w m t h5 LM.out
      rw [HTG.out t h5] at hx
      obtain ⟨hd1, hd2⟩ := HIB.out t
      obtain ⟨ht1, ht2⟩ := HTN.out t
      have hc0 := K2.out.iv t (by rw [HKL.out]; exact h5)
      have hf0 := K2.out.free t
      have HV := Lib.hid (HKS.out t)
      have k1 := Lib.hid (K1.out.other ⟨G, t, none⟩ (.int .i32 (D t)) (by simp; omega))
      have k2 := K2.out.ivSet t (D t)
      rw [HV.out] at k2
      have K22 := Lib.hid k2
      have hc1 := k2.iv t (by rw [HKL.out]; exact h5)
      rw [HKG.out t h5] at hc1
      have hbel2 := hbel.setCell (p := ⟨G, t, none⟩) (by simp; omega) (.int .i32 (D t))
      have HSU := Lib.hid (fun (hx : -4190208 ≤ D t) => show ∀ i, i < t + 1 → -4190208 ≤ D i from fun i hi => by
        by_cases e : i = t
        · subst e; exact hx
        · exact HA.out i (by omega))
      have HON2 := Lib.hid (HON.out t h5)
      have he3 := (HIE.out t).symm
      clear k2 HV
      generalize D t = y at *
      generalize T t = z at *
      by_cases hlt : y < -4190208
      · obtain rfl : ok = false := HON2.out (by omega)
        obtain rfl : er = 92 := HER.out.symm
        obtain rfl : eP = zerI := HEP.out.symm
        go_wp2_with (first | (refine wpList_build_is rfl 23 _ rfl (iv zerI).toArray built0 ?_) | (refine wpList_store_row rfl 23 (.tmp 6) (.tmp 39) rfl w.heap.size (iv zerI).toArray rfl rfl 23 (iv zerI).toArray k1.out (j23 zerI_length) (zz zerI_length) (iv_all _) ?_))
        have j2 := k1.out.setRow (iv zerI)
        have hb2 := below_setRow' hbel2 (show w.heap.size ≤ w.heap.size by omega) (iv zerI).toArray
        refine bodyPost_ret (v := .tuple #[.agg (iv zerI).toArray, .int .i64 92]) ?_ rfl ⟨rfl, hb2⟩
        exact results_two Try.results13 _ _ (w.heap.size) 23 _ (0, 0) _ _ rfl rfl j2 Try.underlying23 rfl (j23 zerI_length)
      · go_wp2_with fail
        go_roundw
        case rel => exact ⟨t + 1, by omega, by go_num, k1.out, K22.out, hbel2, HSU.out (by omega)⟩
        case measure => simp [intOf]; omega
    · obtain rfl : t = 256 := by omega
      obtain rfl : ok = true := HOY.out.2 HA.out
      obtain rfl : er = 0 := HER.out.symm
      obtain rfl : eP = r := HEP.out.symm
      rw [HKA.out] at K2
      clear z23 HA
      go_wp2_with (first | (refine wpList_load_row rfl 23 (.tmp 8) rfl G rfl 23 (iv c).toArray (0, 0) _ K2.out Try.underlying23 rfl (j23 LC.out) ?_))
      refine (HR.out _).mono ?_
      rintro e w3 ⟨rfl, hb3⟩
      have bel4 := hbel.trans (hb3.mono hbel.size)
      have G1 := Lib.hid (K1.out.below' hb3)
      clear hb3 hbel K1 K2
      go_wp2_with (first | (refine wpList_store_row rfl 23 (.tmp 6) (.tmp 42) rfl w.heap.size (iv eP).toArray rfl rfl 23 (iv zerI).toArray G1.out (j23 LR.out) (zz LR.out) (iv_all _) ?_))
      have j2 := G1.out.setRow (iv eP)
      have hb2 := below_setRow' bel4 (show w.heap.size ≤ w.heap.size by omega) (iv eP).toArray
      refine bodyPost_ret (v := .tuple #[.agg (iv eP).toArray, .int .i64 0]) ?_ rfl ⟨rfl, hb2⟩
      exact results_two Try.results13 _ _ (w.heap.size) 23 _ (0, 0) _ _ rfl rfl j2 Try.underlying23 rfl (j23 LR.out)
theorem FromDown_any (A : Option Addr) (n cp : Nat) (L : List Nat) (top bits : Int) (w : World) (hb : BIn w A n cp L) : Calls Try.prog 13 #[.slice A n cp, .int .i32 top, .int .i64 bits] w (PoIs (fdE L top bits) (fdP L top bits) w) := by
  cases hg : cgd top bits with
  | true =>
    obtain ⟨g1, g2, g3, g4⟩ := cgd_iff.1 hg
    obtain ⟨s, rfl⟩ : ∃ s : Nat, bits = s := ⟨bits.toNat, by omega⟩
    by_cases hn : n = 32 * s
    · have := FromDown_in A n cp L top s hg hn w hb
      have hl : L.length = 32 * s := by rw [hb.1.1, hn]
      unfold fdE fdP
      rw [if_pos hg]
      simp only [hg, true_and, Int.toNat_natCast, hl, if_true]
      exact this
    · have := FromDown_len A n cp top s hg hn w
      have hl : L.length ≠ 32 * s := by rw [hb.1.1]; exact hn
      have e1 : fdE L top (s : Nat) = 91 := by unfold fdE; rw [if_pos hg, if_neg (by simpa using hl)]
      have e2 : fdP L top (s : Nat) = zerI := if_neg fun k => hl (by simpa using k.2.1)
      rw [e1, e2]; exact this
  | false =>
    have e1 : fdE L top bits = 1 := if_neg (by rw [hg]; simp)
    have e2 : fdP L top bits = zerI := if_neg fun k => by rw [hg] at k; exact absurd k.1 (by decide)
    rw [e1, e2]
    exact FromDown_arg A n cp top bits hg w
end Go.Proofs.YtkpbephjjhfigaaR
