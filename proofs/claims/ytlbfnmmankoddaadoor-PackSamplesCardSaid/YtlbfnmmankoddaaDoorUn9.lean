/- The project's uniform polynomial. Condition: the table of constants. -/
import Derived.Test.YtlbfnmmankoddaaDoorUn
namespace Go.Proofs.YtlbfnmmankoddaaDoor
open Go.RowKit
set_option linter.unusedVariables false
set_option linter.unusedSimpArgs false
def unE (L : List Nat) : Nat := if L.length = 34 then fiE (accL (unA 4 L) (unV 4 L) 2016) else 91
def unP (L : List Nat) : List Int := if L.length = 34 then fiP (accL (unA 4 L) (unV 4 L) 2016) else zerI
set_option maxRecDepth 100000 in
set_option maxHeartbeats 1600000 in
theorem Uniform_any (A : Option Addr) (n cp : Nat) (L : List Nat) (w : World) (hb : BIn w A n cp L) (htab : Tabs w) :
    Calls Tryd.prog 5 #[.slice A n cp] w fun e w' => e = .returned (.tuple #[.agg (iv (unP L)).toArray, .int .i64 (unE L : Nat)]) ∧ Below w.heap.size w w' := by
  have B1 := Lib.hid (Blk.new w 25 (iv zerI))
  have BEL := Lib.hid ((Below.refl w.heap.size w).alloc (Nat.le_refl _) (.cells (iv zerI).toArray 25))
  have HZC := Lib.hid zc23
  have LZ := Lib.hid zerI_length
  have z23 := zero23
  have HLN := Lib.hid hb.1.1
  by_cases hn : n = 34
  · obtain ⟨er, her⟩ : ∃ er, unE L = er := ⟨_, rfl⟩
    obtain ⟨eP, heP⟩ : ∃ eP, unP L = eP := ⟨_, rfl⟩
    rw [her, heP]
    have hE1 : fiE (accL (unA 4 L) (unV 4 L) 2016) = er := by rw [← her]; exact (if_pos (by rw [HLN.out, hn])).symm
    have hP1 : fiP (accL (unA 4 L) (unV 4 L) 2016) = eP := by rw [← heP]; exact (if_pos (by rw [HLN.out, hn])).symm
    have LP := Lib.hid (show eP.length = 256 by rw [← hP1]; exact fiP_len _)
    have HBO := Lib.hid (by have h := bytesOf_any (fun _ => False) 4 (.inl rfl) 6048 (by omega) A n cp L _ (hb.below BEL.out) (htab.below BEL.out) (fun g hg => hg.elim); rw [show ((4 : Nat) : Int) = 4 from rfl, show ((6048 : Nat) : Int) = 6048 from rfl] at h; exact h)
    generalize zerI = Z at *
    have HE1 := Lib.hid hE1
    have HP1 := Lib.hid hP1
    have HZF := Lib.hid (show zerI = zerI from rfl)
    clear her heP hE1 hP1 hb htab
    subst hn
    go_enter Tryd.func5, Tryd.ntmps5
    go_wp2_with fail
    clear z23
    refine HBO.out.mono ?_
    rintro e w2 ⟨g5, g9, g7, gS, rfl, q5, q9, q7, qS, hs, hb2⟩
    rw [show (w.alloc (.cells (iv Z).toArray 25)).heap.size = w.heap.size + 1 by simp] at q5 q9 q7 qS
    have C1 := Lib.hid (B1.out.below' hb2)
    have bel2 := BEL.out.trans (hb2.mono BEL.out.size)
    have HS := Lib.hid hs
    clear hs hb2 B1 BEL HBO
    go_wp2_with fail
    refine (belowQ_any g5 g9 g7 w2).mono ?_
    rintro e w3 ⟨rfl, rfl⟩
    have hl5 := HS.out.2.1.lt
    have hl9 : g9 < w2.heap.size := by obtain ⟨_, _, _, _, _, m, a, gv, s, A, c, s1, s2, s3, s4, s5, s6⟩ := HS.out; exact s5.lt
    have hlS : gS < w2.heap.size := by obtain ⟨_, _, _, _, _, m, a, gv, s, A, c, s1, s2, s3, s4, s5, s6⟩ := HS.out; exact s1.2.2.2.2.lt
    have hz1 := C1.out.lt
    have hba := (Below.refl w2.heap.size w2).alloc (Nat.le_refl _) (.cells #[nxF g5 g9 g7] 36)
    have bQ := Blk.new w2 36 [nxF g5 g9 g7]
    have hz3 : (w2.alloc (.cells #[nxF g5 g9 g7] 36)).heap.size = w2.heap.size + 1 := by simp
    have C1b := Lib.hid (C1.out.below' hba)
    have bel2b := bel2.trans (hba.mono bel2.size)
    have bQ2 : Blk (w2.alloc (.cells #[nxF g5 g9 g7] 36)) w2.heap.size 36 [nxF g5 g9 g7] := bQ
    obtain ⟨w3, hw3⟩ : ∃ w3, w2.alloc (.cells #[nxF g5 g9 g7] 36) = w3 := ⟨_, rfl⟩
    rw [hw3] at hba bQ2 hz3 C1b bel2b ⊢
    clear hw3 bQ
    have HTH := Lib.hid (show Calls Tryd.prog 13 #[unF w2.heap.size] w3 (DrawIs (SrcS g5 g9 gS) er eP w3) from by
      have h := filled_U (SrcS g5 g9 gS) (UniAt (fun g => w2.heap.size ≤ g ∧ g < w3.heap.size + 2) 4 L 6048 g5 g9 g7 gS w2.heap.size) (unA 4 L) (unV 4 L) 2016 w2.heap.size w3 (fun g hg => by unfold SrcS at hg; omega) (by omega) (unV_bd 4 L)
        (fun W j hW hD hj => below_any _ (w3.heap.size + 2) (fun g hg => hg.2) 4 L 2016 6048 g5 g9 g7 gS w2.heap.size j (by omega) W hD hW)
        (fun W W' j hD hk => hD.keep hk (fun g hg => by omega) (by omega))
        (by
          have hbb := ((Below.refl w3.heap.size w3).alloc (Nat.le_refl _) (.cells (iv zerI).toArray 25)).alloc (by simp) (.cells (iv zerI).toArray 25)
          have hs3 := ((HS.out.fresh (own' := fun g => w2.heap.size ≤ g ∧ g < w3.heap.size + 2) (fun g hg => hg.1)).below hba).below hbb
          exact ⟨by omega, hs3, bQ2.below' hbb, ⟨Nat.le_refl _, by omega⟩, by omega⟩)
      rw [show fiE (accL (unA 4 L) (unV 4 L) 2016) = er from HE1.out, show fiP (accL (unA 4 L) (unV 4 L) 2016) = eP from HP1.out] at h
      exact h)
    clear hba bQ2 C1 bel2
    go_wp2_with fail
    refine HTH.out.mono ?_
    rintro e w4 ⟨rfl, hk4⟩
    have D1 := Lib.hid (C1b.out.keep hk4 (by unfold SrcS; omega))
    have bel3 := hk4.bel bel2b (by unfold SrcS; omega)
    clear hk4
    go_wp2_with (first | (refine wpList_store_row rfl 25 (.tmp 2) (.tmp 12) rfl w.heap.size (iv eP).toArray rfl rfl 25 (iv Z).toArray D1.out (j23 LP.out) (by rw [iv_size, iv_size, LZ.out, LP.out]) (iv_all _) ?_))
    have j2 := D1.out.setRow (iv eP)
    have hb9 := below_setRow' bel3 (show w.heap.size ≤ w.heap.size by omega) (iv eP).toArray
    refine bodyPost_ret (v := .tuple #[.agg (iv eP).toArray, .int .i64 (er : Nat)]) ?_ rfl ⟨rfl, hb9⟩
    exact results_two Tryd.results5 _ _ w.heap.size 25 _ (0, 0) _ _ rfl rfl j2 Tryd.underlying25 rfl (j23 LP.out)
  · have e1 : unE L = 91 := if_neg (by rw [HLN.out]; exact hn)
    have e2 : unP L = zerI := if_neg (by rw [HLN.out]; exact hn)
    rw [e1, e2]
    have hne : ((n : Int) != 34) = true := by simp; omega
    generalize zerI = Z at *
    clear hb htab e1 e2 hn
    go_enter Tryd.func5, Tryd.ntmps5
    go_wp2_with (first | (refine wpList_store_row rfl 25 (.tmp 2) (.tmp 7) rfl w.heap.size (iv Z).toArray rfl (congrArg Value.agg HZC.out) 25 (iv Z).toArray B1.out (j23 LZ.out) rfl (iv_all _) ?_) | (refine wpList_store_row rfl 25 (.tmp 2) (.tmp 7) rfl w.heap.size (iv Z).toArray rfl rfl 25 (iv Z).toArray B1.out (j23 LZ.out) rfl (iv_all _) ?_))
    have j2 := B1.out.setRow (iv Z)
    have hb9 := below_setRow' BEL.out (show w.heap.size ≤ w.heap.size by omega) (iv Z).toArray
    refine bodyPost_ret (v := .tuple #[.agg (iv Z).toArray, .int .i64 91]) ?_ rfl ⟨rfl, hb9⟩
    exact results_two Tryd.results5 _ _ w.heap.size 25 _ (0, 0) _ _ rfl rfl j2 Tryd.underlying25 rfl (j23 LZ.out)
end Go.Proofs.YtlbfnmmankoddaaDoor
