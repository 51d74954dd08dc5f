/- The project's small polynomial. Condition: the table of constants. -/
import Derived.Test.YtlbfnmmankoddaaDoorNn
namespace Go.Proofs.YtlbfnmmankoddaaDoor
open Go.RowKit
set_option linter.unusedVariables false
set_option linter.unusedSimpArgs false
def smE (L : List Nat) : Nat := if L.length = 66 then fiE (accL (smA 5 L) (smV 5 L) (2 * 2000)) else 91
def smP (L : List Nat) : List Int := if L.length = 66 then fiP (accL (smA 5 L) (smV 5 L) (2 * 2000)) else zerI
set_option maxRecDepth 100000 in
set_option maxHeartbeats 1600000 in
theorem Small_any (A : Option Addr) (n cp : Nat) (L : List Nat) (w : World) (hb : BIn w A n cp L) (htab : Tabs w) :
    Calls Tryd.prog 6 #[.slice A n cp] w fun e w' => e = .returned (.tuple #[.agg (iv (smP L)).toArray, .int .i64 (smE L : Nat)]) ∧ Below w.heap.size w w' := by
  have B1 := Lib.hid (Blk.new w 25 (iv zerI))
  have BEL := Lib.hid ((Below.refl w.heap.size w).alloc (Nat.le_refl _) (.cells (iv zerI).toArray 25))
  have HZC := Lib.hid zc23
  have LZ := Lib.hid zerI_length
  have z23 := zero23
  have HLN := Lib.hid hb.1.1
  by_cases hn : n = 66
  · obtain ⟨er, her⟩ : ∃ er, smE L = er := ⟨_, rfl⟩
    obtain ⟨eP, heP⟩ : ∃ eP, smP L = eP := ⟨_, rfl⟩
    rw [her, heP]
    have hE1 : fiE (accL (smA 5 L) (smV 5 L) (2 * 2000)) = er := by rw [← her]; exact (if_pos (by rw [HLN.out, hn])).symm
    have hP1 : fiP (accL (smA 5 L) (smV 5 L) (2 * 2000)) = eP := by rw [← heP]; exact (if_pos (by rw [HLN.out, hn])).symm
    have LP := Lib.hid (show eP.length = 256 by rw [← hP1]; exact fiP_len _)
    have HBO := Lib.hid (by have h := bytesOf_any (fun _ => False) 5 (.inr rfl) 2000 (by omega) A n cp L _ (hb.below BEL.out) (htab.below BEL.out) (fun g hg => hg.elim); rw [show ((5 : Nat) : Int) = 5 from rfl, show ((2000 : Nat) : Int) = 2000 from rfl] at h; exact h)
    generalize zerI = Z at *
    have HE1 := Lib.hid hE1
    have HP1 := Lib.hid hP1
    have HZF := Lib.hid (show zerI = zerI from rfl)
    clear her heP hE1 hP1 hb htab
    subst hn
    go_enter Tryd.func6, Tryd.ntmps6
    go_wp2_with fail
    clear z23
    refine HBO.out.mono ?_
    rintro e w2 ⟨g5, g9, g7, gS, rfl, q5, q9, q7, qS, hs, hb2⟩
    rw [show (w.alloc (.cells (iv Z).toArray 25)).heap.size = w.heap.size + 1 by simp] at q5 q9 q7 qS
    have C1 := Lib.hid (B1.out.below' hb2)
    have bel2 := BEL.out.trans (hb2.mono BEL.out.size)
    have HS := Lib.hid hs
    clear hs hb2 B1 BEL HBO
    go_wp2_with fail
    refine (nearNought_any g5 g9 g7 w2).mono ?_
    rintro e w3 ⟨hu, hw, hn, hd, rfl, ⟨q1, q2, q3, q4, q12, q13, q23, q41, q42, q43⟩, b1, b2, b3, b4, hb3⟩
    have hl5 := HS.out.2.1.lt
    have hl9 : g9 < w2.heap.size := by obtain ⟨_, _, _, _, _, m, a, gv, s, A, c, s1, s2, s3, s4, s5, s6⟩ := HS.out; exact s5.lt
    have hlS : gS < w2.heap.size := by obtain ⟨_, _, _, _, _, m, a, gv, s, A, c, s1, s2, s3, s4, s5, s6⟩ := HS.out; exact s1.2.2.2.2.lt
    have hz1 := C1.out.lt
    have hz3 := hb3.size
    have l1 := b1.lt
    have l2 := b2.lt
    have l4 := b4.lt
    have C1b := Lib.hid (C1.out.below' hb3)
    have bel2b := bel2.trans (hb3.mono bel2.size)
    have HTH := Lib.hid (show Calls Tryd.prog 13 #[nrF hd] w3 (DrawIs (HalfS g5 g9 gS hu hw) er eP w3) from by
      have h := filled_N (HalfS g5 g9 gS hu hw) (NearAt (fun g => w2.heap.size ≤ g ∧ g < w3.heap.size + 2) 5 L 2000 g5 g9 g7 gS hu hw hn hd) (smA 5 L) (smV 5 L) (2 * 2000) hd w3 (fun g hg => by unfold HalfS SrcS at hg; omega) (by omega) (smV_bd 5 L)
        (fun W j hW hD hj => near_any _ (w3.heap.size + 2) (fun g hg => hg.2) 5 L 2000 g5 g9 g7 gS hu hw hn hd j W hD hW)
        (fun W W' j hD hk => hD.keep hk (fun g hg => by omega) (by omega) (by omega) (by have := b3.lt; omega) (by omega))
        (by
          have hbb := ((Below.refl w3.heap.size w3).alloc (Nat.le_refl _) (.cells (iv zerI).toArray 25)).alloc (by simp) (.cells (iv zerI).toArray 25)
          have hs3 := ((HS.out.fresh (own' := fun g => w2.heap.size ≤ g ∧ g < w3.heap.size + 2) (fun g hg => hg.1)).below hb3).below hbb
          exact ⟨⟨by omega, hs3, b1.below' hbb, ⟨0, by omega, b2.below' hbb, fun h => by omega⟩, b3.below' hbb, ⟨q1, by omega⟩, ⟨q2, by omega⟩, ⟨q3, by have := b3.lt; omega⟩, q12, q13, q23, by omega⟩, b4.below' hbb, ⟨q4, by omega⟩, q41, q42⟩)
      rw [show fiE (accL (smA 5 L) (smV 5 L) (2 * 2000)) = er from HE1.out, show fiP (accL (smA 5 L) (smV 5 L) (2 * 2000)) = eP from HP1.out] at h
      exact h)
    clear b1 b2 b3 b4 hb3 C1 bel2
    go_wp2_with fail
    refine HTH.out.mono ?_
    rintro e w4 ⟨rfl, hk4⟩
    have D1 := Lib.hid (C1b.out.keep hk4 (by unfold HalfS SrcS; omega))
    have bel3 := hk4.bel bel2b (by unfold HalfS SrcS; omega)
    clear hk4
    go_wp2_with (first | (refine wpList_store_row rfl 25 (.tmp 2) (.tmp 12) rfl w.heap.size (iv eP).toArray rfl rfl 25 (iv Z).toArray D1.out (j23 LP.out) (by rw [iv_size, iv_size, LZ.out, LP.out]) (iv_all _) ?_))
    have j2 := D1.out.setRow (iv eP)
    have hb9 := below_setRow' bel3 (show w.heap.size ≤ w.heap.size by omega) (iv eP).toArray
    refine bodyPost_ret (v := .tuple #[.agg (iv eP).toArray, .int .i64 (er : Nat)]) ?_ rfl ⟨rfl, hb9⟩
    exact results_two Tryd.results6 _ _ w.heap.size 25 _ (0, 0) _ _ rfl rfl j2 Tryd.underlying25 rfl (j23 LP.out)
  · have e1 : smE L = 91 := if_neg (by rw [HLN.out]; exact hn)
    have e2 : smP L = zerI := if_neg (by rw [HLN.out]; exact hn)
    rw [e1, e2]
    have hne : ((n : Int) != 66) = true := by simp; omega
    generalize zerI = Z at *
    clear hb htab e1 e2 hn
    go_enter Tryd.func6, Tryd.ntmps6
    go_wp2_with (first | (refine wpList_store_row rfl 25 (.tmp 2) (.tmp 7) rfl w.heap.size (iv Z).toArray rfl (congrArg Value.agg HZC.out) 25 (iv Z).toArray B1.out (j23 LZ.out) rfl (iv_all _) ?_) | (refine wpList_store_row rfl 25 (.tmp 2) (.tmp 7) rfl w.heap.size (iv Z).toArray rfl rfl 25 (iv Z).toArray B1.out (j23 LZ.out) rfl (iv_all _) ?_))
    have j2 := B1.out.setRow (iv Z)
    have hb9 := below_setRow' BEL.out (show w.heap.size ≤ w.heap.size by omega) (iv Z).toArray
    refine bodyPost_ret (v := .tuple #[.agg (iv Z).toArray, .int .i64 91]) ?_ rfl ⟨rfl, hb9⟩
    exact results_two Tryd.results6 _ _ w.heap.size 25 _ (0, 0) _ _ rfl rfl j2 Tryd.underlying25 rfl (j23 LZ.out)
end Go.Proofs.YtlbfnmmankoddaaDoor
