/- The project's ball. Condition: the table of constants. -/
import Derived.Test.YtlbfnmmankoddaaDoorBl
namespace Go.Proofs.YtlbfnmmankoddaaDoor
open Go.RowKit
set_option linter.unusedVariables false
set_option linter.unusedSimpArgs false
theorem finP_len {st : Nat × List Int} (h : st.2.length = 256) : (finP st).length = 256 := by
  unfold finP; split
  · exact h
  · exact zerI_length
theorem blP_len (k : Nat) (L : List Nat) : (blP k L).length = 256 := finP_len (bS_len k L 1000).1
def baE (L : List Nat) : Nat := if L.length = 48 then blE 5 L else 91
def baP (L : List Nat) : List Int := if L.length = 48 then blP 5 L else zerI
set_option maxRecDepth 100000 in
set_option maxHeartbeats 1600000 in
theorem Ball_any (A : Option Addr) (n cp : Nat) (L : List Nat) (w : World) (hb : BIn w A n cp L) (htab : Tabs w) :
    Calls Tryd.prog 7 #[.slice A n cp] w fun e w' => e = .returned (.tuple #[.agg (iv (baP L)).toArray, .int .i64 (baE L : Nat)]) ∧ Below w.heap.size w w' := by
  have B1 := Lib.hid (Blk.new w 25 (iv zerI))
  have BEL := Lib.hid ((Below.refl w.heap.size w).alloc (Nat.le_refl _) (.cells (iv zerI).toArray 25))
  have HZC := Lib.hid zc23
  have LZ := Lib.hid zerI_length
  have z23 := zero23
  have HLN := Lib.hid hb.1.1
  by_cases hn : n = 48
  · obtain ⟨er, her⟩ : ∃ er, baE L = er := ⟨_, rfl⟩
    obtain ⟨eP, heP⟩ : ∃ eP, baP L = eP := ⟨_, rfl⟩
    rw [her, heP]
    have hE1 : blE 5 L = er := by rw [← her]; exact (if_pos (by rw [HLN.out, hn])).symm
    have hP1 : blP 5 L = eP := by rw [← heP]; exact (if_pos (by rw [HLN.out, hn])).symm
    have LP := Lib.hid (show eP.length = 256 by rw [← hP1]; exact blP_len 5 L)
    have HBO := Lib.hid (by have h := bytesOf_any (fun _ => False) 5 (.inr rfl) 1008 (by omega) A n cp L _ (hb.below BEL.out) (htab.below BEL.out) (fun g hg => hg.elim); rw [show ((5 : Nat) : Int) = 5 from rfl, show ((1008 : Nat) : Int) = 1008 from rfl] at h; exact h)
    have HTH := Lib.hid (fun g5 g9 g7 gS W h => thrown_any 5 L g5 g9 g7 gS W h)
    rw [hE1, hP1] at HTH
    generalize zerI = Z at *
    clear her heP hE1 hP1 hb htab
    subst hn
    go_enter Tryd.func7, Tryd.ntmps7
    go_wp2_with fail
    clear z23
    refine HBO.out.mono ?_
    rintro e w2 ⟨g5, g9, g7, gS, rfl, q5, q9, q7, qS, hs, hb2⟩
    rw [show (w.alloc (.cells (iv Z).toArray 25)).heap.size = w.heap.size + 1 by simp] at q5 q9 q7 qS
    have C1 := Lib.hid (B1.out.below' hb2)
    have bel2 := BEL.out.trans (hb2.mono BEL.out.size)
    have HS := Lib.hid hs
    clear hs hb2 B1 BEL HBO
    go_wp2_with fail
    refine (HTH.out g5 g9 g7 gS _ HS.out).mono ?_
    rintro e w3 ⟨rfl, hk3⟩
    have D1 := Lib.hid (C1.out.keep hk3 (by unfold SrcS; omega))
    have bel3 := hk3.bel bel2 (by unfold SrcS; omega)
    clear hk3
    go_wp2_with (first | (refine wpList_store_row rfl 25 (.tmp 2) (.tmp 11) rfl w.heap.size (iv eP).toArray rfl rfl 25 (iv Z).toArray D1.out (j23 LP.out) (by rw [iv_size, iv_size, LZ.out, LP.out]) (iv_all _) ?_))
    have j2 := D1.out.setRow (iv eP)
    have hb9 := below_setRow' bel3 (show w.heap.size ≤ w.heap.size by omega) (iv eP).toArray
    refine bodyPost_ret (v := .tuple #[.agg (iv eP).toArray, .int .i64 (er : Nat)]) ?_ rfl ⟨rfl, hb9⟩
    exact results_two Tryd.results7 _ _ w.heap.size 25 _ (0, 0) _ _ rfl rfl j2 Tryd.underlying25 rfl (j23 LP.out)
  · have e1 : baE L = 91 := if_neg (by rw [HLN.out]; exact hn)
    have e2 : baP L = zerI := if_neg (by rw [HLN.out]; exact hn)
    rw [e1, e2]
    have hne : ((n : Int) != 48) = true := by simp; omega
    generalize zerI = Z at *
    clear hb htab e1 e2 hn
    go_enter Tryd.func7, Tryd.ntmps7
    go_wp2_with (first | (refine wpList_store_row rfl 25 (.tmp 2) (.tmp 7) rfl w.heap.size (iv Z).toArray rfl (congrArg Value.agg HZC.out) 25 (iv Z).toArray B1.out (j23 LZ.out) rfl (iv_all _) ?_) | (refine wpList_store_row rfl 25 (.tmp 2) (.tmp 7) rfl w.heap.size (iv Z).toArray rfl rfl 25 (iv Z).toArray B1.out (j23 LZ.out) rfl (iv_all _) ?_))
    have j2 := B1.out.setRow (iv Z)
    have hb9 := below_setRow' BEL.out (show w.heap.size ≤ w.heap.size by omega) (iv Z).toArray
    refine bodyPost_ret (v := .tuple #[.agg (iv Z).toArray, .int .i64 91]) ?_ rfl ⟨rfl, hb9⟩
    exact results_two Tryd.results7 _ _ w.heap.size 25 _ (0, 0) _ _ rfl rfl j2 Tryd.underlying25 rfl (j23 LZ.out)
end Go.Proofs.YtlbfnmmankoddaaDoor
