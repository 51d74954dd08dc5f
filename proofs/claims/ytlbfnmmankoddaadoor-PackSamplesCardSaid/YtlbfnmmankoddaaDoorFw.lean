/- A polynomial is filled by draws. Condition: the closure's contract. -/
import Derived.Test.YtlbfnmmankoddaaDoorFi
namespace Go.Proofs.YtlbfnmmankoddaaDoor
open Go.RowKit
set_option linter.unusedVariables false
set_option linter.unusedSimpArgs false
set_option maxRecDepth 100000 in
set_option maxHeartbeats 4000000 in
theorem filled_U (S : Nat → Prop) (D : World → Nat → Prop) (acc : Nat → Bool) (val : Nat → Int) (M hd : Nat) (w : World) (hS : ∀ g, S g → g < w.heap.size) (h1w : 1 ≤ w.heap.size)
    (hv : ∀ x, -2147483648 ≤ val x ∧ val x ≤ 2147483647)
    (HD : ∀ W j, w.heap.size + 2 ≤ W.heap.size → D W j → j ≤ M → Calls Tryd.prog 26 #[.pointer (some ⟨hd, 0, none⟩)] W (DrawnIs S D acc val M j W))
    (HK : ∀ W W' j, D W j → KeepS (fun g => g = w.heap.size ∨ g = w.heap.size + 1) W W' → D W' j)
    (h0 : D ((w.alloc (.cells (iv zerI).toArray 25)).alloc (.cells (iv zerI).toArray 25)) 0) :
    Calls Tryd.prog 13 #[.func (.func 26) #[] #[.pointer (some ⟨hd, 0, none⟩)]] w (DrawIs S (fiE (accL acc val M)) (fiP (accL acc val M)) w) := by
  have B1 := Lib.hid ((Blk.new w 25 (iv zerI)).alloc (.cells (iv zerI).toArray 25))
  have B2 := Lib.hid (Blk.new2 w (.cells (iv zerI).toArray 25) 25 (iv zerI))
  have bel0 := ((Below.refl w.heap.size w).alloc (Nat.le_refl _) (.cells (iv zerI).toArray 25)).alloc (by simp) (.cells (iv zerI).toArray 25)
  have K0 := Lib.hid (KeepS.below (S := S) bel0)
  have HD0 := Lib.hid h0
  have HDR := Lib.hid HD
  have HKP := Lib.hid HK
  have HS := Lib.hid hS
  have HV := Lib.hid hv
  have hsz0 : ((w.alloc (.cells (iv zerI).toArray 25)).alloc (.cells (iv zerI).toArray 25)).heap.size = w.heap.size + 2 := by simp
  have z23 := zero23
  have HZC := Lib.hid zc23
  have LZ := Lib.hid zerI_length
  have HFN := Lib.hid fpL_nil
  have HNO := Lib.hid (fun j hj h hx => @fi_no acc val j M hj h hx)
  have HYE := Lib.hid (fun j hj h => @fi_yes acc val j M hj h)
  have HA0 := Lib.hid (show accL acc val 0 = [] from rfl)
  have HNX := Lib.hid (fun j x h hx ha => @accL_next acc val j x h hx ha)
  have HSET := Lib.hid fpL_set
  have HFL := Lib.hid fpL_len
  have HIP := Lib.hid (fun j => @fpL_IsP (accL acc val j) (fun x hx => by obtain ⟨y, _, _, rfl⟩ := accL_mem hx; exact hv y))
  have HRL := Lib.hid rdL_len
  have HRED := Lib.hid (fun j w => Reduce_any (fpL (accL acc val j)) (HIP.out j) w)
  obtain ⟨er, her⟩ : ∃ er, fiE (accL acc val M) = er := ⟨_, rfl⟩
  obtain ⟨eP, heP⟩ : ∃ eP, fiP (accL acc val M) = eP := ⟨_, rfl⟩
  rw [her, heP]
  rw [her, heP] at HNO HYE
  generalize accL acc val = AL at *
  generalize zerI = Z at *
  generalize fpL = FP at *
  clear her heP h0 HD HK hS hv bel0
  go_enter Tryd.func13, Tryd.ntmps13
  go_wp2_with fail
  clear z23
  go_loopw [8] (fun v8 wr => ∃ j n : Nat, j ≤ M ∧ n ≤ 256 ∧ (AL j).length = n ∧ v8 = .int .i64 n ∧ Blk wr w.heap.size 25 (iv Z) ∧ Blk wr (w.heap.size + 1) 25 (iv (FP (AL j))) ∧ D wr j ∧ KeepS S w wr) (fun v8 _ => 256 - (intOf v8).toNat)
  case atStart => exact ⟨0, 0, by omega, by omega, by rw [HA0.out]; rfl, rfl, B1.out, by rw [HA0.out, HFN.out]; exact B2.out, HD0.out, K0.out⟩
  case round =>
    clear B1 B2 HD0 K0
    obtain ⟨j, n, hj, hn, hl, rfl, k1, k2, hd0, hk⟩ := hrel
    have J1 := Lib.hid k1
    have J2 := Lib.hid k2
    have HKK := Lib.hid hk
    have HDD := Lib.hid hd0
    have HLN := Lib.hid hl
    have hzw := k2.lt
    clear k1 k2 hk hd0 hl
    by_cases h5 : n < 256
    · have i1 : (n : Int) < 256 := by omega
      have HC := Lib.hid (HDR.out wr j (by omega) HDD.out hj)
      go_wp2_with fail
      refine HC.out.mono ?_
      intro e w2 hdr
      obtain ⟨hk2, hor⟩ := hdr
      have D1 := Lib.hid (J1.out.keep hk2 (fun hs => by have := HS.out _ hs; omega))
      have D2 := Lib.hid (J2.out.keep hk2 (fun hs => by have := HS.out _ hs; omega))
      have HK2 := Lib.hid (HKK.out.trans hk2)
      clear hk2
      rcases hor with ⟨x, hx1, hx2, hx3, hx4, rfl, hdd⟩ | ⟨hno, rfl⟩
      · have HX := Lib.hid (HNX.out j x hx1 hx3 hx4)
        have HDD2 := Lib.hid hdd
        have c1 := D2.out.iv n (by rw [HFL.out]; exact h5)
        have f1 := D2.out.free n
        generalize val x = y at *
        have k2 := D2.out.ivSet n y
        have hset := HSET.out (AL j) y (by rw [HLN.out]; exact h5)
        rw [HLN.out, ← HX.out] at hset
        rw [hset] at k2
        have E2 := Lib.hid k2
        have E1 := Lib.hid (D1.out.other ⟨w.heap.size + 1, n, none⟩ (.int .i32 y) (by simp))
        have KE := Lib.hid (HK2.out.newcell (g := w.heap.size + 1) (by omega) n (.int .i32 y))
        have DE := Lib.hid (HKP.out _ _ _ HDD2.out (KeepS.cell w2 (w.heap.size + 1) n (.int .i32 y) (.inr rfl)))
        have LE := Lib.hid (show (AL (x + 1)).length = n + 1 by rw [HX.out, List.length_append, HLN.out]; rfl)
        clear k2 hset hdd hx3 hx4
        go_wp2_with fail
        go_roundw
        case rel => exact ⟨x + 1, n + 1, by omega, by omega, LE.out, by go_num, E1.out, E2.out, DE.out, KE.out⟩
        case measure => simp [intOf]; omega
      · obtain ⟨rfl, rfl⟩ := HNO.out j hj (by rw [HLN.out]; exact h5) hno
        clear hno
        go_wp2_with (first | (refine wpList_store_row rfl 25 (.tmp 2) (.tmp 18) rfl w.heap.size (iv eP).toArray rfl (congrArg Value.agg HZC.out) 25 (iv eP).toArray D1.out (j23 LZ.out) rfl (iv_all _) ?_))
        have j2 := D1.out.setRow (iv eP)
        refine bodyPost_ret (v := .tuple #[.agg (iv eP).toArray, .int .i64 94]) ?_ rfl ⟨rfl, HK2.out.newrow (Nat.le_refl _) _⟩
        exact results_two Tryd.results13 _ _ w.heap.size 25 _ (0, 0) _ _ rfl rfl j2 Tryd.underlying25 rfl (j23 LZ.out)
    · have i1 : ¬ ((n : Int) < 256) := by omega
      obtain ⟨rfl, hep⟩ := HYE.out j hj (by rw [HLN.out]; omega)
      have HR := Lib.hid (HRED.out j)
      rw [← hep] at HR
      have LP := Lib.hid (show eP.length = 256 by rw [hep]; exact HRL.out _)
      have LF := Lib.hid (HFL.out (AL j))
      generalize FP (AL j) = q at *
      clear hep h5
      go_wp2_with (first | (refine wpList_load_row rfl 25 (.tmp 4) rfl (w.heap.size + 1) rfl 25 (iv q).toArray (0, 0) _ J2.out Tryd.underlying25 rfl (j23 LF.out) ?_))
      refine (HR.out _).mono ?_
      rintro e w3 ⟨rfl, hb3⟩
      have D1 := Lib.hid (J1.out.below' hb3)
      have HK2 := Lib.hid (HKK.out.trans (KeepS.below hb3))
      clear hb3
      go_wp2_with (first | (refine wpList_store_row rfl 25 (.tmp 2) (.tmp 24) rfl w.heap.size (iv eP).toArray rfl rfl 25 (iv Z).toArray D1.out (j23 LP.out) (by rw [iv_size, iv_size, LZ.out, LP.out]) (iv_all _) ?_))
      have j2 := D1.out.setRow (iv eP)
      refine bodyPost_ret (v := .tuple #[.agg (iv eP).toArray, .int .i64 0]) ?_ rfl ⟨rfl, HK2.out.newrow (Nat.le_refl _) _⟩
      exact results_two Tryd.results13 _ _ w.heap.size 25 _ (0, 0) _ _ rfl rfl j2 Tryd.underlying25 rfl (j23 LP.out)
end Go.Proofs.YtlbfnmmankoddaaDoor
