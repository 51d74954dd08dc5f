/- ShaSums answers true for every list of bytes up to the size: the three digests are the document's. Condition of the row: the tables, which the card ties; the size. -/
import Derived.Test.YtnikhnpigopihaaDoorLaid
import Derived.Test.YtnikhnpigopihaaDoorAwake
import Derived.Test.YtnikhnpigopihaaDoorEqD
import Derived.Test.YtnikhnpigopihaaDoorTie
import Derived.Test.YtnikhnpigopihaaDoorCards
import Derived.SevenTiedAt
import Derived.Deep.RegionHeld3
namespace Go.Proofs.YtnikhnpigopihaaDoor.shaSums
open Go.ChangeShapes Go.WideShapes Go.ChangeAt Go.RowKit
set_option linter.unusedVariables false
set_option linter.unusedSimpArgs false
theorem blk_range' {w : World} {G : Nat} {t : TypeId} {l : List Nat} (h : Blk w G t (natsV .u8 l)) : w.rangeAt G 0 (natsV .u8 l) := by
  intro j v hv
  rw [Nat.zero_add, h.cell, hv]
theorem range_below {w w' : World} {G : Nat} {l : List Nat} (h : w.rangeAt G 0 (natsV .u8 l)) (hb : Below w.heap.size w w') : w'.rangeAt G 0 (natsV .u8 l) := by
  intro j v hv
  have h1 := h j v hv
  exact (hb.cell (World.block_lt_of_cell? w _ h1)).trans h1
theorem keepS {w w1 w2 : World} {X1 X2 X3 : Nat} {D1 D2 D3 : List Nat} (h1 : D1.length = 32) (h2 : D2.length = 48) (h3 : D3.length = 64) (hb : Below w1.heap.size w1 w2)
    (h : w1.rangeAt X1 0 (natsV .u8 D1) ∧ w1.rangeAt X2 0 (natsV .u8 D2) ∧ w1.rangeAt X3 0 (natsV .u8 D3) ∧ Below w.heap.size w w1) :
    w2.rangeAt X1 0 (natsV .u8 D1) ∧ w2.rangeAt X2 0 (natsV .u8 D2) ∧ w2.rangeAt X3 0 (natsV .u8 D3) ∧ Below w.heap.size w w2 :=
  ⟨range_below h.1 hb, range_below h.2.1 hb, range_below h.2.2.1 hb, h.2.2.2.trans (hb.mono h.2.2.2.size)⟩
theorem keepDrewS {w w1 : World} {X1 X2 X3 : Nat} {D1 D2 D3 : List Nat}
    (h : w1.rangeAt X1 0 (natsV .u8 D1) ∧ w1.rangeAt X2 0 (natsV .u8 D2) ∧ w1.rangeAt X3 0 (natsV .u8 D3) ∧ Below w.heap.size w w1) :
    w1.drew.rangeAt X1 0 (natsV .u8 D1) ∧ w1.drew.rangeAt X2 0 (natsV .u8 D2) ∧ w1.drew.rangeAt X3 0 (natsV .u8 D3) ∧ Below w.heap.size w w1.drew := ⟨h.1, h.2.1, h.2.2.1, h.2.2.2.drew⟩
set_option maxRecDepth 100000 in
set_option maxHeartbeats 3200000 in
theorem walk (a : Option Addr) (m c : Nat) (l : List Nat) (w : World) (htab : Tabs w) (hb : BIn w a m c l) (h47 : m ≤ 140737488351232) :
    Calls Tryd.prog 3 #[.slice a m c] w fun e w' => e = .returned (.bool true) ∧ Below w.heap.size w w' := by
  have HA := Lib.hid (awake_any w htab)
  have HTAB := Lib.hid htab
  have HB := Lib.hid hb
  have HLN := Lib.hid hb.1.1
  have HLT := Lib.hid hb.1.2.2.1
  clear htab hb
  go_enter Tryd.func3, Tryd.ntmps3
  go_wp2_with fail
  refine HA.out.mono ?_
  rintro e w1 ⟨rfl, hb0⟩
  have hbel0 := hb0
  clear hb0 HA
  go_wp2_with fail
  refine (own_any a m c l w1 (HB.out.below hbel0) (by omega)).mono ?_
  rintro e w2 ⟨G, cap, rfl, ho, hb0⟩
  rw [HLN.out] at ho
  have HO := Lib.hid ho
  have hbel1 := hbel0.trans (hb0.mono hbel0.size)
  clear ho hb0 hbel0
  go_wp2_with fail
  rw [HLN.out]
  have HOI1 := Lib.hid (ownM_in HO.out HLT.out HLN.out (by omega))
  refine (Sum256_any (some ⟨G, 0, none⟩) m cap l w2 HOI1.out (HTAB.out.below hbel1)).mono ?_
  rintro e w3 ⟨rfl, hb1⟩
  have HD1 := Lib.hid (show (msgD 1 l).length = 32 from msgD_length 1 l)
  have HR1 := Lib.hid (fun (w0 : World) (hb : Below w.heap.size w w0) => (show Calls Tryd.prog 15 #[.slice a m c] w0 (BytesIs (msgD 1 l) w0) from by rw [← doc_1 l]; exact refSum256_any a m c l w0 (HB.out.below hb) (by omega)))
  generalize msgD 1 l = D1 at *
  have hbel1a := hbel1.trans (hb1.mono hbel1.size)
  have HZ1 := Lib.hid (Blk.new w3 25 (natsV .u8 (zeros 32)))
  have HO := Lib.hid ((own_below HO.out hb1).alloc (.cells (natsV .u8 D1).toArray 25))
  have hbel2 := hbel1a.alloc hbel1a.size (.cells (natsV .u8 D1).toArray 25)
  have B1 := Lib.hid (Blk.new w3 25 (natsV .u8 D1))
  go_wp2_with (refine wpList_store_row rfl 25 (.tmp 5) (.tmp 13) rfl w3.heap.size (natsV .u8 D1).toArray rfl rfl 25 (natsV .u8 (zeros 32)).toArray HZ1.out (by rw [info25s, size_nats, HD1.out]) (by rw [size_nats, size_nats, HD1.out]; rfl) (all_nats _ _) ?_)
  rw [World.setRow_alloc_new]
  clear HZ1 HOI1 hbel1 hbel1a hb1
  generalize w3.heap.size = X1 at *
  generalize w3.alloc (.cells (natsV .u8 D1).toArray 25) = w3a at *
  have HOI2 := Lib.hid (ownM_in HO.out HLT.out HLN.out (by omega))
  refine (Sum384_any (some ⟨G, 0, none⟩) m cap l w3a HOI2.out (HTAB.out.below hbel2)).mono ?_
  rintro e w4 ⟨rfl, hb2⟩
  have HD2 := Lib.hid (show (msgD 2 l).length = 48 from msgD_length 2 l)
  have HR2 := Lib.hid (fun (w0 : World) (hb : Below w.heap.size w w0) => (show Calls Tryd.prog 16 #[.slice a m c] w0 (BytesIs (msgD 2 l) w0) from by rw [← doc_2 l]; exact refSum384_any a m c l w0 (HB.out.below hb) (by omega)))
  generalize msgD 2 l = D2 at *
  have hbel2a := hbel2.trans (hb2.mono hbel2.size)
  have HZ2 := Lib.hid (Blk.new w4 27 (natsV .u8 (zeros 48)))
  have B1 := Lib.hid ((B1.out.below' hb2).alloc (.cells (natsV .u8 D2).toArray 27))
  have HO := Lib.hid ((own_below HO.out hb2).alloc (.cells (natsV .u8 D2).toArray 27))
  have hbel3 := hbel2a.alloc hbel2a.size (.cells (natsV .u8 D2).toArray 27)
  have B2 := Lib.hid (Blk.new w4 27 (natsV .u8 D2))
  go_wp2_with (refine wpList_store_row rfl 27 (.tmp 6) (.tmp 15) rfl w4.heap.size (natsV .u8 D2).toArray rfl rfl 27 (natsV .u8 (zeros 48)).toArray HZ2.out (by rw [info27s, size_nats, HD2.out]) (by rw [size_nats, size_nats, HD2.out]; rfl) (all_nats _ _) ?_)
  rw [World.setRow_alloc_new]
  clear HZ2 HOI2 hbel2 hbel2a hb2
  generalize w4.heap.size = X2 at *
  generalize w4.alloc (.cells (natsV .u8 D2).toArray 27) = w4a at *
  have HOI3 := Lib.hid (ownM_in HO.out HLT.out HLN.out (by omega))
  refine (Sum512_any (some ⟨G, 0, none⟩) m cap l w4a HOI3.out (HTAB.out.below hbel3)).mono ?_
  rintro e w5 ⟨rfl, hb3⟩
  have HD3 := Lib.hid (show (msgD 3 l).length = 64 from msgD_length 3 l)
  have HR3 := Lib.hid (fun (w0 : World) (hb : Below w.heap.size w w0) => (show Calls Tryd.prog 17 #[.slice a m c] w0 (BytesIs (msgD 3 l) w0) from by rw [← doc_3 l]; exact refSum512_any a m c l w0 (HB.out.below hb) (by omega)))
  generalize msgD 3 l = D3 at *
  have hbel3a := hbel3.trans (hb3.mono hbel3.size)
  have HZ3 := Lib.hid (Blk.new w5 29 (natsV .u8 (zeros 64)))
  have B1 := Lib.hid ((B1.out.below' hb3).alloc (.cells (natsV .u8 D3).toArray 29))
  have B2 := Lib.hid ((B2.out.below' hb3).alloc (.cells (natsV .u8 D3).toArray 29))
  have HO := Lib.hid ((own_below HO.out hb3).alloc (.cells (natsV .u8 D3).toArray 29))
  have hbel4 := hbel3a.alloc hbel3a.size (.cells (natsV .u8 D3).toArray 29)
  have B3 := Lib.hid (Blk.new w5 29 (natsV .u8 D3))
  go_wp2_with (refine wpList_store_row rfl 29 (.tmp 7) (.tmp 17) rfl w5.heap.size (natsV .u8 D3).toArray rfl rfl 29 (natsV .u8 (zeros 64)).toArray HZ3.out (by rw [info29s, size_nats, HD3.out]) (by rw [size_nats, size_nats, HD3.out]; rfl) (all_nats _ _) ?_)
  rw [World.setRow_alloc_new]
  clear HZ3 HOI3 hbel3 hbel3a hb3
  generalize w5.heap.size = X3 at *
  generalize w5.alloc (.cells (natsV .u8 D3).toArray 29) = w5a at *
  have HOI := Lib.hid HO.out
  refine (still_any _ a m c G cap l w5a (HB.out.below hbel4) (by omega) HO.out).mono ?_
  rintro e w6 ⟨rfl, hb6⟩
  have hbel6 := hbel4.trans (hb6.mono hbel4.size)
  have B1 := Lib.hid (B1.out.below' hb6)
  have B2 := Lib.hid (B2.out.below' hb6)
  have B3 := Lib.hid (B3.out.below' hb6)
  clear HO HOI hbel4 hb6
  go_wp2_with fail
  have q1 := fun w0 : World => eqT 25 32 Tryd.underlying25 D1 HD1.out w0
  have q2 := fun w0 : World => eqT 27 48 Tryd.underlying27 D2 HD2.out w0
  have q3 := fun w0 : World => eqT 29 64 Tryd.underlying29 D3 HD3.out w0
  have hS : w6.rangeAt X1 0 (natsV .u8 D1) ∧ w6.rangeAt X2 0 (natsV .u8 D2) ∧ w6.rangeAt X3 0 (natsV .u8 D3) ∧ Below w.heap.size w w6 := ⟨blk_range' B1.out, blk_range' B2.out, blk_range' B3.out, hbel6⟩
  have i25 : (Tryd.prog.info? 25).map (·.size) = some (natsV .u8 D1).length := by rw [info25s, natsV_length, HD1.out]
  have i27 : (Tryd.prog.info? 27).map (·.size) = some (natsV .u8 D2).length := by rw [info27s, natsV_length, HD2.out]
  have i29 : (Tryd.prog.info? 29).map (·.size) = some (natsV .u8 D3).length := by rw [info29s, natsV_length, HD3.out]
  clear B1 B2 B3 hbel6
  refine wp_region_held_drew (S := (fun w' => w'.rangeAt X1 0 (natsV .u8 D1) ∧ w'.rangeAt X2 0 (natsV .u8 D2) ∧ w'.rangeAt X3 0 (natsV .u8 D3) ∧ Below w.heap.size w w')) (by kernel_rfl) (keepDrewS hS) (fun hHeld => ?_)
  refine wpAnyH_take (i := 0) (oi := _) (v := _) rfl (by kernel_rfl) (by kernel_rfl) (by kernel_rfl) (fun _ _ _ h => h) (Or.inl ⟨by rfl, by intro w hSw; (try dsimp only at hSw); go_simp; first | done | with_reducible rfl⟩) hHeld ?_
  try simp only [Act.put, List.getElem_toArray, List.getElem_cons_succ, List.getElem_cons_zero, List.setIfInBounds_toArray, List.set_cons_zero, List.set_cons_succ]
  refine wpAnyH_take (i := 1) (oi := _) (v := _) rfl (by kernel_rfl) (by kernel_rfl) (by kernel_rfl) (fun _ _ _ h => h) (Or.inl ⟨by rfl, by intro w hSw; (try dsimp only at hSw); go_simp; first | done | with_reducible rfl⟩) hHeld ?_
  try simp only [Act.put, List.getElem_toArray, List.getElem_cons_succ, List.getElem_cons_zero, List.setIfInBounds_toArray, List.set_cons_zero, List.set_cons_succ]
  refine wpAnyH_take (i := 2) (oi := _) (v := _) rfl (by kernel_rfl) (by kernel_rfl) (by kernel_rfl) (fun _ _ _ h => h) (Or.inl ⟨by rfl, by intro w hSw; (try dsimp only at hSw); go_simp; first | done | with_reducible rfl⟩) hHeld ?_
  try simp only [Act.put, List.getElem_toArray, List.getElem_cons_succ, List.getElem_cons_zero, List.setIfInBounds_toArray, List.set_cons_zero, List.set_cons_succ]
  refine wpAnyH_take (i := 3) (oi := _) (v := _) rfl (by kernel_rfl) (by kernel_rfl) (by kernel_rfl) (fun _ _ _ h => h) (Or.inl ⟨by rfl, by intro w hSw; (try dsimp only at hSw); go_simp; first | done | with_reducible rfl⟩) hHeld ?_
  try simp only [Act.put, List.getElem_toArray, List.getElem_cons_succ, List.getElem_cons_zero, List.setIfInBounds_toArray, List.set_cons_zero, List.set_cons_succ]
  refine wpAnyH_take (i := 4) (oi := _) (v := _) rfl (by kernel_rfl) (by kernel_rfl) (by kernel_rfl) (fun _ _ _ h => h) (Or.inl ⟨by rfl, by intro w hSw; (try dsimp only at hSw); go_simp; first | done | with_reducible rfl⟩) hHeld ?_
  try simp only [Act.put, List.getElem_toArray, List.getElem_cons_succ, List.getElem_cons_zero, List.setIfInBounds_toArray, List.set_cons_zero, List.set_cons_succ]
  refine wpAnyH_take (i := 5) (oi := _) (v := _) rfl (by kernel_rfl) (by kernel_rfl) (by kernel_rfl) (fun _ _ _ h => h) (yieldsIf_load_mid (by rfl) _ _ rfl _ _ rfl _ _ (by intro w hSw; exact hSw.1) Tryd.underlying25 rfl i25) hHeld ?_
  try simp only [Act.put, List.getElem_toArray, List.getElem_cons_succ, List.getElem_cons_zero, List.setIfInBounds_toArray, List.set_cons_zero, List.set_cons_succ]
  refine wpAnyH_take (i := 6) (oi := _) (v := _) rfl (by kernel_rfl) (by kernel_rfl) (by kernel_rfl) (fun _ _ _ h => h) (Or.inl ⟨by rfl, by intro w hSw; (try dsimp only at hSw); go_simp; first | done | with_reducible rfl⟩) hHeld ?_
  try simp only [Act.put, List.getElem_toArray, List.getElem_cons_succ, List.getElem_cons_zero, List.setIfInBounds_toArray, List.set_cons_zero, List.set_cons_succ]
  refine wpAnyH_ready (rs := [7]) (by kernel_rfl) (by simp) ?_
  refine AllReadyH.cons (o := _) rfl (fun K hK => ?_) AllReadyH.nil
  go_simp
  go_at_call 15
  refine (HR1.out _ hHeld.2.2.2).mono ?_
  rintro e wx1 ⟨rfl, hbx1⟩
  refine hK.out _ _ (keepS HD1.out HD2.out HD3.out hbx1 hHeld) (fun hHeld2 => ?_)
  clear hK K hHeld
  have hHeld := hHeld2
  clear hHeld2
  try simp only [Act.put, List.getElem_toArray, List.getElem_cons_succ, List.getElem_cons_zero, List.setIfInBounds_toArray, List.set_cons_zero, List.set_cons_succ]
  refine wpAnyH_take (i := 8) (oi := _) (v := _) rfl (by kernel_rfl) (by kernel_rfl) (by kernel_rfl) (fun _ _ _ h => h) (Or.inl ⟨by rfl, by intro w hSw; (try dsimp only at hSw); go_simp; first | done | with_reducible rfl⟩) hHeld ?_
  try simp only [Act.put, List.getElem_toArray, List.getElem_cons_succ, List.getElem_cons_zero, List.setIfInBounds_toArray, List.set_cons_zero, List.set_cons_succ]
  refine wpAnyH_take (i := 9) (oi := _) (v := _) rfl (by kernel_rfl) (by kernel_rfl) (by kernel_rfl) (fun _ _ _ h => h) (Or.inl ⟨by rfl, by intro w hSw; (try dsimp only at hSw); go_simp; first | done | with_reducible rfl⟩) hHeld ?_
  try simp only [Act.put, List.getElem_toArray, List.getElem_cons_succ, List.getElem_cons_zero, List.setIfInBounds_toArray, List.set_cons_zero, List.set_cons_succ]
  refine wpAnyH_take (i := 10) (oi := _) (v := _) rfl (by kernel_rfl) (by kernel_rfl) (by kernel_rfl) (fun _ _ _ h => h) (Or.inl ⟨by rfl, by intro w hSw; (try dsimp only at hSw); go_simp; first | done | with_reducible rfl⟩) hHeld ?_
  try simp only [Act.put, List.getElem_toArray, List.getElem_cons_succ, List.getElem_cons_zero, List.setIfInBounds_toArray, List.set_cons_zero, List.set_cons_succ]
  refine wpAnyH_take (i := 11) (oi := _) (v := _) rfl (by kernel_rfl) (by kernel_rfl) (by kernel_rfl) (fun _ _ _ h => h) (yieldsIf_load_mid (by rfl) _ _ rfl _ _ rfl _ _ (by intro w hSw; exact hSw.2.1) Tryd.underlying27 rfl i27) hHeld ?_
  try simp only [Act.put, List.getElem_toArray, List.getElem_cons_succ, List.getElem_cons_zero, List.setIfInBounds_toArray, List.set_cons_zero, List.set_cons_succ]
  refine wpAnyH_take (i := 12) (oi := _) (v := _) rfl (by kernel_rfl) (by kernel_rfl) (by kernel_rfl) (fun _ _ _ h => h) (Or.inl ⟨by rfl, by intro w hSw; (try dsimp only at hSw); go_simp; first | done | with_reducible rfl⟩) hHeld ?_
  try simp only [Act.put, List.getElem_toArray, List.getElem_cons_succ, List.getElem_cons_zero, List.setIfInBounds_toArray, List.set_cons_zero, List.set_cons_succ]
  refine wpAnyH_ready (rs := [13]) (by kernel_rfl) (by simp) ?_
  refine AllReadyH.cons (o := _) rfl (fun K hK => ?_) AllReadyH.nil
  go_simp
  go_at_call 16
  refine (HR2.out _ hHeld.2.2.2).mono ?_
  rintro e wx2 ⟨rfl, hbx2⟩
  refine hK.out _ _ (keepS HD1.out HD2.out HD3.out hbx2 hHeld) (fun hHeld2 => ?_)
  clear hK K hHeld
  have hHeld := hHeld2
  clear hHeld2
  try simp only [Act.put, List.getElem_toArray, List.getElem_cons_succ, List.getElem_cons_zero, List.setIfInBounds_toArray, List.set_cons_zero, List.set_cons_succ]
  refine wpAnyH_take (i := 14) (oi := _) (v := _) rfl (by kernel_rfl) (by kernel_rfl) (by kernel_rfl) (fun _ _ _ h => h) (Or.inl ⟨by rfl, by intro w hSw; (try dsimp only at hSw); go_simp; first | done | with_reducible rfl⟩) hHeld ?_
  try simp only [Act.put, List.getElem_toArray, List.getElem_cons_succ, List.getElem_cons_zero, List.setIfInBounds_toArray, List.set_cons_zero, List.set_cons_succ]
  refine wpAnyH_take (i := 15) (oi := _) (v := _) rfl (by kernel_rfl) (by kernel_rfl) (by kernel_rfl) (fun _ _ _ h => h) (Or.inl ⟨by rfl, by intro w hSw; (try dsimp only at hSw); go_simp; first | done | with_reducible rfl⟩) hHeld ?_
  try simp only [Act.put, List.getElem_toArray, List.getElem_cons_succ, List.getElem_cons_zero, List.setIfInBounds_toArray, List.set_cons_zero, List.set_cons_succ]
  refine wpAnyH_take (i := 16) (oi := _) (v := _) rfl (by kernel_rfl) (by kernel_rfl) (by kernel_rfl) (fun _ _ _ h => h) (Or.inl ⟨by rfl, by intro w hSw; (try dsimp only at hSw); go_simp; first | done | with_reducible rfl⟩) hHeld ?_
  try simp only [Act.put, List.getElem_toArray, List.getElem_cons_succ, List.getElem_cons_zero, List.setIfInBounds_toArray, List.set_cons_zero, List.set_cons_succ]
  refine wpAnyH_take (i := 17) (oi := _) (v := _) rfl (by kernel_rfl) (by kernel_rfl) (by kernel_rfl) (fun _ _ _ h => h) (yieldsIf_load_mid (by rfl) _ _ rfl _ _ rfl _ _ (by intro w hSw; exact hSw.2.2.1) Tryd.underlying29 rfl i29) hHeld ?_
  try simp only [Act.put, List.getElem_toArray, List.getElem_cons_succ, List.getElem_cons_zero, List.setIfInBounds_toArray, List.set_cons_zero, List.set_cons_succ]
  refine wpAnyH_take (i := 18) (oi := _) (v := _) rfl (by kernel_rfl) (by kernel_rfl) (by kernel_rfl) (fun _ _ _ h => h) (Or.inl ⟨by rfl, by intro w hSw; (try dsimp only at hSw); go_simp; first | done | with_reducible rfl⟩) hHeld ?_
  try simp only [Act.put, List.getElem_toArray, List.getElem_cons_succ, List.getElem_cons_zero, List.setIfInBounds_toArray, List.set_cons_zero, List.set_cons_succ]
  refine wpAnyH_ready (rs := [19]) (by kernel_rfl) (by simp) ?_
  refine AllReadyH.cons (o := _) rfl (fun K hK => ?_) AllReadyH.nil
  go_simp
  go_at_call 17
  refine (HR3.out _ hHeld.2.2.2).mono ?_
  rintro e wx3 ⟨rfl, hbx3⟩
  refine hK.out _ _ (keepS HD1.out HD2.out HD3.out hbx3 hHeld) (fun hHeld2 => ?_)
  clear hK K hHeld
  have hHeld := hHeld2
  clear hHeld2
  try simp only [Act.put, List.getElem_toArray, List.getElem_cons_succ, List.getElem_cons_zero, List.setIfInBounds_toArray, List.set_cons_zero, List.set_cons_succ]
  refine wpAnyH_take (i := 20) (oi := _) (v := _) rfl (by kernel_rfl) (by kernel_rfl) (by kernel_rfl) (fun _ _ _ h => h) (Or.inl ⟨by rfl, by intro w hSw; (try dsimp only at hSw); go_simp; first | done | with_reducible rfl⟩) hHeld ?_
  try simp only [Act.put, List.getElem_toArray, List.getElem_cons_succ, List.getElem_cons_zero, List.setIfInBounds_toArray, List.set_cons_zero, List.set_cons_succ]
  refine wpAnyH_take (i := 21) (oi := _) (v := _) rfl (by kernel_rfl) (by kernel_rfl) (by kernel_rfl) (fun _ _ _ h => h) (Or.inl ⟨by rfl, by intro w hSw; (try dsimp only at hSw); go_simp; first | done | with_reducible rfl⟩) hHeld ?_
  try simp only [Act.put, List.getElem_toArray, List.getElem_cons_succ, List.getElem_cons_zero, List.setIfInBounds_toArray, List.set_cons_zero, List.set_cons_succ]
  refine wpAnyH_take (i := 22) (oi := _) (v := _) rfl (by kernel_rfl) (by kernel_rfl) (by kernel_rfl) (fun _ _ _ h => h) (Or.inl ⟨by rfl, by intro w hSw; (try dsimp only at hSw); go_simp; first | done | with_reducible rfl⟩) hHeld ?_
  try simp only [Act.put, List.getElem_toArray, List.getElem_cons_succ, List.getElem_cons_zero, List.setIfInBounds_toArray, List.set_cons_zero, List.set_cons_succ]
  refine wpAnyH_done (by kernel_rfl) ?_ _
  have hBel := hHeld.2.2.2
  clear hHeld hS
  go_wp2_with fail
  go_ret
  exact ⟨rfl, hBel⟩
set_option maxRecDepth 100000 in
theorem lifted (os : Os) (started : os.Started) (H : Type) (enc : TypeId × Value → H) :
    ReturnsInHanded {} Tryd.checked os 3 .any (fun w args => (Rows.shaSumsSpec.pre enc Tryd.prog Tryd.f3 [] false w args ∧ laidMetH Tryd.prog laid2 w) ∧ sizedMet enc Tryd.prog Tryd.f3 (OpenSpec.ofChange Rows.shaSumsSpec) false w args)
      (Rows.shaSumsSpec.post enc Tryd.prog Tryd.f3 false true false false) := by
  refine returnsInHanded_of_change_and (C := Tryd.checked) (X := fun w _ => laidMetH Tryd.prog laid2 w) (fun _ _ _ hh h => h.of_heap hh) own started (by kernel_rfl) Tryd.func3
    (ChangeSpec.witness_shaped (enc := enc) (C := Tryd.checked) (os := os) (X := fun w _ => laidMetH Tryd.prog laid2 w) false (World.doorLaid Tryd.prog 400 os) #[.slice none 0 0] 8 rfl (World.shaped_of_RefB (by kernel_rfl) (by kernel_rfl)) (by kernel_rfl) (by kernel_rfl) (by kernel_rfl) (door_met os _)) ?_
  intro W base args ds gs before hval0 hW hcnd hsz0 hL _
  have hval : ∀ (j : Nat) t v, Tryd.f3.params[j]? = some t → args[j]? = some v → Value.okWide Tryd.prog W .any base t v := hval0
  have hW' := hW
  obtain ⟨p, q, hA0, hV, rfl, hfz, hnd⟩ := hW
  have hA : DataW.TrodAll enc Tryd.prog W 0 (fun _ => true) true Tryd.f3.params.toList args.toList ds p := hA0
  rw [Tryd.params3] at hA hval
  obtain ⟨v0, vs0, d0, ds0, p0, q0, hargs, rfl, rfl, h0, r0⟩ := trodAll_cons hA
  obtain ⟨rfl, rfl, rfl⟩ := trodAll_nil r0
  obtain rfl : args = #[v0] := by cases args; simp_all
  obtain ⟨rfl, rfl⟩ := trodVars_none hV
  have k0 := h0
  have lt0 : ∀ x ∈ p0, x.block < W.heap.size := by obtain ⟨m, hm⟩ := k0; exact DataW.trod_lt m _ _ _ hm
  have hsz : (DataW.weightsEach Tryd.prog (Tryd.f3.params.toList ++ Rows.shaSumsSpec.plain.varTypes Tryd.prog) (d0 :: [] ++ [])).all (· ≤ reachBytes) = true := hsz0
  rw [Tryd.params3] at hsz
  obtain ⟨a0, len0, cap0, rfl⟩ := okWide_slice Tryd.underlying22 (hval 0 22 v0 rfl rfl)
  obtain ⟨l0, hin0, hreach0⟩ : ∃ l, BIn W a0 len0 cap0 l ∧ len0 ≤ 140737488351232 := by
    obtain ⟨fu, hf⟩ := h0
    have hf2 : DataW.trod enc Tryd.prog W 0 (fun _ => true) true fu 22 [Value.slice a0 len0 cap0] = some (d0, p0) := hf
    have hw : ∀ k ∈ DataW.weights Tryd.prog 22 (d0, p0).1, k ≤ reachBytes := fun k hk => by
      have := List.all_eq_true.1 hsz k (DataW.weights_mem_each (j := 0) rfl rfl k hk)
      simpa using this
    obtain ⟨a, n, c, l, he, h1, h2⟩ := bin_in hf2 hw
    simp only [Value.slice.injEq] at he
    obtain ⟨rfl, rfl, rfl⟩ := he
    exact ⟨l, h1, h2⟩
  have htab := tabs_of_laid hL
  clear hA0 hval0
  refine (walk a0 len0 cap0 l0 W htab hin0 hreach0).mono fun e W' ⟨he, bel⟩ => ?_
  subst he
  exact ⟨_, rfl, _, _, _, [], _, [], hW', trodAll_mk1 (shut_bool Tryd.underlying4 _), (trodAll_cons_mk (Below.trod laidOut (by kernel_rfl) (of_decide_eq_true (by kernel_rfl)) k0 bel lt0) trodAll_mk0), rfl, bel.frame _, fun h => by cases h⟩
theorem over : Rows.shaSumsRow.holds Tryd.pinned (OpenSpec.ofChange Rows.shaSumsSpec) :=
  OpenClaim.holds_of_wide 3 Tryd.f3 rfl rfl rfl rfl rfl rfl rfl ⟨rfl, rfl, rfl, rfl, rfl⟩ rfl rfl rfl rfl rfl (by kernel_rfl) Tryd.func3 (by kernel_rfl)
    (of_decide_eq_true (by kernel_rfl)) (by unfold Func.isWrapper; first | (rw [if_pos (by decide +kernel)]; kernel_rfl) | (rw [if_neg (by decide +kernel)]; exact ⟨rfl, rfl⟩))
    (fun os started H enc _ => lifted os started H enc)
/-- The statement: the card. -/
theorem proved : Rows.ShaSumsCardSaid :=
  Claim7.holds_tied_plain_at .later [] [.data, .data] true (true, "9162a801594295369ddb7372835562b55433c5ff2212b237d2896dfe0e9d93c1") false
    over (fun _ h => by cases h) (by kernel_rfl) (fun _ h => by cases h) shaSums_row_tie rfl ⟨rfl, rfl⟩ (by kernel_rfl) rfl
    (fun f fn hf hfn => by
      obtain rfl : f = 3 := Option.some.inj ((show Tryd.prog.funcNamed "barbican/barbicanlaw02.ShaSums" = some 3 by kernel_rfl).symm.trans hf) |>.symm
      obtain rfl : fn = Tryd.f3 := (Option.some.inj (Tryd.func3.symm.trans hfn)).symm
      exact ⟨by kernel_rfl, fun j t ht => by
        rw [Tryd.params3] at ht
        have hm : t ∈ [22] := by simpa using Array.mem_of_getElem? ht
        have hall : ([22].all fun u => !Tryd.prog.wantsStandIn u) = true := by kernel_rfl
        exact (show Tryd.prog.wantsStandIn t = false by simpa using List.all_eq_true.1 hall t hm)⟩)
    (by kernel_rfl)
#print axioms proved
end Go.Proofs.YtnikhnpigopihaaDoor.shaSums
