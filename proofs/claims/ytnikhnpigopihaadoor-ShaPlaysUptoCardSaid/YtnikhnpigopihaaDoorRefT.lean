/- The document's digests of a message at once. Condition: the message is short enough. -/
import Derived.Test.YtnikhnpigopihaaDoorRefS1
import Derived.Test.YtnikhnpigopihaaDoorRefS2
import Derived.Test.YtnikhnpigopihaaDoorRefS3
import Derived.Test.YtnikhnpigopihaaDoorOnce
import Derived.Laws.CopyOwn
import Derived.Deep.AppendLies
namespace Go.Proofs.YtnikhnpigopihaaDoor
open Go.RowKit
set_option linter.unusedVariables false
/-- the document's digest -/
def docD (k : Nat) (l p : List Nat) : List Nat := (beW (wB k) (goes (wW k) (firstN k) (l ++ p)).1).take (dgB k)
theorem docD_length (k : Nat) (l p : List Nat) : (docD k l p).length = dgB k := by
  unfold docD
  rw [List.length_take, beW_length, (goes0_state k (l ++ p)).1]
  unfold dgB wB; split <;> (first | rfl | (split <;> rfl))
set_option maxRecDepth 100000 in
set_option maxHeartbeats 1600000 in
theorem refSum256_any (a : Option Addr) (m c : Nat) (l : List Nat) (w : World) (hb : BIn w a m c l) (hm : m + 300 ≤ 140737488355328) :
    Calls Tryd.prog 15 #[.slice a m c] w (BytesIs (docD 1 l (padR1 l.length l.length)) w) := by
  have HN := Lib.hid (fun w => refNew_1 w)
  have HB := Lib.hid hb
  have HLM := Lib.hid hb.1.1
  have BEL := Lib.hid (((Below.refl w.heap.size w).alloc (Nat.le_refl _) (.cells (natsV .u8 (zeros 32)).toArray 25)).alloc (by simp) (.cells (natsV .u8 (zeros 32)).toArray 25))
  have BR := Lib.hid (Blk.new2 w (.cells (natsV .u8 (zeros 32)).toArray 25) 25 (natsV .u8 (zeros 32)))
  have BQ := Lib.hid ((Blk.new w 25 (natsV .u8 (zeros 32))).alloc (.cells (natsV .u8 (zeros 32)).toArray 25))
  have HWR := Lib.hid (fun (g : Nat) (w1 : World) (h : RefAt w1 g (g + 1) 1 (firstN 1) 0 []) (hbl : Below w.heap.size w w1) => refWrite_fits g (g + 1) 1 0 (firstN 1) [] a m c l w1 h (hb.below hbl) (by simp; omega) (by simp) (by simp; omega))
  have HSM := Lib.hid (fun (g : Nat) (w1 : World) (h : RefAt w1 g (g + 1) 1 (firstN 1) 0 ([] ++ l)) => refSum_1 g (g + 1) 0 (firstN 1) ([] ++ l) w1 h (by have := hb.1.1; simp; omega) (by have := hb.1.1; simp; omega))
  have HDL := Lib.hid (show (docD 1 l (padR1 l.length l.length)).length = 32 from docD_length 1 _ _)
  have HDD := Lib.hid (show (beW (wB 1) (goes 32 (firstN 1) (([] ++ l) ++ padR1 ([] ++ l : List Nat).length (0 + ([] ++ l : List Nat).length))).1).take 32 = docD 1 l (padR1 l.length l.length) from by simp only [List.nil_append, Nat.zero_add]; rfl)
  generalize docD 1 l (padR1 l.length l.length) = D at *
  clear hb
  go_enter Tryd.func15, Tryd.ntmps15
  go_wp2_with fail
  refine (HN.out _).mono ?_
  rintro e w1 ⟨g, rfl, hg, hat, hb1⟩
  have hbel1 := BEL.out.trans (hb1.mono BEL.out.size)
  have BR1 := Lib.hid (BR.out.below' hb1)
  have BQ1 := Lib.hid (BQ.out.below' hb1)
  go_wp2_with fail
  refine (HWR.out g w1 hat hbel1).mono ?_
  rintro e w2 ⟨rfl, hat2, hb2⟩
  have hgs : w.heap.size + 1 + 1 ≤ g := by have := hg; simp at this; omega
  have hbel2 := hbel1.trans (hb2.mono (by omega))
  have BR2 := Lib.hid (BR1.out.below hb2 (by omega))
  have BQ2 := Lib.hid (BQ1.out.below hb2 (by omega))
  clear HWR HN BR BR1 BQ BQ1 hat
  go_wp2_with fail
  have HS2 := Lib.hid (HSM.out g w2.drew (by
    obtain ⟨q1, q2, q3, q4, q5, q6, q7⟩ := hat2
    exact ⟨q1, q2, q3, q4, q5, q6, q7⟩))
  rw [HDD.out] at HS2
  have HCALL := Lib.hid (show Calls Tryd.prog 30 #[.pointer (some ⟨g, 0, none⟩)] w2.drew (fun e w3 => ∃ G cap, e = .returned (.slice (some ⟨G, 0, none⟩) 32 cap) ∧ Blk w3 (w.heap.size + 1) 25 (natsV .u8 (zeros 32)) ∧ Blk w3 w.heap.size 25 (natsV .u8 (zeros 32)) ∧ Below w.heap.size w w3 ∧
      (0 < (natsV .u8 D).length → some (⟨w.heap.size + 1, 0, none⟩ : Addr) = some ⟨w.heap.size + 1, 0, none⟩ ∧ ∃ ad, some (⟨G, 0, none⟩ : Addr) = some ad ∧ ∀ j v, (natsV .u8 D)[j]? = some v → w3.cell? (ad.add j) = some v)) from
    HS2.out.mono fun e w3 h => by
      obtain ⟨v, he, ho, hb3⟩ := h
      rw [HDL.out] at ho
      obtain ⟨G, cap, rfl, hc1, hc2, hG⟩ := own_form ho (by decide)
      have hb3' : Below w2.heap.size w2 w3 := ⟨hb3.os, hb3.tape, hb3.output, hb3.size, hb3.block⟩
      exact ⟨G, cap, he, BR2.out.below' hb3', BQ2.out.below' hb3', hbel2.trans (hb3'.mono hbel2.size), fun _ => ⟨rfl, _, rfl, fun j v h => by have := own_range ho j v h; rcases j with _ | j <;> simpa [Addr.add] using this⟩⟩)
  have HLN := Lib.hid (show (natsV .u8 D).length = Nat.min 32 32 from by rw [natsV_length, HDL.out]; rfl)
  have HFIT := Lib.hid (show 0 + (natsV .u8 D).length ≤ (natsV .u8 (zeros 32)).length from by rw [natsV_length, natsV_length, HDL.out]; decide)
  have HONE := Lib.hid (show ∀ v ∈ natsV .u8 D, v.oneCell' = true from fun v hv => natsV_one .u8 D v hv)
  have HI5 := Lib.hid (show (Tryd.prog.info? 5).map (·.size) = some 1 from by kernel_rfl)
  have HSPL := Lib.hid (show splice (natsV .u8 (zeros 32)) 0 (natsV .u8 D) = natsV .u8 D from by
    unfold splice
    rw [List.take_zero, List.nil_append, List.drop_eq_nil_of_le (by rw [natsV_length, natsV_length, HDL.out]; decide), List.append_nil])
  clear HDD HSM hat2 hb1 hg HS2
  go_region_law (first | (refine step_copy_splice rfl (.tmp 13) (.tmp 15) 22 22 rfl 5 Tryd.underlying22 HI5.out (some ⟨w.heap.size + 1, 0, none⟩) (some ⟨G, 0, none⟩) 32 32 32 cap rfl rfl (w.heap.size + 1) 0 (natsV .u8 (zeros 32)) 25 hB3 (natsV .u8 D) HLN.out hpos HFIT.out HONE.out (w.heap.size + 1) w3 (Below.refl _ _) (Nat.le_refl _) ?_; intro w4 hg4 hb4) | (go_simp; go_at_call 30; refine HCALL.out.mono ?_; rintro e w3 ⟨G, cap, rfl, hB3, hQ3, hbel3, hpos⟩))
  all_goals
    have B4 := Lib.hid (show Blk w4 (w.heap.size + 1) 25 (natsV .u8 D) from by have := hg4.out; rw [HSPL.out] at this; exact this)
    have Q4 := Lib.hid (show Blk w4 w.heap.size 25 (natsV .u8 (zeros 32)) from hQ3.below hb4 (Nat.lt_succ_self _))
    have hbel4 := hbel3.trans (hb4.mono (Nat.le_succ _))
    have HR4 := Lib.hid (show w4.rangeAt (w.heap.size + 1) 0 (natsV .u8 D) from fun j v h => by rw [Nat.zero_add, B4.out.cell]; exact h)
    have HLs := Lib.hid (show (Tryd.prog.info? 25).map (·.size) = some (natsV .u8 D).length from by rw [info25s, natsV_length, HDL.out])
    have HLt := Lib.hid (show (Tryd.prog.info? 25).map (·.size) = some (natsV .u8 D).toArray.size from by rw [info25s, size_nats, HDL.out])
    have HLu := Lib.hid (show (natsV .u8 (zeros 32)).toArray.size = (natsV .u8 D).toArray.size from by rw [size_nats, size_nats, HDL.out]; rfl)
    clear hg4 hb4 hpos hB3 hQ3 HLN HFIT HONE HSPL HCALL BR2 BQ2
    go_wp2_with (first | (refine wpList_load_mid rfl 25 (.tmp 3) rfl (w.heap.size + 1) 0 rfl (natsV .u8 D) _ HR4.out Tryd.underlying25 rfl HLs.out ?_) | (refine wpList_store_row rfl 25 (.tmp 2) (.tmp 17) rfl w.heap.size (natsV .u8 D).toArray rfl rfl 25 (natsV .u8 (zeros 32)).toArray Q4.out HLt.out HLu.out (all_nats _ _) ?_))
    have j2 := Q4.out.setRow (natsV .u8 D)
    have hb5 := below_setRow' hbel4 (Nat.le_refl _) (natsV .u8 D).toArray
    refine bodyPost_ret (v := .agg (natsV .u8 D).toArray) ?_ rfl ⟨rfl, hb5⟩
    exact results_cell_row Tryd.results15 _ _ w.heap.size 25 _ (0, 0) _ rfl j2 Tryd.underlying25 rfl HLt.out


set_option maxRecDepth 100000 in
set_option maxHeartbeats 1600000 in
theorem refSum384_any (a : Option Addr) (m c : Nat) (l : List Nat) (w : World) (hb : BIn w a m c l) (hm : m + 300 ≤ 140737488355328) :
    Calls Tryd.prog 16 #[.slice a m c] w (BytesIs (docD 2 l (padR2 l.length l.length)) w) := by
  have HN := Lib.hid (fun w => refNew_2 w)
  have HB := Lib.hid hb
  have HLM := Lib.hid hb.1.1
  have BEL := Lib.hid (((Below.refl w.heap.size w).alloc (Nat.le_refl _) (.cells (natsV .u8 (zeros 48)).toArray 27)).alloc (by simp) (.cells (natsV .u8 (zeros 48)).toArray 27))
  have BR := Lib.hid (Blk.new2 w (.cells (natsV .u8 (zeros 48)).toArray 27) 27 (natsV .u8 (zeros 48)))
  have BQ := Lib.hid ((Blk.new w 27 (natsV .u8 (zeros 48))).alloc (.cells (natsV .u8 (zeros 48)).toArray 27))
  have HWR := Lib.hid (fun (g : Nat) (w1 : World) (h : RefAt w1 g (g + 1) 2 (firstN 2) 0 []) (hbl : Below w.heap.size w w1) => refWrite_fits g (g + 1) 2 0 (firstN 2) [] a m c l w1 h (hb.below hbl) (by simp; omega) (by simp) (by simp; omega))
  have HSM := Lib.hid (fun (g : Nat) (w1 : World) (h : RefAt w1 g (g + 1) 2 (firstN 2) 0 ([] ++ l)) => refSum_2 g (g + 1) 0 (firstN 2) ([] ++ l) w1 h (by have := hb.1.1; simp; omega) (by have := hb.1.1; simp; omega))
  have HDL := Lib.hid (show (docD 2 l (padR2 l.length l.length)).length = 48 from docD_length 2 _ _)
  have HDD := Lib.hid (show (beW (wB 2) (goes 64 (firstN 2) (([] ++ l) ++ padR2 ([] ++ l : List Nat).length (0 + ([] ++ l : List Nat).length))).1).take 48 = docD 2 l (padR2 l.length l.length) from by simp only [List.nil_append, Nat.zero_add]; rfl)
  generalize docD 2 l (padR2 l.length l.length) = D at *
  clear hb
  go_enter Tryd.func16, Tryd.ntmps16
  go_wp2_with fail
  refine (HN.out _).mono ?_
  rintro e w1 ⟨g, rfl, hg, hat, hb1⟩
  have hbel1 := BEL.out.trans (hb1.mono BEL.out.size)
  have BR1 := Lib.hid (BR.out.below' hb1)
  have BQ1 := Lib.hid (BQ.out.below' hb1)
  go_wp2_with fail
  refine (HWR.out g w1 hat hbel1).mono ?_
  rintro e w2 ⟨rfl, hat2, hb2⟩
  have hgs : w.heap.size + 1 + 1 ≤ g := by have := hg; simp at this; omega
  have hbel2 := hbel1.trans (hb2.mono (by omega))
  have BR2 := Lib.hid (BR1.out.below hb2 (by omega))
  have BQ2 := Lib.hid (BQ1.out.below hb2 (by omega))
  clear HWR HN BR BR1 BQ BQ1 hat
  go_wp2_with fail
  have HS2 := Lib.hid (HSM.out g w2.drew (by
    obtain ⟨q1, q2, q3, q4, q5, q6, q7⟩ := hat2
    exact ⟨q1, q2, q3, q4, q5, q6, q7⟩))
  rw [HDD.out] at HS2
  have HCALL := Lib.hid (show Calls Tryd.prog 30 #[.pointer (some ⟨g, 0, none⟩)] w2.drew (fun e w3 => ∃ G cap, e = .returned (.slice (some ⟨G, 0, none⟩) 48 cap) ∧ Blk w3 (w.heap.size + 1) 27 (natsV .u8 (zeros 48)) ∧ Blk w3 w.heap.size 27 (natsV .u8 (zeros 48)) ∧ Below w.heap.size w w3 ∧
      (0 < (natsV .u8 D).length → some (⟨w.heap.size + 1, 0, none⟩ : Addr) = some ⟨w.heap.size + 1, 0, none⟩ ∧ ∃ ad, some (⟨G, 0, none⟩ : Addr) = some ad ∧ ∀ j v, (natsV .u8 D)[j]? = some v → w3.cell? (ad.add j) = some v)) from
    HS2.out.mono fun e w3 h => by
      obtain ⟨v, he, ho, hb3⟩ := h
      rw [HDL.out] at ho
      obtain ⟨G, cap, rfl, hc1, hc2, hG⟩ := own_form ho (by decide)
      have hb3' : Below w2.heap.size w2 w3 := ⟨hb3.os, hb3.tape, hb3.output, hb3.size, hb3.block⟩
      exact ⟨G, cap, he, BR2.out.below' hb3', BQ2.out.below' hb3', hbel2.trans (hb3'.mono hbel2.size), fun _ => ⟨rfl, _, rfl, fun j v h => by have := own_range ho j v h; rcases j with _ | j <;> simpa [Addr.add] using this⟩⟩)
  have HLN := Lib.hid (show (natsV .u8 D).length = Nat.min 48 48 from by rw [natsV_length, HDL.out]; rfl)
  have HFIT := Lib.hid (show 0 + (natsV .u8 D).length ≤ (natsV .u8 (zeros 48)).length from by rw [natsV_length, natsV_length, HDL.out]; decide)
  have HONE := Lib.hid (show ∀ v ∈ natsV .u8 D, v.oneCell' = true from fun v hv => natsV_one .u8 D v hv)
  have HI5 := Lib.hid (show (Tryd.prog.info? 5).map (·.size) = some 1 from by kernel_rfl)
  have HSPL := Lib.hid (show splice (natsV .u8 (zeros 48)) 0 (natsV .u8 D) = natsV .u8 D from by
    unfold splice
    rw [List.take_zero, List.nil_append, List.drop_eq_nil_of_le (by rw [natsV_length, natsV_length, HDL.out]; decide), List.append_nil])
  clear HDD HSM hat2 hb1 hg HS2
  go_region_law (first | (refine step_copy_splice rfl (.tmp 13) (.tmp 15) 22 22 rfl 5 Tryd.underlying22 HI5.out (some ⟨w.heap.size + 1, 0, none⟩) (some ⟨G, 0, none⟩) 48 48 48 cap rfl rfl (w.heap.size + 1) 0 (natsV .u8 (zeros 48)) 27 hB3 (natsV .u8 D) HLN.out hpos HFIT.out HONE.out (w.heap.size + 1) w3 (Below.refl _ _) (Nat.le_refl _) ?_; intro w4 hg4 hb4) | (go_simp; go_at_call 30; refine HCALL.out.mono ?_; rintro e w3 ⟨G, cap, rfl, hB3, hQ3, hbel3, hpos⟩))
  all_goals
    have B4 := Lib.hid (show Blk w4 (w.heap.size + 1) 27 (natsV .u8 D) from by have := hg4.out; rw [HSPL.out] at this; exact this)
    have Q4 := Lib.hid (show Blk w4 w.heap.size 27 (natsV .u8 (zeros 48)) from hQ3.below hb4 (Nat.lt_succ_self _))
    have hbel4 := hbel3.trans (hb4.mono (Nat.le_succ _))
    have HR4 := Lib.hid (show w4.rangeAt (w.heap.size + 1) 0 (natsV .u8 D) from fun j v h => by rw [Nat.zero_add, B4.out.cell]; exact h)
    have HLs := Lib.hid (show (Tryd.prog.info? 27).map (·.size) = some (natsV .u8 D).length from by rw [info27s, natsV_length, HDL.out])
    have HLt := Lib.hid (show (Tryd.prog.info? 27).map (·.size) = some (natsV .u8 D).toArray.size from by rw [info27s, size_nats, HDL.out])
    have HLu := Lib.hid (show (natsV .u8 (zeros 48)).toArray.size = (natsV .u8 D).toArray.size from by rw [size_nats, size_nats, HDL.out]; rfl)
    clear hg4 hb4 hpos hB3 hQ3 HLN HFIT HONE HSPL HCALL BR2 BQ2
    go_wp2_with (first | (refine wpList_load_mid rfl 27 (.tmp 3) rfl (w.heap.size + 1) 0 rfl (natsV .u8 D) _ HR4.out Tryd.underlying27 rfl HLs.out ?_) | (refine wpList_store_row rfl 27 (.tmp 2) (.tmp 17) rfl w.heap.size (natsV .u8 D).toArray rfl rfl 27 (natsV .u8 (zeros 48)).toArray Q4.out HLt.out HLu.out (all_nats _ _) ?_))
    have j2 := Q4.out.setRow (natsV .u8 D)
    have hb5 := below_setRow' hbel4 (Nat.le_refl _) (natsV .u8 D).toArray
    refine bodyPost_ret (v := .agg (natsV .u8 D).toArray) ?_ rfl ⟨rfl, hb5⟩
    exact results_cell_row Tryd.results16 _ _ w.heap.size 27 _ (0, 0) _ rfl j2 Tryd.underlying27 rfl HLt.out


set_option maxRecDepth 100000 in
set_option maxHeartbeats 1600000 in
theorem refSum512_any (a : Option Addr) (m c : Nat) (l : List Nat) (w : World) (hb : BIn w a m c l) (hm : m + 300 ≤ 140737488355328) :
    Calls Tryd.prog 17 #[.slice a m c] w (BytesIs (docD 3 l (padR3 l.length l.length)) w) := by
  have HN := Lib.hid (fun w => refNew_3 w)
  have HB := Lib.hid hb
  have HLM := Lib.hid hb.1.1
  have BEL := Lib.hid (((Below.refl w.heap.size w).alloc (Nat.le_refl _) (.cells (natsV .u8 (zeros 64)).toArray 29)).alloc (by simp) (.cells (natsV .u8 (zeros 64)).toArray 29))
  have BR := Lib.hid (Blk.new2 w (.cells (natsV .u8 (zeros 64)).toArray 29) 29 (natsV .u8 (zeros 64)))
  have BQ := Lib.hid ((Blk.new w 29 (natsV .u8 (zeros 64))).alloc (.cells (natsV .u8 (zeros 64)).toArray 29))
  have HWR := Lib.hid (fun (g : Nat) (w1 : World) (h : RefAt w1 g (g + 1) 3 (firstN 3) 0 []) (hbl : Below w.heap.size w w1) => refWrite_fits g (g + 1) 3 0 (firstN 3) [] a m c l w1 h (hb.below hbl) (by simp; omega) (by simp) (by simp; omega))
  have HSM := Lib.hid (fun (g : Nat) (w1 : World) (h : RefAt w1 g (g + 1) 3 (firstN 3) 0 ([] ++ l)) => refSum_3 g (g + 1) 0 (firstN 3) ([] ++ l) w1 h (by have := hb.1.1; simp; omega) (by have := hb.1.1; simp; omega))
  have HDL := Lib.hid (show (docD 3 l (padR3 l.length l.length)).length = 64 from docD_length 3 _ _)
  have HDD := Lib.hid (show (beW (wB 3) (goes 64 (firstN 3) (([] ++ l) ++ padR3 ([] ++ l : List Nat).length (0 + ([] ++ l : List Nat).length))).1).take 64 = docD 3 l (padR3 l.length l.length) from by simp only [List.nil_append, Nat.zero_add]; rfl)
  generalize docD 3 l (padR3 l.length l.length) = D at *
  clear hb
  go_enter Tryd.func17, Tryd.ntmps17
  go_wp2_with fail
  refine (HN.out _).mono ?_
  rintro e w1 ⟨g, rfl, hg, hat, hb1⟩
  have hbel1 := BEL.out.trans (hb1.mono BEL.out.size)
  have BR1 := Lib.hid (BR.out.below' hb1)
  have BQ1 := Lib.hid (BQ.out.below' hb1)
  go_wp2_with fail
  refine (HWR.out g w1 hat hbel1).mono ?_
  rintro e w2 ⟨rfl, hat2, hb2⟩
  have hgs : w.heap.size + 1 + 1 ≤ g := by have := hg; simp at this; omega
  have hbel2 := hbel1.trans (hb2.mono (by omega))
  have BR2 := Lib.hid (BR1.out.below hb2 (by omega))
  have BQ2 := Lib.hid (BQ1.out.below hb2 (by omega))
  clear HWR HN BR BR1 BQ BQ1 hat
  go_wp2_with fail
  have HS2 := Lib.hid (HSM.out g w2.drew (by
    obtain ⟨q1, q2, q3, q4, q5, q6, q7⟩ := hat2
    exact ⟨q1, q2, q3, q4, q5, q6, q7⟩))
  rw [HDD.out] at HS2
  have HCALL := Lib.hid (show Calls Tryd.prog 30 #[.pointer (some ⟨g, 0, none⟩)] w2.drew (fun e w3 => ∃ G cap, e = .returned (.slice (some ⟨G, 0, none⟩) 64 cap) ∧ Blk w3 (w.heap.size + 1) 29 (natsV .u8 (zeros 64)) ∧ Blk w3 w.heap.size 29 (natsV .u8 (zeros 64)) ∧ Below w.heap.size w w3 ∧
      (0 < (natsV .u8 D).length → some (⟨w.heap.size + 1, 0, none⟩ : Addr) = some ⟨w.heap.size + 1, 0, none⟩ ∧ ∃ ad, some (⟨G, 0, none⟩ : Addr) = some ad ∧ ∀ j v, (natsV .u8 D)[j]? = some v → w3.cell? (ad.add j) = some v)) from
    HS2.out.mono fun e w3 h => by
      obtain ⟨v, he, ho, hb3⟩ := h
      rw [HDL.out] at ho
      obtain ⟨G, cap, rfl, hc1, hc2, hG⟩ := own_form ho (by decide)
      have hb3' : Below w2.heap.size w2 w3 := ⟨hb3.os, hb3.tape, hb3.output, hb3.size, hb3.block⟩
      exact ⟨G, cap, he, BR2.out.below' hb3', BQ2.out.below' hb3', hbel2.trans (hb3'.mono hbel2.size), fun _ => ⟨rfl, _, rfl, fun j v h => by have := own_range ho j v h; rcases j with _ | j <;> simpa [Addr.add] using this⟩⟩)
  have HLN := Lib.hid (show (natsV .u8 D).length = Nat.min 64 64 from by rw [natsV_length, HDL.out]; rfl)
  have HFIT := Lib.hid (show 0 + (natsV .u8 D).length ≤ (natsV .u8 (zeros 64)).length from by rw [natsV_length, natsV_length, HDL.out]; decide)
  have HONE := Lib.hid (show ∀ v ∈ natsV .u8 D, v.oneCell' = true from fun v hv => natsV_one .u8 D v hv)
  have HI5 := Lib.hid (show (Tryd.prog.info? 5).map (·.size) = some 1 from by kernel_rfl)
  have HSPL := Lib.hid (show splice (natsV .u8 (zeros 64)) 0 (natsV .u8 D) = natsV .u8 D from by
    unfold splice
    rw [List.take_zero, List.nil_append, List.drop_eq_nil_of_le (by rw [natsV_length, natsV_length, HDL.out]; decide), List.append_nil])
  clear HDD HSM hat2 hb1 hg HS2
  go_region_law (first | (refine step_copy_splice rfl (.tmp 13) (.tmp 15) 22 22 rfl 5 Tryd.underlying22 HI5.out (some ⟨w.heap.size + 1, 0, none⟩) (some ⟨G, 0, none⟩) 64 64 64 cap rfl rfl (w.heap.size + 1) 0 (natsV .u8 (zeros 64)) 29 hB3 (natsV .u8 D) HLN.out hpos HFIT.out HONE.out (w.heap.size + 1) w3 (Below.refl _ _) (Nat.le_refl _) ?_; intro w4 hg4 hb4) | (go_simp; go_at_call 30; refine HCALL.out.mono ?_; rintro e w3 ⟨G, cap, rfl, hB3, hQ3, hbel3, hpos⟩))
  all_goals
    have B4 := Lib.hid (show Blk w4 (w.heap.size + 1) 29 (natsV .u8 D) from by have := hg4.out; rw [HSPL.out] at this; exact this)
    have Q4 := Lib.hid (show Blk w4 w.heap.size 29 (natsV .u8 (zeros 64)) from hQ3.below hb4 (Nat.lt_succ_self _))
    have hbel4 := hbel3.trans (hb4.mono (Nat.le_succ _))
    have HR4 := Lib.hid (show w4.rangeAt (w.heap.size + 1) 0 (natsV .u8 D) from fun j v h => by rw [Nat.zero_add, B4.out.cell]; exact h)
    have HLs := Lib.hid (show (Tryd.prog.info? 29).map (·.size) = some (natsV .u8 D).length from by rw [info29s, natsV_length, HDL.out])
    have HLt := Lib.hid (show (Tryd.prog.info? 29).map (·.size) = some (natsV .u8 D).toArray.size from by rw [info29s, size_nats, HDL.out])
    have HLu := Lib.hid (show (natsV .u8 (zeros 64)).toArray.size = (natsV .u8 D).toArray.size from by rw [size_nats, size_nats, HDL.out]; rfl)
    clear hg4 hb4 hpos hB3 hQ3 HLN HFIT HONE HSPL HCALL BR2 BQ2
    go_wp2_with (first | (refine wpList_load_mid rfl 29 (.tmp 3) rfl (w.heap.size + 1) 0 rfl (natsV .u8 D) _ HR4.out Tryd.underlying29 rfl HLs.out ?_) | (refine wpList_store_row rfl 29 (.tmp 2) (.tmp 17) rfl w.heap.size (natsV .u8 D).toArray rfl rfl 29 (natsV .u8 (zeros 64)).toArray Q4.out HLt.out HLu.out (all_nats _ _) ?_))
    have j2 := Q4.out.setRow (natsV .u8 D)
    have hb5 := below_setRow' hbel4 (Nat.le_refl _) (natsV .u8 D).toArray
    refine bodyPost_ret (v := .agg (natsV .u8 D).toArray) ?_ rfl ⟨rfl, hb5⟩
    exact results_cell_row Tryd.results17 _ _ w.heap.size 29 _ (0, 0) _ rfl j2 Tryd.underlying29 rfl HLt.out

end Go.Proofs.YtnikhnpigopihaaDoor
