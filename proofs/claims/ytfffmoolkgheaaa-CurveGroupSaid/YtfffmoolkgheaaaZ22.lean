/- Parts of proofs of statements, each text behind those that it stands on. No condition of its own. -/
import Derived.Test.YtfffmoolkgheaaaZ16
namespace Go.Proofs.Ytfffmoolkgheaaa
open Go.RowKit
set_option linter.unusedVariables false
set_option linter.unusedSimpArgs false
theorem lit_B : (.agg #[.int .u64 4309448131093880907, .int .u64 7285987128567378166, .int .u64 12964664127075681980, .int .u64 6540974713487397863] : Value) = .agg (natsV .u64 (nw bP)).toArray := by
  rw [show nw bP = [4309448131093880907, 7285987128567378166, 12964664127075681980, 6540974713487397863] by decide +kernel]; rfl
def lGX : List Nat := [17627433388654248598, 8575836109218198432, 17923454489921339634, 7716867327612699207]
theorem lGX_eq : nw gX = lGX := by decide +kernel
def lGY : List Nat := [14678990851816772085, 3156516839386865358, 10297457778147434006, 5756518291402817435]
theorem lGY_eq : nw gY = lGY := by decide +kernel
def lB : List Nat := [4309448131093880907, 7285987128567378166, 12964664127075681980, 6540974713487397863]
theorem lB_eq : nw bP = lB := by decide +kernel
set_option maxRecDepth 100000 in
set_option maxHeartbeats 800000 in
theorem dB_any (w : World) :
    Calls Try.prog 105 #[] w fun e w' => e = .returned (.agg (natsV .u64 (nw bP)).toArray) ∧ Below w.heap.size w w' := by
  rw [lB_eq]
  have B0_ := Lib.hid (Blk.new w  24 (natsV .u64 (zeros 4)))
  have bel_ := ((Below.refl w.heap.size w).alloc (Nat.le_refl _) (.cells (natsV .u64 (zeros 4)).toArray 24))
  go_enter Try.func105, Try.ntmps105
  go_wp2_with (first | (refine stB rfl 24 (.tmp 0) (.tmp 1) rfl w.heap.size rfl (natsV .u64 lB) rfl 24 (natsV .u64 (zeros 4)) B0_.out (i24 (show (lB).length = 4 from rfl)) (lenEq (show (natsV .u64 (zeros 4)).length = 4 from rfl) (by rw [natsV_length, (show (lB).length = 4 from rfl)])) (natsV_one _ _) ?_))
  refine bodyPost_ret (v := .agg (natsV .u64 lB).toArray) ?_ rfl ⟨rfl, below_setRow' bel_ (by first | exact Nat.le_refl _ | omega) _⟩
  exact results_cell_row Try.results105 _ _ w.heap.size 24 _ (0, 0) _ rfl (B0_.out.setRow _) Try.underlying24 rfl (by simpa using (i24 (show (lB).length = 4 from rfl)))
set_option maxRecDepth 100000 in
set_option maxHeartbeats 800000 in
theorem base_any (w : World) :
    Calls Try.prog 30 #[] w fun e w' => e = .returned (.agg (pv (nw gX) (nw gY) false).toArray) ∧ Below w.heap.size w w' := by
  rw [lGX_eq, lGY_eq]
  have B0_ := Lib.hid (Blk.new w  43 (pv (zeros 4) (zeros 4) false))
  have bel_ := ((Below.refl w.heap.size w).alloc (Nat.le_refl _) (.cells (pv (zeros 4) (zeros 4) false).toArray 43))
  go_enter Try.func30, Try.ntmps30
  go_wp2_with (first | (refine stB rfl 43 (.tmp 0) (.tmp 3) rfl w.heap.size rfl (pv lGX lGY false) rfl 43 (pv (zeros 4) (zeros 4) false) B0_.out (i43 (show lGX.length = 4 from rfl) (show lGY.length = 4 from rfl)) (lenEq (show (pv (zeros 4) (zeros 4) false).length = 9 from rfl) (pv_len (show lGX.length = 4 from rfl) (show lGY.length = 4 from rfl))) (pv_one _ _ _) ?_))
  refine bodyPost_ret (v := .agg (pv lGX lGY false).toArray) ?_ rfl ⟨rfl, below_setRow' bel_ (by first | exact Nat.le_refl _ | omega) _⟩
  exact results_cell_row Try.results30 _ _ w.heap.size 43 _ (0, 0) _ rfl (B0_.out.setRow _) Try.underlying43 rfl (by simpa using (i43 (show lGX.length = 4 from rfl) (show lGY.length = 4 from rfl)))
set_option maxRecDepth 100000 in
set_option maxHeartbeats 800000 in
theorem dbase_any (w : World) :
    Calls Try.prog 31 #[] w fun e w' => e = .returned (.agg (pv (nw gX) (nw gY) false).toArray) ∧ Below w.heap.size w w' := by
  rw [lGX_eq, lGY_eq]
  have B0_ := Lib.hid (Blk.new w  43 (pv (zeros 4) (zeros 4) false))
  have bel_ := ((Below.refl w.heap.size w).alloc (Nat.le_refl _) (.cells (pv (zeros 4) (zeros 4) false).toArray 43))
  go_enter Try.func31, Try.ntmps31
  go_wp2_with (first | (refine stB rfl 43 (.tmp 0) (.tmp 3) rfl w.heap.size rfl (pv lGX lGY false) rfl 43 (pv (zeros 4) (zeros 4) false) B0_.out (i43 (show lGX.length = 4 from rfl) (show lGY.length = 4 from rfl)) (lenEq (show (pv (zeros 4) (zeros 4) false).length = 9 from rfl) (pv_len (show lGX.length = 4 from rfl) (show lGY.length = 4 from rfl))) (pv_one _ _ _) ?_))
  refine bodyPost_ret (v := .agg (pv lGX lGY false).toArray) ?_ rfl ⟨rfl, below_setRow' bel_ (by first | exact Nat.le_refl _ | omega) _⟩
  exact results_cell_row Try.results31 _ _ w.heap.size 43 _ (0, 0) _ rfl (B0_.out.setRow _) Try.underlying43 rfl (by simpa using (i43 (show lGX.length = 4 from rfl) (show lGY.length = 4 from rfl)))
set_option maxRecDepth 100000 in
set_option maxHeartbeats 800000 in
theorem far_any (w : World) :
    Calls Try.prog 43 #[] w fun e w' => e = .returned (.agg (pv (zeros 4) (zeros 4) true).toArray) ∧ Below w.heap.size w w' := by
  have B0_ := Lib.hid (Blk.new w  43 (pv (zeros 4) (zeros 4) false))
  have bel_ := ((Below.refl w.heap.size w).alloc (Nat.le_refl _) (.cells (pv (zeros 4) (zeros 4) false).toArray 43))
  go_enter Try.func43, Try.ntmps43
  go_wp2_with (first | (refine stB rfl 43 (.tmp 0) (.tmp 1) rfl w.heap.size rfl (pv (zeros 4) (zeros 4) true) rfl 43 (pv (zeros 4) (zeros 4) false) B0_.out (i43 rfl rfl) (lenEq (show (pv (zeros 4) (zeros 4) false).length = 9 from rfl) (show (pv (zeros 4) (zeros 4) true).length = 9 from rfl)) (pv_one _ _ _) ?_))
  refine bodyPost_ret (v := .agg (pv (zeros 4) (zeros 4) true).toArray) ?_ rfl ⟨rfl, below_setRow' bel_ (by first | exact Nat.le_refl _ | omega) _⟩
  exact results_cell_row Try.results43 _ _ w.heap.size 43 _ (0, 0) _ rfl (B0_.out.setRow _) Try.underlying43 rfl (by simpa using (i43 rfl rfl))
end Go.Proofs.Ytfffmoolkgheaaa
namespace Go.Proofs.Ytfffmoolkgheaaa
open Go.RowKit
set_option linter.unusedVariables false
set_option linter.unusedSimpArgs false
set_option maxRecDepth 100000 in
set_option maxHeartbeats 1600000 in
theorem allon {l1 m1 l2 m2 : List Nat} {i1 i2 b1 b2 : Bool} (hl1 : l1.length = 4) (hm1 : m1.length = 4) (hl2 : l2.length = 4) (hm2 : m2.length = 4)
    (h1 : ∀ w, Calls Try.prog 29 #[.agg (pv l1 m1 i1).toArray] w fun e w' => e = .returned (.bool b1) ∧ Below w.heap.size w w')
    (h2 : ∀ w, Calls Try.prog 29 #[.agg (pv l2 m2 i2).toArray] w fun e w' => e = .returned (.bool b2) ∧ Below w.heap.size w w')
    (g : Nat) (w : World) (hr1 : w.rangeAt g 0 (pv l1 m1 i1)) (hr2 : w.rangeAt g 9 (pv l2 m2 i2)) :
    Calls Try.prog 80 #[.slice (some ⟨g, 0, none⟩) 2 2] w fun e w' => e = .returned (.bool (b1 && b2)) ∧ Below w.heap.size w w' := by
  have L_l1 := Lib.hid hl1
  have L_m1 := Lib.hid hm1
  have L_l2 := Lib.hid hl2
  have L_m2 := Lib.hid hm2
  have H1 := Lib.hid h1
  have H2 := Lib.hid h2
  have R1 := Lib.hid hr1
  have R2 := Lib.hid hr2
  clear hl1 hm1 hl2 hm2 h1 h2 hr1 hr2
  go_enter Try.func80, Try.ntmps80
  go_wp2_with fail
  go_loopw [7] (fun i wr => ∃ t : Nat, t ≤ 2 ∧ i = .int .i64 t ∧ (0 < t → b1 = true) ∧ (1 < t → b2 = true) ∧ Below w.heap.size w wr) (fun i _ => 2 - (intOf i).toNat)
  case atStart => exact ⟨0, by omega, rfl, fun h => by omega, fun h => by omega, Below.refl _ _⟩
  case round =>
    obtain ⟨t, ht, rfl, k1, k2, hbel⟩ := hrel
    have ht3 : t = 0 ∨ t = 1 ∨ t = 2 := by omega
    clear ht
    rcases ht3 with rfl | rfl | rfl
    · clear k1 k2
      have RR := range_gr R1.out hbel
      go_wp2_with (first | (refine wpList_load_mid rfl 43 (.tmp 9) rfl g 0 rfl (pv l1 m1 i1) _ RR Try.underlying43 rfl (i43 L_l1.out L_m1.out) ?_) | (refine stB rfl 43 (.tmp 4) (.tmp 10) rfl wr.heap.size rfl (pv l1 m1 i1) rfl 43 (pv (zeros 4) (zeros 4) false) (Blk.new wr 43 (pv (zeros 4) (zeros 4) false)) (i43 L_l1.out L_m1.out) (lenEq (show (pv (zeros 4) (zeros 4) false).length = 9 from rfl) (pv_len L_l1.out L_m1.out)) (pv_one _ _ _) ?_; generalize hW : World.setRow _ _ _ = wq; obtain ⟨hg1, hn1⟩ := newfacts hW; clear hW; have D1 := Lib.hid hn1; have hbel2 := hbel.trans (Below.mono hg1 hbel.size); clear hn1 hg1 RR hbel; generalize wr.heap.size = gq at *) | (refine wpList_load_mid rfl 43 (.tmp 4) rfl gq 0 rfl (pv l1 m1 i1) _ (blk_all D1.out) Try.underlying43 rfl (i43 L_l1.out L_m1.out) ?_))
      refine (H1.out _).mono ?_
      rintro e wz ⟨rfl, hbz⟩
      have hbel3 := hbel2.trans (Below.mono hbz hbel2.size)
      clear hbz hbel2 D1
      cases hb : b1
      · go_wp2_with fail
        go_ret
        exact ⟨by rw [hb]; rfl, hbel3⟩
      · have hbh := Lib.hid hb
        clear hb
        go_wp2_with fail
        go_roundw
        case rel => exact ⟨1, by omega, by go_num, fun _ => hbh.out, fun _ => by omega, hbel3⟩
        case measure => simp [intOf] <;> omega
    · have hb1 := Lib.hid (k1 (by omega))
      clear k1 k2
      have RR := range_gr R2.out hbel
      go_wp2_with (first | (refine wpList_load_mid rfl 43 (.tmp 9) rfl g 9 rfl (pv l2 m2 i2) _ RR Try.underlying43 rfl (i43 L_l2.out L_m2.out) ?_) | (refine stB rfl 43 (.tmp 4) (.tmp 10) rfl wr.heap.size rfl (pv l2 m2 i2) rfl 43 (pv (zeros 4) (zeros 4) false) (Blk.new wr 43 (pv (zeros 4) (zeros 4) false)) (i43 L_l2.out L_m2.out) (lenEq (show (pv (zeros 4) (zeros 4) false).length = 9 from rfl) (pv_len L_l2.out L_m2.out)) (pv_one _ _ _) ?_; generalize hW : World.setRow _ _ _ = wq; obtain ⟨hg1, hn1⟩ := newfacts hW; clear hW; have D1 := Lib.hid hn1; have hbel2 := hbel.trans (Below.mono hg1 hbel.size); clear hn1 hg1 RR hbel; generalize wr.heap.size = gq at *) | (refine wpList_load_mid rfl 43 (.tmp 4) rfl gq 0 rfl (pv l2 m2 i2) _ (blk_all D1.out) Try.underlying43 rfl (i43 L_l2.out L_m2.out) ?_))
      refine (H2.out _).mono ?_
      rintro e wz ⟨rfl, hbz⟩
      have hbel3 := hbel2.trans (Below.mono hbz hbel2.size)
      clear hbz hbel2 D1
      cases hb : b2
      · go_wp2_with fail
        go_ret
        exact ⟨by rw [hb1.out, hb]; rfl, hbel3⟩
      · have hbh := Lib.hid hb
        clear hb
        go_wp2_with fail
        go_roundw
        case rel => exact ⟨2, by omega, by go_num, fun _ => hb1.out, fun _ => hbh.out, hbel3⟩
        case measure => simp [intOf] <;> omega
    · have hb1 := Lib.hid (k1 (by omega))
      have hb2 := Lib.hid (k2 (by omega))
      clear k1 k2
      go_wp2_with fail
      go_ret
      exact ⟨by rw [hb1.out, hb2.out]; rfl, hbel⟩
end Go.Proofs.Ytfffmoolkgheaaa
namespace Go.Proofs.Ytfffmoolkgheaaa
open Go.RowKit
set_option linter.unusedVariables false
theorem built2p {a b c d : List Nat} {i j : Bool} (ha : a.length = 4) (hb : b.length = 4) (hc : c.length = 4) (hd : d.length = 4) : Try.prog.builtSlice 43 2 [(0, .agg (pv a b i).toArray), (1, .agg (pv c d j).toArray)] = some (pv a b i ++ pv c d j).toArray := by
  obtain ⟨_, _, _, _, rfl⟩ := four_ol ha; obtain ⟨_, _, _, _, rfl⟩ := four_ol hb
  obtain ⟨_, _, _, _, rfl⟩ := four_ol hc; obtain ⟨_, _, _, _, rfl⟩ := four_ol hd
  kernel_rfl
section
variable {w : World} {ops : Array Oper} {rest : List Oper} {o : Oper} {a : Act} {Q : Exit → Act → World → Prop}
theorem bs2p (hgd : o.guard = none) (x y : Operand) (ho : o.op = .buildSlice 131 2 #[(0, x), (1, y)]) {c d e f : List Nat} {i j : Bool} (hx : a.eval x = .agg (pv c d i).toArray) (hy : a.eval y = .agg (pv e f j).toArray) (hc : c.length = 4) (hd : d.length = 4) (he : e.length = 4) (hf : f.length = 4)
    (h : wpList Try.prog ops Q rest (a.put o.dst (.slice (some ⟨w.heap.size, 0, none⟩) 2 2)) (w.alloc (.cells (pv c d i ++ pv e f j).toArray 43))) : wpList Try.prog ops Q (o :: rest) a w :=
  Great.wpList_buildSliceTo hgd 131 43 2 _ ho _ rfl _ rfl Try.underlying131 _ (by simp only [List.map_toArray, List.map_cons, List.map_nil, hx, hy]; exact built2p hc hd he hf) h
end
theorem two_r {w : World} {g k : Nat} {t : TypeId} {x y : List Value} (h : Blk w g t (x ++ y)) (hk : x.length = k) : w.rangeAt g 0 x ∧ w.rangeAt g k y :=
  ⟨blk_part (a := []) (b := x) (c := y) h rfl, blk_part (a := x) (b := y) (c := []) (by rw [List.append_nil]; exact h) hk⟩
theorem Blk.newAt {W : World} {g : Nat} (t : TypeId) (cs : List Value) (h : W.heap.size = g) : Blk (W.alloc (.cells cs.toArray t)) g t cs := h ▸ Blk.new W t cs
section
variable {P : Program} {ops : Array Oper} {Q : Exit → Act → World → Prop} {md : Region.Mode} {S : World → Prop}
def lstK (n k : Nat) : Array Bool := (List.range k).foldl (fun l i => l.setIfInBounds i true) (Array.replicate n false)
theorem lstK_succ (n k : Nat) : lstK n (k + 1) = (lstK n k).setIfInBounds k true := by unfold lstK; rw [List.range_succ, List.foldl_append]; rfl
def orderOk (md : Region.Mode) (ops : Array Oper) : Bool := (List.range ops.size).all fun k => (Region.ready md ops (lstK ops.size k)).contains k
theorem wpOps_of_any (n : Nat) : ∀ (m k : Nat) (a : Act) (w : World), (∀ j, k ≤ j → j < k + m → j ∈ Region.ready md ops (lstK n j)) → wpAny P md ops Q m (lstK n k) a w → wpOps P ops Q (List.range' k m) a w
  | 0, k, a, w, _, h => h.2
  | m + 1, k, a, w, hr, h => by
    rw [List.range'_succ, wpOps_cons]
    refine wpOp_mono (fun a' w' h' => wpOps_of_any n m (k + 1) a' w' (fun j h1 h2 => hr j (by omega) (by omega)) (by rw [lstK_succ]; exact h')) (h.2 k (hr k (Nat.le_refl _) (by omega)))
theorem wp_region_P {id : Nat} {a : Act} {w : World} (S : World → Prop) (L : Nat) (hm : orderOk .any ops = true) (hS : S w)
    (h : wpAnyG P .any ops Q S L ops.size (Array.replicate ops.size false) a w) : (Code.region id ops false).wp P Q a w := by
  refine wp_region ?_
  rw [List.range_eq_range']
  refine wpOps_of_any (md := .any) ops.size ops.size 0 a w (fun j _ hj => ?_) (wpAny_of_G _ _ _ _ (.inr hS) h)
  have := List.all_eq_true.1 hm j (List.mem_range.2 (by omega))
  simpa using this
end
end Go.Proofs.Ytfffmoolkgheaaa
