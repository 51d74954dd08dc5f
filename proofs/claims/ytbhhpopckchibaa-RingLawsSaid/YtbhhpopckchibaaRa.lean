/- Any polynomial is reduced; a plain one is one that is its own rest. Condition: the coefficients are 32-bit numbers. -/
import Derived.Test.YtbhhpopckchibaaPo
import Derived.Test.YtbhhpopckchibaaSe
namespace Go.Proofs.Ytbhhpopckchibaa
open Go.RowKit
set_option linter.unusedVariables false
set_option linter.unusedSimpArgs false
/-- a polynomial that came in -/
def IsP (l : List Int) : Prop := l.length = 256 ∧ ∀ i, i < 256 → -2147483648 ≤ l.getD i 0 ∧ l.getD i 0 ≤ 2147483647
/-- its rests -/
def rdF (l : List Int) (i : Nat) : FQ := fz (l.getD i 0)
def pln (l : List Int) : Bool := (List.range 256).all fun i => decide (0 ≤ l.getD i 0 ∧ l.getD i 0 < 8380417)
theorem pln_iff (l : List Int) : pln l = true ↔ ∀ i, i < 256 → 0 ≤ l.getD i 0 ∧ l.getD i 0 < 8380417 := by
  unfold pln
  rw [List.all_eq_true]
  exact ⟨fun h i hi => of_decide_eq_true (h i (List.mem_range.2 hi)), fun h i hi => decide_eq_true (h i (List.mem_range.1 hi))⟩
theorem pln_no {l : List Int} (i : Nat) (hi : i < 256) (h : ¬ (0 ≤ l.getD i 0 ∧ l.getD i 0 < 8380417)) : pln l = false := by
  cases hp : pln l with
  | false => rfl
  | true => exact absurd ((pln_iff l).1 hp i hi) h
theorem pln_PL (f : Nat → FQ) : pln (PL f) = true := (pln_iff _).2 fun i hi => by rw [PL_get f i hi]; exact fq_bd (f i)
theorem rd_pln {l : List Int} (hl : l.length = 256) : pln l = true ↔ PL (rdF l) = l := by
  constructor
  · intro h
    have h2 := (pln_iff l).1 h
    conv => rhs; rw [← tellI_self l, hl]
    refine tellI_congr fun i hi => ?_
    unfold rdF; rw [fz_val]
    exact Int.emod_eq_of_lt (h2 i hi).1 (h2 i hi).2
  · intro h
    rw [← h]; exact pln_PL _
theorem IsP_PL (f : Nat → FQ) : IsP (PL f) := ⟨PL_length f, fun i hi => by rw [PL_get f i hi]; have := fq_bd (f i); omega⟩
theorem rdF_PL (f : Nat → FQ) : Sm (rdF (PL f)) f := fun i hi => by unfold rdF; rw [PL_get f i hi, fz_nat]
def rdI (l : List Int) (t : Nat) : List Int := tellI (fun j => if j < t then ((rdF l j).val : Int) else l.getD j 0) 256
theorem rdI_len (l : List Int) (t : Nat) : (rdI l t).length = 256 := tellI_length _ _
theorem rdI_zero {l : List Int} (h : l.length = 256) : rdI l 0 = l := tellI_none _ l 256 h
theorem rdI_all (l : List Int) : rdI l 256 = PL (rdF l) := tellI_all _ _ 256
theorem rdI_succ (l : List Int) (t : Nat) : (rdI l t).set t ((rdF l t).val : Int) = rdI l (t + 1) := tellI_fill (fun j => ((rdF l j).val : Int)) _ 256 t
/-- a polynomial that is filled place by place -/
def flI (f : Nat → FQ) (t : Nat) : List Int := tellI (fun j => if j < t then ((f j).val : Int) else 0) 256
theorem flI_len (f : Nat → FQ) (t : Nat) : (flI f t).length = 256 := tellI_length _ _
theorem flI_zero (f : Nat → FQ) : flI f 0 = zerI := by
  unfold flI
  conv => rhs; rw [← tellI_self zerI, zerI_length]
  exact tellI_congr fun i _ => by rw [if_neg (by omega), zerI_get]
theorem flI_all (f : Nat → FQ) : flI f 256 = PL f := tellI_all _ _ 256
theorem flI_succ (f : Nat → FQ) (t : Nat) : (flI f t).set t ((f t).val : Int) = flI f (t + 1) := tellI_fill (fun j => ((f j).val : Int)) _ 256 t
theorem rdF_val (l : List Int) (t : Nat) : ((rdF l t).val : Int) = l.getD t 0 % 8380417 := fz_val _
set_option maxRecDepth 100000 in
set_option maxHeartbeats 4000000 in
theorem Reduce_any (l : List Int) (hl : IsP l) (w : World) : Calls Try.prog 14 #[.agg (iv l).toArray] w fun e w' => e = .returned (.agg (iv (PL (rdF l))).toArray) ∧ Below w.heap.size w w' := by
  obtain ⟨hlen, hbd⟩ := hl
  have LL := Lib.hid hlen
  have HBD := Lib.hid hbd
  have B1 := Lib.hid ((Blk.new w 23 (iv l)).alloc (.cells (iv zerI).toArray 23))
  have B2 := Lib.hid (Blk.new2 w (.cells (iv l).toArray 23) 23 (iv zerI))
  have BEL := Lib.hid (((Below.refl w.heap.size w).alloc (Nat.le_refl _) (.cells (iv l).toArray 23)).alloc (by simp) (.cells (iv zerI).toArray 23))
  clear hlen hbd
  have z23 := zero23
  go_enter Try.func14, Try.ntmps14
  go_wp2_with (first | (refine wpList_load_row rfl 23 (.tmp 1) rfl w.heap.size rfl 23 (iv l).toArray (0, 0) _ B1.out Try.underlying23 rfl (j23 LL.out) ?_))
  clear z23
  go_loopw [6] (fun c wr => ∃ t : Nat, t ≤ 256 ∧ c = .int .i64 t ∧ Blk wr w.heap.size 23 (iv (rdI l t)) ∧ Blk wr (w.heap.size + 1) 23 (iv zerI) ∧ Below w.heap.size w wr) (fun c _ => 256 - (intOf c).toNat)
  case atStart => exact ⟨0, by omega, rfl, by rw [rdI_zero LL.out]; exact B1.out, B2.out, BEL.out⟩
  case round =>
    clear B1 B2 BEL
    obtain ⟨t, ht, rfl, k1, k2, hbel⟩ := hrel
    have K1 := Lib.hid k1
    have K2 := Lib.hid k2
    clear k1 k2
    by_cases h5 : t < 256
    · have hx := fun w => index23 w l t h5 LL.out
      obtain ⟨hb1, hb2⟩ := HBD.out t h5
      have HM := Lib.hid (fun w => modQ_any (l.getD t 0) w (by omega) (by omega))
      have HR := Lib.hid (rdF_val l t)
      have hc := K1.out.iv t (by rw [rdI_len]; exact h5)
      have hf := K1.out.free t
      have HV := Lib.hid (rdI_succ l t)
      have i1 : (t : Int) < 256 := by omega
      rw [← HR.out] at HM
      generalize l.getD t 0 = x at *
      generalize rdF l t = y at *
      clear HR
      go_wp2_with (first | (go_at_call 39; refine (HM.out _).mono ?_; rintro e w' ⟨rfl, rfl⟩))
      have k1 := K1.out.ivSet t (y.val : Int)
      rw [HV.out] at k1
      have k2 := K2.out.other ⟨w.heap.size, t, none⟩ (.int .i32 (y.val : Int)) (by simp)
      have hb2 := hbel.setCell (p := ⟨w.heap.size, t, none⟩) (by simp) (.int .i32 (y.val : Int))
      go_roundw
      case rel => exact ⟨t + 1, by omega, by go_num, k1, k2, hb2⟩
      case measure => simp [intOf]; omega
    · obtain rfl : t = 256 := by omega
      rw [rdI_all] at K1
      have HL := Lib.hid (PL_length (rdF l))
      obtain ⟨m, hm⟩ : ∃ m, PL (rdF l) = m := ⟨_, rfl⟩
      rw [hm] at K1 HL
      have HMQ := Lib.hid hm
      clear hm
      go_wp2_with (first | (refine wpList_load_row rfl 23 (.tmp 1) rfl w.heap.size rfl 23 (iv m).toArray (0, 0) _ K1.out Try.underlying23 rfl (j23 HL.out) ?_) | (refine wpList_store_row rfl 23 (.tmp 2) (.tmp 16) rfl (w.heap.size + 1) (iv m).toArray rfl rfl 23 (iv zerI).toArray K2.out (j23 HL.out) (by rw [iv_size, iv_size, HL.out, zerI_length]) (iv_all _) ?_))
      have j2 := K2.out.setRow (iv m)
      have hb2 := below_setRow' hbel (show w.heap.size ≤ w.heap.size + 1 by omega) (iv m).toArray
      refine bodyPost_ret (v := .agg (iv m).toArray) ?_ rfl ⟨by rw [HMQ.out], hb2⟩
      exact results_cell_row Try.results14 _ _ (w.heap.size + 1) 23 _ (0, 0) _ rfl j2 Try.underlying23 rfl (j23 HL.out)
set_option maxRecDepth 100000 in
set_option maxHeartbeats 4000000 in
theorem dReduce_any (l : List Int) (hl : IsP l) (w : World) : Calls Try.prog 16 #[.agg (iv l).toArray] w fun e w' => e = .returned (.agg (iv (PL (rdF l))).toArray) ∧ Below w.heap.size w w' := by
  obtain ⟨hlen, hbd⟩ := hl
  have LL := Lib.hid hlen
  have HBD := Lib.hid hbd
  have B1 := Lib.hid (((Blk.new w 23 (iv l)).alloc (.cells (iv zerI).toArray 23)).alloc (.cells (iv zerI).toArray 23))
  have B2 := Lib.hid ((Blk.new2 w (.cells (iv l).toArray 23) 23 (iv zerI)).alloc (.cells (iv zerI).toArray 23))
  have B3 := Lib.hid (Blk.new3 w (.cells (iv l).toArray 23) (.cells (iv zerI).toArray 23) 23 (iv zerI))
  have BEL := Lib.hid ((((Below.refl w.heap.size w).alloc (Nat.le_refl _) (.cells (iv l).toArray 23)).alloc (by simp) (.cells (iv zerI).toArray 23)).alloc (by simp; omega) (.cells (iv zerI).toArray 23))
  clear hlen hbd
  have z23 := zero23
  go_enter Try.func16, Try.ntmps16
  go_wp2_with fail
  clear z23
  go_loopw [4] (fun c wr => ∃ t : Nat, t ≤ 256 ∧ c = .int .i64 t ∧ Blk wr w.heap.size 23 (iv l) ∧ Blk wr (w.heap.size + 1) 23 (iv zerI) ∧ Blk wr (w.heap.size + 1 + 1) 23 (iv (flI (rdF l) t)) ∧ Below w.heap.size w wr) (fun c _ => 256 - (intOf c).toNat)
  case atStart => exact ⟨0, by omega, rfl, B1.out, B2.out, by rw [flI_zero]; exact B3.out, BEL.out⟩
  case round =>
    clear B1 B2 B3 BEL
    obtain ⟨t, ht, rfl, k1, k2, k3, hbel⟩ := hrel
    have K1 := Lib.hid k1
    have K2 := Lib.hid k2
    have K3 := Lib.hid k3
    clear k1 k2 k3
    by_cases h5 : t < 256
    · have hx := K1.out.iv t (by rw [LL.out]; exact h5)
      obtain ⟨hb1, hb2⟩ := HBD.out t h5
      have HM := Lib.hid (fun w => Mod_any (l.getD t 0) w (by omega) (by omega))
      have HR := Lib.hid (rdF_val l t)
      have hc := K3.out.iv t (by rw [flI_len]; exact h5)
      have hf := K3.out.free t
      have HV := Lib.hid (flI_succ (rdF l) t)
      have i1 : (t : Int) < 256 := by omega
      rw [← HR.out] at HM
      generalize l.getD t 0 = x at *
      generalize rdF l t = y at *
      clear HR
      go_wp2_with (first | (go_at_call 31; refine (HM.out _).mono ?_; rintro e w' ⟨rfl, rfl⟩))
      have k3 := K3.out.ivSet t (y.val : Int)
      rw [HV.out] at k3
      have k1 := K1.out.other ⟨w.heap.size + 1 + 1, t, none⟩ (.int .i32 (y.val : Int)) (by simp; omega)
      have k2 := K2.out.other ⟨w.heap.size + 1 + 1, t, none⟩ (.int .i32 (y.val : Int)) (by simp)
      have hb2 := hbel.setCell (p := ⟨w.heap.size + 1 + 1, t, none⟩) (by simp; omega) (.int .i32 (y.val : Int))
      go_roundw
      case rel => exact ⟨t + 1, by omega, by go_num, k1, k2, k3, hb2⟩
      case measure => simp [intOf]; omega
    · obtain rfl : t = 256 := by omega
      rw [flI_all] at K3
      have HL := Lib.hid (PL_length (rdF l))
      obtain ⟨m, hm⟩ : ∃ m, PL (rdF l) = m := ⟨_, rfl⟩
      rw [hm] at K3 HL
      have HMQ := Lib.hid hm
      clear hm
      go_wp2_with (first | (refine wpList_load_row rfl 23 (.tmp 3) rfl (w.heap.size + 1 + 1) rfl 23 (iv m).toArray (0, 0) _ K3.out Try.underlying23 rfl (j23 HL.out) ?_) | (refine wpList_store_row rfl 23 (.tmp 2) (.tmp 16) rfl (w.heap.size + 1) (iv m).toArray rfl rfl 23 (iv zerI).toArray K2.out (j23 HL.out) (by rw [iv_size, iv_size, HL.out, zerI_length]) (iv_all _) ?_))
      have j2 := K2.out.setRow (iv m)
      have hb2 := below_setRow' hbel (show w.heap.size ≤ w.heap.size + 1 by omega) (iv m).toArray
      refine bodyPost_ret (v := .agg (iv m).toArray) ?_ rfl ⟨by rw [HMQ.out], hb2⟩
      exact results_cell_row Try.results16 _ _ (w.heap.size + 1) 23 _ (0, 0) _ rfl j2 Try.underlying23 rfl (j23 HL.out)
set_option maxRecDepth 100000 in
set_option maxHeartbeats 4000000 in
theorem dPlain_any (l : List Int) (hlen : l.length = 256) (w : World) : Calls Try.prog 15 #[.agg (iv l).toArray] w fun e w' => e = .returned (.bool (pln l)) ∧ Below w.heap.size w w' := by
  have LL := Lib.hid hlen
  have HP := Lib.hid (pln_iff l)
  have HN := Lib.hid (@pln_no l)
  have B1 := Lib.hid (Blk.new w 23 (iv l))
  have BEL := Lib.hid ((Below.refl w.heap.size w).alloc (Nat.le_refl _) (.cells (iv l).toArray 23))
  clear hlen
  generalize pln l = b at *
  go_enter Try.func15, Try.ntmps15
  go_wp2_with fail
  go_loop [3] (fun c => ∃ t : Nat, t ≤ 256 ∧ c = .int .i64 t ∧ ∀ i, i < t → 0 ≤ l.getD i 0 ∧ l.getD i 0 < 8380417) (fun c => 256 - (intOf c).toNat)
  case atStart => exact ⟨0, by omega, rfl, fun i hi => absurd hi (Nat.not_lt_zero i)⟩
  case round =>
    obtain ⟨t, ht, rfl, hall⟩ := hrel
    have HA := Lib.hid hall
    clear hall
    by_cases h5 : t < 256
    · have hx := B1.out.iv t (by rw [LL.out]; exact h5)
      have i1 : (t : Int) < 256 := by omega
      have HNT := Lib.hid (HN.out t h5)
      have HSU := Lib.hid (fun (hx : 0 ≤ l.getD t 0 ∧ l.getD t 0 < 8380417) => show ∀ i, i < t + 1 → 0 ≤ l.getD i 0 ∧ l.getD i 0 < 8380417 from fun i hi => by
        by_cases e : i = t
        · subst e; exact hx
        · exact HA.out i (by omega))
      generalize hgx : l.getD t 0 = x at *
      clear hgx
      by_cases c1 : x < 0
      · go_wp2_with fail
        go_ret
        exact ⟨by rw [HNT.out (by omega)]; rfl, BEL.out⟩
      · by_cases c2 : 8380417 ≤ x
        · go_wp2_with fail
          go_ret
          exact ⟨by rw [HNT.out (by omega)]; rfl, BEL.out⟩
        · go_wp2_with fail
          go_round
          case rel => exact ⟨t + 1, by omega, by go_num, HSU.out (by omega)⟩
          case measure => simp [intOf]; omega
    · obtain rfl : t = 256 := by omega
      go_wp2_with fail
      go_ret
      exact ⟨by rw [HP.out.2 HA.out]; rfl, BEL.out⟩
end Go.Proofs.Ytbhhpopckchibaa
