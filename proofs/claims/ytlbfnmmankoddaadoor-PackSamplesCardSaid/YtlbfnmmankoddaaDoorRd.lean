/- Any polynomial is reduced; a plain one is its own rest; the numbers of the document and of the project. Condition: the coefficients are 32-bit numbers. -/
import Derived.Test.YtlbfnmmankoddaaDoorZe
import Derived.Test.YtlbfnmmankoddaaDoorPq
namespace Go.Proofs.YtlbfnmmankoddaaDoor
open Go.RowKit
set_option linter.unusedVariables false
set_option linter.unusedSimpArgs false
theorem tmod_bd (x : Int) : -8380417 < x.tmod 8380417 ∧ x.tmod 8380417 < 8380417 := by
  have h := Int.tmod_lt_of_pos x (show (0 : Int) < 8380417 by decide)
  have h2 := Int.tmod_lt_of_pos (-x) (show (0 : Int) < 8380417 by decide)
  rw [Int.neg_tmod] at h2
  omega
theorem tmod_emod (x : Int) : x.tmod 8380417 % 8380417 = x % 8380417 := by
  have h : x.tmod 8380417 = x - 8380417 * x.tdiv 8380417 := Int.tmod_def x 8380417
  rw [h]; generalize x.tdiv 8380417 = q; omega
set_option maxHeartbeats 400000 in
theorem modQ_any (x : Int) (w : World) (h1 : -4611686018427387904 ≤ x) (h2 : x ≤ 4611686018427387904) :
    Calls Tryd.prog 40 #[.int .i64 x] w fun e w' => e = .returned (.int .i32 (x % 8380417)) ∧ w = w' := by
  have hb := tmod_bd x
  have he := Lib.hid (tmod_emod x)
  by_cases hn : x.tmod 8380417 < 0
  · go_enter Tryd.func40, Tryd.ntmps40
    go_wp2_with fail
    go_ret
    exact ⟨ret1 (by have := he.out; omega), rfl⟩
  · go_enter Tryd.func40, Tryd.ntmps40
    go_wp2_with fail
    go_ret
    exact ⟨ret1 (by have := he.out; omega), rfl⟩
/-- a polynomial that came in -/
def IsP (l : List Int) : Prop := l.length = 256 ∧ ∀ i, i < 256 → -2147483648 ≤ l.getD i 0 ∧ l.getD i 0 ≤ 2147483647
/-- its rests -/
def rI (l : List Int) (i : Nat) : Int := l.getD i 0 % 8380417
def rdL (l : List Int) : List Int := tellI (rI l) 256
theorem rdL_len (l : List Int) : (rdL l).length = 256 := tellI_length _ _
/-- plain -/
def pln (l : List Int) : Bool := decide (rdL l = l)
theorem pln_iff {l : List Int} (hl : l.length = 256) : pln l = true ↔ ∀ i, i < 256 → 0 ≤ l.getD i 0 ∧ l.getD i 0 < 8380417 := by
  unfold pln
  rw [decide_eq_true_iff]
  constructor
  · intro h i hi
    have : (rdL l).getD i 0 = rI l i := tellI_get _ _ _ hi
    rw [h] at this
    unfold rI at this
    omega
  · intro h
    conv => rhs; rw [← tellI_self l, hl]
    refine tellI_congr fun i hi => ?_
    unfold rI
    exact Int.emod_eq_of_lt (h i hi).1 (h i hi).2
theorem pln_rd (l : List Int) : pln (rdL l) = true := (pln_iff (rdL_len l)).2 fun i hi => by
  rw [show (rdL l).getD i 0 = rI l i from tellI_get _ _ _ hi]; unfold rI; omega
theorem pln_no {l : List Int} (hl : l.length = 256) (i : Nat) (hi : i < 256) (h : ¬ (0 ≤ l.getD i 0 ∧ l.getD i 0 < 8380417)) : pln l = false := by
  cases hp : pln l with
  | false => rfl
  | true => exact absurd ((pln_iff hl).1 hp i hi) h
theorem IsP_pln {l : List Int} (hl : l.length = 256) (h : pln l = true) : IsP l := ⟨hl, fun i hi => by have := (pln_iff hl).1 h i hi; omega⟩
theorem IsP_rd (l : List Int) : IsP (rdL l) := IsP_pln (rdL_len l) (pln_rd l)
def rdI (l : List Int) (t : Nat) : List Int := tellI (fun j => if j < t then rI l j else l.getD j 0) 256
theorem rdI_len (l : List Int) (t : Nat) : (rdI l t).length = 256 := tellI_length _ _
theorem rdI_zero {l : List Int} (h : l.length = 256) : rdI l 0 = l := tellI_none _ l 256 h
theorem rdI_all (l : List Int) : rdI l 256 = rdL l := tellI_all _ _ 256
theorem rdI_succ (l : List Int) (t : Nat) : (rdI l t).set t (rI l t) = rdI l (t + 1) := tellI_fill (rI l) _ 256 t
/-- a polynomial that is filled place by place -/
def flI (f : Nat → Int) (t : Nat) : List Int := tellI (fun j => if j < t then f j else 0) 256
theorem flI_len (f : Nat → Int) (t : Nat) : (flI f t).length = 256 := tellI_length _ _
theorem flI_zero (f : Nat → Int) : flI f 0 = zerI := by
  unfold flI
  conv => rhs; rw [← tellI_self zerI, zerI_length]
  exact tellI_congr fun i _ => by rw [if_neg (by omega), zerI_get]
theorem flI_all (f : Nat → Int) : flI f 256 = tellI f 256 := tellI_all _ _ 256
theorem flI_succ (f : Nat → Int) (t : Nat) : (flI f t).set t (f t) = flI f (t + 1) := tellI_fill f _ 256 t
theorem flI_rd (l : List Int) : flI (rI l) 256 = rdL l := flI_all _
theorem rI_val (l : List Int) (t : Nat) : rI l t = l.getD t 0 % 8380417 := rfl
set_option maxRecDepth 100000 in
set_option maxHeartbeats 4000000 in
theorem Reduce_any (l : List Int) (hl : IsP l) (w : World) : Calls Tryd.prog 25 #[.agg (iv l).toArray] w fun e w' => e = .returned (.agg (iv (rdL l)).toArray) ∧ Below w.heap.size w w' := by
  obtain ⟨hlen, hbd⟩ := hl
  have LL := Lib.hid hlen
  have HBD := Lib.hid hbd
  have B1 := Lib.hid ((Blk.new w 25 (iv l)).alloc (.cells (iv zerI).toArray 25))
  have B2 := Lib.hid (Blk.new2 w (.cells (iv l).toArray 25) 25 (iv zerI))
  have BEL := Lib.hid (((Below.refl w.heap.size w).alloc (Nat.le_refl _) (.cells (iv l).toArray 25)).alloc (by simp) (.cells (iv zerI).toArray 25))
  clear hlen hbd
  have z23 := zero23
  go_enter Tryd.func25, Tryd.ntmps25
  go_wp2_with (first | (refine wpList_load_row rfl 25 (.tmp 1) rfl w.heap.size rfl 25 (iv l).toArray (0, 0) _ B1.out Tryd.underlying25 rfl (j23 LL.out) ?_))
  clear z23
  go_loopw [6] (fun c wr => ∃ t : Nat, t ≤ 256 ∧ c = .int .i64 t ∧ Blk wr w.heap.size 25 (iv (rdI l t)) ∧ Blk wr (w.heap.size + 1) 25 (iv zerI) ∧ Below w.heap.size w wr) (fun c _ => 256 - (intOf c).toNat)
  case atStart => exact ⟨0, by omega, rfl, by rw [rdI_zero LL.out]; exact B1.out, B2.out, BEL.out⟩
  case round =>
    clear B1 B2 BEL
    obtain ⟨t, ht, rfl, k1, k2, hbel⟩ := hrel
    have K1 := Lib.hid k1
    have K2 := Lib.hid k2
    clear k1 k2
    by_cases h5 : t < 256
    · have hx := fun w => index23 w l t h5 LL.out
      obtain ⟨hb1, hb2⟩ := HBD.out t h5
      have HM := Lib.hid (fun w => modQ_any (l.getD t 0) w (by omega) (by omega))
      have HR := Lib.hid (rI_val l t)
      have hc := K1.out.iv t (by rw [rdI_len]; exact h5)
      have hf := K1.out.free t
      have HV := Lib.hid (rdI_succ l t)
      have i1 : (t : Int) < 256 := by omega
      rw [← HR.out] at HM
      generalize l.getD t 0 = x at *
      generalize rI l t = y at *
      clear HR
      go_wp2_with (first | (go_at_call 40; refine (HM.out _).mono ?_; rintro e w' ⟨rfl, rfl⟩))
      have k1 := K1.out.ivSet t y
      rw [HV.out] at k1
      have k2 := K2.out.other ⟨w.heap.size, t, none⟩ (.int .i32 y) (by simp)
      have hb2 := hbel.setCell (p := ⟨w.heap.size, t, none⟩) (by simp) (.int .i32 y)
      go_roundw
      case rel => exact ⟨t + 1, by omega, by go_num, k1, k2, hb2⟩
      case measure => simp [intOf]; omega
    · obtain rfl : t = 256 := by omega
      rw [rdI_all] at K1
      have HL := Lib.hid (rdL_len l)
      obtain ⟨m, hm⟩ : ∃ m, rdL l = m := ⟨_, rfl⟩
      rw [hm] at K1 HL
      have HMQ := Lib.hid hm
      clear hm
      go_wp2_with (first | (refine wpList_load_row rfl 25 (.tmp 1) rfl w.heap.size rfl 25 (iv m).toArray (0, 0) _ K1.out Tryd.underlying25 rfl (j23 HL.out) ?_) | (refine wpList_store_row rfl 25 (.tmp 2) (.tmp 16) rfl (w.heap.size + 1) (iv m).toArray rfl rfl 25 (iv zerI).toArray K2.out (j23 HL.out) (by rw [iv_size, iv_size, HL.out, zerI_length]) (iv_all _) ?_))
      have j2 := K2.out.setRow (iv m)
      have hb2 := below_setRow' hbel (show w.heap.size ≤ w.heap.size + 1 by omega) (iv m).toArray
      refine bodyPost_ret (v := .agg (iv m).toArray) ?_ rfl ⟨by rw [HMQ.out], hb2⟩
      exact results_cell_row Tryd.results25 _ _ (w.heap.size + 1) 25 _ (0, 0) _ rfl j2 Tryd.underlying25 rfl (j23 HL.out)
end Go.Proofs.YtlbfnmmankoddaaDoor
