/- Sums, differences and products place by place. Condition: the coefficients are 32-bit numbers. -/
import Derived.Test.YtbhhpopckchibaaAp
import Derived.Test.YtbhhpopckchibaaBs
namespace Go.Proofs.Ytbhhpopckchibaa
open Go.RowKit
set_option linter.unusedVariables false
set_option linter.unusedSimpArgs false
theorem rw_two {w : World} {g : Nat} {t : TypeId} {a b : List Int} (h : Blk w g t (iv a ++ iv b)) (ha : a.length = 256) : Rw w g [a, b] := by
  intro i hi
  match i, hi with
  | 0, _ => exact (two_r h (by rw [iv_length, ha])).1
  | 1, _ => exact (two_r h (by rw [iv_length, ha])).2
theorem rw_one {w : World} {g : Nat} {t : TypeId} {a : List Int} (h : Blk w g t (iv a)) : Rw w g [a] := by
  intro i hi
  match i, hi with
  | 0, _ => exact blk_all h
theorem isP2 {a b : List Int} (ha : IsP a) (hb : IsP b) : ∀ i, i < [a, b].length → IsP ([a, b].getD i []) := by
  intro i hi
  match i, hi with
  | 0, _ => exact ha
  | 1, _ => exact hb
theorem isP1 {a : List Int} (ha : IsP a) : ∀ i, i < [a].length → IsP ([a].getD i []) := by
  intro i hi
  match i, hi with
  | 0, _ => exact ha
theorem Blk.new4 (w : World) (o p q : Obj) (t : TypeId) (cs : List Value) : Blk ((((w.alloc o).alloc p).alloc q).alloc (.cells cs.toArray t)) (w.heap.size + 1 + 1 + 1) t cs := by
  have h := Blk.new (((w.alloc o).alloc p).alloc q) t cs
  have e : (((w.alloc o).alloc p).alloc q).heap.size = w.heap.size + 1 + 1 + 1 := by simp
  rw [e] at h; exact h
/-- the call that asks whether two are plain -/
theorem plain2 {a b : List Int} (ha : IsP a) (hb : IsP b) {r : Bool} (hr : allP [a, b] = r) {w : World} {g : Nat} (h : Blk w g 23 (iv a ++ iv b)) :
    Calls Try.prog 35 #[.slice (some ⟨g, 0, none⟩) 2 2] w fun e w' => e = .returned (.bool r) ∧ Below w.heap.size w w' :=
  hr ▸ allPlain_any g [a, b] (Nat.le_refl 2) (isP2 ha hb) w (rw_two h ha.1)
theorem plain1 {a : List Int} (ha : IsP a) {r : Bool} (hr : allP [a] = r) {w : World} {g : Nat} (h : Blk w g 23 (iv a)) :
    Calls Try.prog 35 #[.slice (some ⟨g, 0, none⟩) 1 1] w fun e w' => e = .returned (.bool r) ∧ Below w.heap.size w w' :=
  hr ▸ allPlain_any g [a] (by simp) (isP1 ha) w (rw_one h)
theorem allP_PL2 (f g : Nat → FQ) : allP [PL f, PL g] = true := by simp [allP, pln_PL]
theorem allP_PL1 (f : Nat → FQ) : allP [PL f] = true := by simp [allP, pln_PL]
def mxI (f q : Nat → FQ) (t : Nat) : List Int := tellI (fun j => if j < t then ((q j).val : Int) else ((f j).val : Int)) 256
theorem mxI_len (f q : Nat → FQ) (t : Nat) : (mxI f q t).length = 256 := tellI_length _ _
theorem mxI_zero (f q : Nat → FQ) : mxI f q 0 = PL f := tellI_congr fun i _ => if_neg (by omega)
theorem mxI_all (f q : Nat → FQ) : mxI f q 256 = PL q := tellI_congr fun i hi => if_pos hi
theorem mxI_succ (f q : Nat → FQ) (t : Nat) : (mxI f q t).set t ((q t).val : Int) = mxI f q (t + 1) := tellI_fill (fun j => ((q j).val : Int)) _ 256 t
theorem mxI_at (f q : Nat → FQ) (t : Nat) (h : t < 256) : (mxI f q t).getD t 0 = ((f t).val : Int) := by unfold mxI; rw [tellI_get _ _ _ h, if_neg (by omega)]
set_option maxRecDepth 100000 in
set_option maxHeartbeats 4000000 in
theorem pbp_f (a b : List Int) (F : FuncId) (ha : IsP a) (hb : IsP b) (hno : allP [a, b] = false) (w : World) : Calls Try.prog 32 #[.agg (iv a).toArray, .agg (iv b).toArray, .func (.func F) #[] #[]] w fun e w' => e = .returned (.tuple #[.agg (iv zerI).toArray, .int .i64 81]) ∧ Below w.heap.size w w' := by
  have LA := Lib.hid ha.1
  have LB := Lib.hid hb.1
  have HP := Lib.hid (fun (w : World) (g : Nat) (h : Blk w g 23 (iv a ++ iv b)) => plain2 ha hb hno h)
  have B1 := Lib.hid (((Blk.new w 23 (iv a)).alloc (.cells (iv b).toArray 23)).alloc (.cells (iv zerI).toArray 23))
  have B2 := Lib.hid ((Blk.new2 w (.cells (iv a).toArray 23) 23 (iv b)).alloc (.cells (iv zerI).toArray 23))
  have B3 := Lib.hid (Blk.new3 w (.cells (iv a).toArray 23) (.cells (iv b).toArray 23) 23 (iv zerI))
  have B4 := Lib.hid (Blk.new4 w (.cells (iv a).toArray 23) (.cells (iv b).toArray 23) (.cells (iv zerI).toArray 23) 23 (iv a ++ iv b))
  have BEL := Lib.hid (((((Below.refl w.heap.size w).alloc (Nat.le_refl _) (.cells (iv a).toArray 23)).alloc (by simp) (.cells (iv b).toArray 23)).alloc (by simp; omega) (.cells (iv zerI).toArray 23)).alloc (by simp; omega) (.cells (iv a ++ iv b).toArray 23))
  clear ha hb hno
  have z23 := zero23
  go_enter Try.func32, Try.ntmps32
  go_wp2_with (first | (refine wpList_load_row rfl 23 (.tmp 3) rfl w.heap.size rfl 23 (iv a).toArray (0, 0) _ B1.out Try.underlying23 rfl (j23 LA.out) ?_) | (refine wpList_load_row rfl 23 (.tmp 4) rfl (w.heap.size + 1) rfl 23 (iv b).toArray (0, 0) _ B2.out Try.underlying23 rfl (j23 LB.out) ?_) | (refine bs2 rfl _ _ rfl rfl rfl LA.out LB.out ?_))
  refine (HP.out _ _ B4.out).mono ?_
  rintro e w1 ⟨rfl, hb1⟩
  have C3 := Lib.hid ((B3.out.alloc (.cells (iv a ++ iv b).toArray 23)).below' hb1)
  have hbel := BEL.out.trans (hb1.mono BEL.out.size)
  clear B1 B2 B3 B4 BEL HP hb1
  have bz := built0
  go_wp2_with (first | (refine wpList_build_is rfl 23 #[] rfl (iv zerI).toArray built0 ?_) | (refine wpList_store_row rfl 23 (.tmp 6) (.tmp 15) rfl (w.heap.size + 1 + 1) (iv zerI).toArray rfl rfl 23 (iv zerI).toArray C3.out (j23 zerI_length) rfl (iv_all _) ?_))
  have j2 := C3.out.setRow (iv zerI)
  have hb2 := below_setRow' hbel (show w.heap.size ≤ w.heap.size + 1 + 1 by omega) (iv zerI).toArray
  refine bodyPost_ret (v := .tuple #[.agg (iv zerI).toArray, .int .i64 81]) ?_ rfl ⟨rfl, hb2⟩
  exact results_two Try.results32 _ _ (w.heap.size + 1 + 1) 23 _ (0, 0) _ _ rfl rfl j2 Try.underlying23 rfl (j23 zerI_length)
set_option maxRecDepth 100000 in
set_option maxHeartbeats 4000000 in
theorem pbp33 (f g : Nat → FQ) (w : World) : Calls Try.prog 32 #[.agg (iv (PL f)).toArray, .agg (iv (PL g)).toArray, .func (.func 33) #[] #[]] w fun e w' => e = .returned (.tuple #[.agg (iv (PL (fun i => f i + g i))).toArray, .int .i64 0]) ∧ Below w.heap.size w w' := by
  obtain ⟨q, hq⟩ : ∃ q, (fun i => f i + g i) = q := ⟨_, rfl⟩
  have HQ := Lib.hid (fun i => show q i = f i + g i by rw [← hq])
  rw [hq]
  clear hq
  have HG := Lib.hid (fun (t : Nat) (ht : t < 256) => PL_get g t ht)
  have HZ := Lib.hid (mxI_zero f q)
  have HP := Lib.hid (fun (w : World) (g_ : Nat) (h : Blk w g_ 23 (iv (PL f) ++ iv (PL g))) => plain2 (IsP_PL f) (IsP_PL g) (allP_PL2 f g) h)
  have LA := Lib.hid (PL_length f)
  have LB := Lib.hid (PL_length g)
  obtain ⟨a, ha⟩ : ∃ a, PL f = a := ⟨_, rfl⟩
  obtain ⟨b, hb⟩ : ∃ b, PL g = b := ⟨_, rfl⟩
  rw [ha] at HZ HP LA ⊢
  rw [hb] at HG HP LB ⊢
  clear ha hb
  have B1 := Lib.hid (((Blk.new w 23 (iv a)).alloc (.cells (iv b).toArray 23)).alloc (.cells (iv zerI).toArray 23))
  have B2 := Lib.hid ((Blk.new2 w (.cells (iv a).toArray 23) 23 (iv b)).alloc (.cells (iv zerI).toArray 23))
  have B3 := Lib.hid (Blk.new3 w (.cells (iv a).toArray 23) (.cells (iv b).toArray 23) 23 (iv zerI))
  have B4 := Lib.hid (Blk.new4 w (.cells (iv a).toArray 23) (.cells (iv b).toArray 23) (.cells (iv zerI).toArray 23) 23 (iv a ++ iv b))
  have BEL := Lib.hid (((((Below.refl w.heap.size w).alloc (Nat.le_refl _) (.cells (iv a).toArray 23)).alloc (by simp) (.cells (iv b).toArray 23)).alloc (by simp; omega) (.cells (iv zerI).toArray 23)).alloc (by simp; omega) (.cells (iv a ++ iv b).toArray 23))
  have z23 := zero23
  go_enter Try.func32, Try.ntmps32
  go_wp2_with (first | (refine wpList_load_row rfl 23 (.tmp 3) rfl w.heap.size rfl 23 (iv a).toArray (0, 0) _ B1.out Try.underlying23 rfl (j23 LA.out) ?_) | (refine wpList_load_row rfl 23 (.tmp 4) rfl (w.heap.size + 1) rfl 23 (iv b).toArray (0, 0) _ B2.out Try.underlying23 rfl (j23 LB.out) ?_) | (refine bs2 rfl _ _ rfl rfl rfl LA.out LB.out ?_))
  refine (HP.out _ _ B4.out).mono ?_
  rintro e w1 ⟨rfl, hb1⟩
  have C1 := Lib.hid ((B1.out.alloc (.cells (iv a ++ iv b).toArray 23)).below' hb1)
  have C2 := Lib.hid ((B2.out.alloc (.cells (iv a ++ iv b).toArray 23)).below' hb1)
  have C3 := Lib.hid ((B3.out.alloc (.cells (iv a ++ iv b).toArray 23)).below' hb1)
  have hbel := Lib.hid (BEL.out.trans (hb1.mono BEL.out.size))
  clear B1 B2 B3 B4 BEL HP hb1 z23
  go_wp2_with (first | (refine wpList_load_row rfl 23 (.tmp 4) rfl (w.heap.size + 1) rfl 23 (iv b).toArray (0, 0) _ C2.out Try.underlying23 rfl (j23 LB.out) ?_))
  go_loopw [17] (fun c wr => ∃ t : Nat, t ≤ 256 ∧ c = .int .i64 t ∧ Blk wr w.heap.size 23 (iv (mxI f q t)) ∧ Blk wr (w.heap.size + 1 + 1) 23 (iv zerI) ∧ Below w.heap.size w wr) (fun c _ => 256 - (intOf c).toNat)
  case atStart => exact ⟨0, by omega, rfl, by rw [HZ.out]; exact C1.out, C3.out, hbel.out⟩
  case round =>
    clear C1 C2 C3 hbel
    obtain ⟨t, ht, rfl, k1, k2, hbel⟩ := hrel
    have K1 := Lib.hid k1
    have K2 := Lib.hid k2
    clear k1 k2
    by_cases h5 : t < 256
    · have hx := fun w => index23 w b t h5 LB.out
      rw [HG.out t h5] at hx
      have HF := Lib.hid (plus_any (f t) (g t))
      rw [← HQ.out t] at HF
      have hc := K1.out.iv t (by rw [mxI_len]; exact h5)
      rw [mxI_at f q t h5] at hc
      have hf := K1.out.free t
      have HV := Lib.hid (mxI_succ f q t)
      have i1 : (t : Int) < 256 := by omega
      generalize q t = y at *
      generalize f t = xa at *
      generalize g t = xb at *
      go_wp2_with (first | (refine (HF.out _).mono ?_; rintro e w' ⟨rfl, rfl⟩))
      have k1 := K1.out.ivSet t (y.val : Int)
      rw [HV.out] at k1
      have k2 := K2.out.other ⟨w.heap.size, t, none⟩ (.int .i32 (y.val : Int)) (by simp; omega)
      have hb2 := hbel.setCell (p := ⟨w.heap.size, t, none⟩) (by simp) (.int .i32 (y.val : Int))
      go_roundw
      case rel => exact ⟨t + 1, by omega, by go_num, k1, k2, hb2⟩
      case measure => simp [intOf]; omega
    · obtain rfl : t = 256 := by omega
      rw [mxI_all] at K1
      have HL := Lib.hid (PL_length q)
      obtain ⟨m, hm⟩ : ∃ m, PL q = m := ⟨_, rfl⟩
      rw [hm] at K1 HL
      have HMQ := Lib.hid hm
      clear hm
      go_wp2_with (first | (refine wpList_load_row rfl 23 (.tmp 3) rfl w.heap.size rfl 23 (iv m).toArray (0, 0) _ K1.out Try.underlying23 rfl (j23 HL.out) ?_) | (refine wpList_store_row rfl 23 (.tmp 6) (.tmp 30) rfl (w.heap.size + 1 + 1) (iv m).toArray rfl rfl 23 (iv zerI).toArray K2.out (j23 HL.out) (by rw [iv_size, iv_size, HL.out, zerI_length]) (iv_all _) ?_))
      have j2 := K2.out.setRow (iv m)
      have hb2 := below_setRow' hbel (show w.heap.size ≤ w.heap.size + 1 + 1 by omega) (iv m).toArray
      refine bodyPost_ret (v := .tuple #[.agg (iv m).toArray, .int .i64 0]) ?_ rfl ⟨by rw [HMQ.out], hb2⟩
      exact results_two Try.results32 _ _ (w.heap.size + 1 + 1) 23 _ (0, 0) _ _ rfl rfl j2 Try.underlying23 rfl (j23 HL.out)
set_option maxRecDepth 100000 in
set_option maxHeartbeats 4000000 in
theorem pbp34 (f g : Nat → FQ) (w : World) : Calls Try.prog 32 #[.agg (iv (PL f)).toArray, .agg (iv (PL g)).toArray, .func (.func 34) #[] #[]] w fun e w' => e = .returned (.tuple #[.agg (iv (PL (fun i => f i - g i))).toArray, .int .i64 0]) ∧ Below w.heap.size w w' := by
  obtain ⟨q, hq⟩ : ∃ q, (fun i => f i - g i) = q := ⟨_, rfl⟩
  have HQ := Lib.hid (fun i => show q i = f i - g i by rw [← hq])
  rw [hq]
  clear hq
  have HG := Lib.hid (fun (t : Nat) (ht : t < 256) => PL_get g t ht)
  have HZ := Lib.hid (mxI_zero f q)
  have HP := Lib.hid (fun (w : World) (g_ : Nat) (h : Blk w g_ 23 (iv (PL f) ++ iv (PL g))) => plain2 (IsP_PL f) (IsP_PL g) (allP_PL2 f g) h)
  have LA := Lib.hid (PL_length f)
  have LB := Lib.hid (PL_length g)
  obtain ⟨a, ha⟩ : ∃ a, PL f = a := ⟨_, rfl⟩
  obtain ⟨b, hb⟩ : ∃ b, PL g = b := ⟨_, rfl⟩
  rw [ha] at HZ HP LA ⊢
  rw [hb] at HG HP LB ⊢
  clear ha hb
  have B1 := Lib.hid (((Blk.new w 23 (iv a)).alloc (.cells (iv b).toArray 23)).alloc (.cells (iv zerI).toArray 23))
  have B2 := Lib.hid ((Blk.new2 w (.cells (iv a).toArray 23) 23 (iv b)).alloc (.cells (iv zerI).toArray 23))
  have B3 := Lib.hid (Blk.new3 w (.cells (iv a).toArray 23) (.cells (iv b).toArray 23) 23 (iv zerI))
  have B4 := Lib.hid (Blk.new4 w (.cells (iv a).toArray 23) (.cells (iv b).toArray 23) (.cells (iv zerI).toArray 23) 23 (iv a ++ iv b))
  have BEL := Lib.hid (((((Below.refl w.heap.size w).alloc (Nat.le_refl _) (.cells (iv a).toArray 23)).alloc (by simp) (.cells (iv b).toArray 23)).alloc (by simp; omega) (.cells (iv zerI).toArray 23)).alloc (by simp; omega) (.cells (iv a ++ iv b).toArray 23))
  have z23 := zero23
  go_enter Try.func32, Try.ntmps32
  go_wp2_with (first | (refine wpList_load_row rfl 23 (.tmp 3) rfl w.heap.size rfl 23 (iv a).toArray (0, 0) _ B1.out Try.underlying23 rfl (j23 LA.out) ?_) | (refine wpList_load_row rfl 23 (.tmp 4) rfl (w.heap.size + 1) rfl 23 (iv b).toArray (0, 0) _ B2.out Try.underlying23 rfl (j23 LB.out) ?_) | (refine bs2 rfl _ _ rfl rfl rfl LA.out LB.out ?_))
  refine (HP.out _ _ B4.out).mono ?_
  rintro e w1 ⟨rfl, hb1⟩
  have C1 := Lib.hid ((B1.out.alloc (.cells (iv a ++ iv b).toArray 23)).below' hb1)
  have C2 := Lib.hid ((B2.out.alloc (.cells (iv a ++ iv b).toArray 23)).below' hb1)
  have C3 := Lib.hid ((B3.out.alloc (.cells (iv a ++ iv b).toArray 23)).below' hb1)
  have hbel := Lib.hid (BEL.out.trans (hb1.mono BEL.out.size))
  clear B1 B2 B3 B4 BEL HP hb1 z23
  go_wp2_with (first | (refine wpList_load_row rfl 23 (.tmp 4) rfl (w.heap.size + 1) rfl 23 (iv b).toArray (0, 0) _ C2.out Try.underlying23 rfl (j23 LB.out) ?_))
  go_loopw [17] (fun c wr => ∃ t : Nat, t ≤ 256 ∧ c = .int .i64 t ∧ Blk wr w.heap.size 23 (iv (mxI f q t)) ∧ Blk wr (w.heap.size + 1 + 1) 23 (iv zerI) ∧ Below w.heap.size w wr) (fun c _ => 256 - (intOf c).toNat)
  case atStart => exact ⟨0, by omega, rfl, by rw [HZ.out]; exact C1.out, C3.out, hbel.out⟩
  case round =>
    clear C1 C2 C3 hbel
    obtain ⟨t, ht, rfl, k1, k2, hbel⟩ := hrel
    have K1 := Lib.hid k1
    have K2 := Lib.hid k2
    clear k1 k2
    by_cases h5 : t < 256
    · have hx := fun w => index23 w b t h5 LB.out
      rw [HG.out t h5] at hx
      have HF := Lib.hid (minus_any (f t) (g t))
      rw [← HQ.out t] at HF
      have hc := K1.out.iv t (by rw [mxI_len]; exact h5)
      rw [mxI_at f q t h5] at hc
      have hf := K1.out.free t
      have HV := Lib.hid (mxI_succ f q t)
      have i1 : (t : Int) < 256 := by omega
      generalize q t = y at *
      generalize f t = xa at *
      generalize g t = xb at *
      go_wp2_with (first | (refine (HF.out _).mono ?_; rintro e w' ⟨rfl, rfl⟩))
      have k1 := K1.out.ivSet t (y.val : Int)
      rw [HV.out] at k1
      have k2 := K2.out.other ⟨w.heap.size, t, none⟩ (.int .i32 (y.val : Int)) (by simp; omega)
      have hb2 := hbel.setCell (p := ⟨w.heap.size, t, none⟩) (by simp) (.int .i32 (y.val : Int))
      go_roundw
      case rel => exact ⟨t + 1, by omega, by go_num, k1, k2, hb2⟩
      case measure => simp [intOf]; omega
    · obtain rfl : t = 256 := by omega
      rw [mxI_all] at K1
      have HL := Lib.hid (PL_length q)
      obtain ⟨m, hm⟩ : ∃ m, PL q = m := ⟨_, rfl⟩
      rw [hm] at K1 HL
      have HMQ := Lib.hid hm
      clear hm
      go_wp2_with (first | (refine wpList_load_row rfl 23 (.tmp 3) rfl w.heap.size rfl 23 (iv m).toArray (0, 0) _ K1.out Try.underlying23 rfl (j23 HL.out) ?_) | (refine wpList_store_row rfl 23 (.tmp 6) (.tmp 30) rfl (w.heap.size + 1 + 1) (iv m).toArray rfl rfl 23 (iv zerI).toArray K2.out (j23 HL.out) (by rw [iv_size, iv_size, HL.out, zerI_length]) (iv_all _) ?_))
      have j2 := K2.out.setRow (iv m)
      have hb2 := below_setRow' hbel (show w.heap.size ≤ w.heap.size + 1 + 1 by omega) (iv m).toArray
      refine bodyPost_ret (v := .tuple #[.agg (iv m).toArray, .int .i64 0]) ?_ rfl ⟨by rw [HMQ.out], hb2⟩
      exact results_two Try.results32 _ _ (w.heap.size + 1 + 1) 23 _ (0, 0) _ _ rfl rfl j2 Try.underlying23 rfl (j23 HL.out)
set_option maxRecDepth 100000 in
set_option maxHeartbeats 4000000 in
theorem pbp38 (f g : Nat → FQ) (w : World) : Calls Try.prog 32 #[.agg (iv (PL f)).toArray, .agg (iv (PL g)).toArray, .func (.func 38) #[] #[]] w fun e w' => e = .returned (.tuple #[.agg (iv (PL (fun i => f i * g i))).toArray, .int .i64 0]) ∧ Below w.heap.size w w' := by
  obtain ⟨q, hq⟩ : ∃ q, (fun i => f i * g i) = q := ⟨_, rfl⟩
  have HQ := Lib.hid (fun i => show q i = f i * g i by rw [← hq])
  rw [hq]
  clear hq
  have HG := Lib.hid (fun (t : Nat) (ht : t < 256) => PL_get g t ht)
  have HZ := Lib.hid (mxI_zero f q)
  have HP := Lib.hid (fun (w : World) (g_ : Nat) (h : Blk w g_ 23 (iv (PL f) ++ iv (PL g))) => plain2 (IsP_PL f) (IsP_PL g) (allP_PL2 f g) h)
  have LA := Lib.hid (PL_length f)
  have LB := Lib.hid (PL_length g)
  obtain ⟨a, ha⟩ : ∃ a, PL f = a := ⟨_, rfl⟩
  obtain ⟨b, hb⟩ : ∃ b, PL g = b := ⟨_, rfl⟩
  rw [ha] at HZ HP LA ⊢
  rw [hb] at HG HP LB ⊢
  clear ha hb
  have B1 := Lib.hid (((Blk.new w 23 (iv a)).alloc (.cells (iv b).toArray 23)).alloc (.cells (iv zerI).toArray 23))
  have B2 := Lib.hid ((Blk.new2 w (.cells (iv a).toArray 23) 23 (iv b)).alloc (.cells (iv zerI).toArray 23))
  have B3 := Lib.hid (Blk.new3 w (.cells (iv a).toArray 23) (.cells (iv b).toArray 23) 23 (iv zerI))
  have B4 := Lib.hid (Blk.new4 w (.cells (iv a).toArray 23) (.cells (iv b).toArray 23) (.cells (iv zerI).toArray 23) 23 (iv a ++ iv b))
  have BEL := Lib.hid (((((Below.refl w.heap.size w).alloc (Nat.le_refl _) (.cells (iv a).toArray 23)).alloc (by simp) (.cells (iv b).toArray 23)).alloc (by simp; omega) (.cells (iv zerI).toArray 23)).alloc (by simp; omega) (.cells (iv a ++ iv b).toArray 23))
  have z23 := zero23
  go_enter Try.func32, Try.ntmps32
  go_wp2_with (first | (refine wpList_load_row rfl 23 (.tmp 3) rfl w.heap.size rfl 23 (iv a).toArray (0, 0) _ B1.out Try.underlying23 rfl (j23 LA.out) ?_) | (refine wpList_load_row rfl 23 (.tmp 4) rfl (w.heap.size + 1) rfl 23 (iv b).toArray (0, 0) _ B2.out Try.underlying23 rfl (j23 LB.out) ?_) | (refine bs2 rfl _ _ rfl rfl rfl LA.out LB.out ?_))
  refine (HP.out _ _ B4.out).mono ?_
  rintro e w1 ⟨rfl, hb1⟩
  have C1 := Lib.hid ((B1.out.alloc (.cells (iv a ++ iv b).toArray 23)).below' hb1)
  have C2 := Lib.hid ((B2.out.alloc (.cells (iv a ++ iv b).toArray 23)).below' hb1)
  have C3 := Lib.hid ((B3.out.alloc (.cells (iv a ++ iv b).toArray 23)).below' hb1)
  have hbel := Lib.hid (BEL.out.trans (hb1.mono BEL.out.size))
  clear B1 B2 B3 B4 BEL HP hb1 z23
  go_wp2_with (first | (refine wpList_load_row rfl 23 (.tmp 4) rfl (w.heap.size + 1) rfl 23 (iv b).toArray (0, 0) _ C2.out Try.underlying23 rfl (j23 LB.out) ?_))
  go_loopw [17] (fun c wr => ∃ t : Nat, t ≤ 256 ∧ c = .int .i64 t ∧ Blk wr w.heap.size 23 (iv (mxI f q t)) ∧ Blk wr (w.heap.size + 1 + 1) 23 (iv zerI) ∧ Below w.heap.size w wr) (fun c _ => 256 - (intOf c).toNat)
  case atStart => exact ⟨0, by omega, rfl, by rw [HZ.out]; exact C1.out, C3.out, hbel.out⟩
  case round =>
    clear C1 C2 C3 hbel
    obtain ⟨t, ht, rfl, k1, k2, hbel⟩ := hrel
    have K1 := Lib.hid k1
    have K2 := Lib.hid k2
    clear k1 k2
    by_cases h5 : t < 256
    · have hx := fun w => index23 w b t h5 LB.out
      rw [HG.out t h5] at hx
      have HF := Lib.hid (times_any (f t) (g t))
      rw [← HQ.out t] at HF
      have hc := K1.out.iv t (by rw [mxI_len]; exact h5)
      rw [mxI_at f q t h5] at hc
      have hf := K1.out.free t
      have HV := Lib.hid (mxI_succ f q t)
      have i1 : (t : Int) < 256 := by omega
      generalize q t = y at *
      generalize f t = xa at *
      generalize g t = xb at *
      go_wp2_with (first | (refine (HF.out _).mono ?_; rintro e w' ⟨rfl, rfl⟩))
      have k1 := K1.out.ivSet t (y.val : Int)
      rw [HV.out] at k1
      have k2 := K2.out.other ⟨w.heap.size, t, none⟩ (.int .i32 (y.val : Int)) (by simp; omega)
      have hb2 := hbel.setCell (p := ⟨w.heap.size, t, none⟩) (by simp) (.int .i32 (y.val : Int))
      go_roundw
      case rel => exact ⟨t + 1, by omega, by go_num, k1, k2, hb2⟩
      case measure => simp [intOf]; omega
    · obtain rfl : t = 256 := by omega
      rw [mxI_all] at K1
      have HL := Lib.hid (PL_length q)
      obtain ⟨m, hm⟩ : ∃ m, PL q = m := ⟨_, rfl⟩
      rw [hm] at K1 HL
      have HMQ := Lib.hid hm
      clear hm
      go_wp2_with (first | (refine wpList_load_row rfl 23 (.tmp 3) rfl w.heap.size rfl 23 (iv m).toArray (0, 0) _ K1.out Try.underlying23 rfl (j23 HL.out) ?_) | (refine wpList_store_row rfl 23 (.tmp 6) (.tmp 30) rfl (w.heap.size + 1 + 1) (iv m).toArray rfl rfl 23 (iv zerI).toArray K2.out (j23 HL.out) (by rw [iv_size, iv_size, HL.out, zerI_length]) (iv_all _) ?_))
      have j2 := K2.out.setRow (iv m)
      have hb2 := below_setRow' hbel (show w.heap.size ≤ w.heap.size + 1 + 1 by omega) (iv m).toArray
      refine bodyPost_ret (v := .tuple #[.agg (iv m).toArray, .int .i64 0]) ?_ rfl ⟨by rw [HMQ.out], hb2⟩
      exact results_two Try.results32 _ _ (w.heap.size + 1 + 1) 23 _ (0, 0) _ _ rfl rfl j2 Try.underlying23 rfl (j23 HL.out)
end Go.Proofs.Ytbhhpopckchibaa
