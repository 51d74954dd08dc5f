/- The document's product: each coefficient with each. Condition: the coefficients are 32-bit numbers. -/
import Derived.Test.YtbhhpopckchibaaRf
namespace Go.Proofs.Ytbhhpopckchibaa
open Go.RowKit
set_option linter.unusedVariables false
set_option linter.unusedSimpArgs false
theorem jv_length (l : List Int) : (jv l).length = l.length := by simp [jv]
theorem jv_get (l : List Int) (i : Nat) (h : i < l.length) : (jv l)[i]? = some (.int .i64 (l.getD i 0)) := by
  simp [jv, List.getD_eq_getElem?_getD, List.getElem?_eq_getElem h]
theorem jv_set (l : List Int) (i : Nat) (x : Int) : (jv l).set i (.int .i64 x) = jv (l.set i x) := by simp [jv, List.map_set]
theorem blk_jv {w : World} {g : Nat} {t : TypeId} {l : List Int} (h : Blk w g t (jv l)) (i : Nat) (hi : i < l.length) : w.cell? ⟨g, i, none⟩ = some (.int .i64 (l.getD i 0)) := by
  rw [h.cell, jv_get l i hi]
theorem blk_jvSet {w : World} {g : Nat} {t : TypeId} {l : List Int} (h : Blk w g t (jv l)) (i : Nat) (x : Int) : Blk (w.setCell ⟨g, i, none⟩ (.int .i64 x)) g t (jv (l.set i x)) := by
  have := h.set i (.int .i64 x); rwa [jv_set] at this
theorem getD_set_i (l : List Int) (i j : Nat) (x : Int) (hi : i < l.length) : (l.set i x).getD j 0 = if j = i then x else l.getD j 0 := by
  simp only [List.getD_eq_getElem?_getD, List.getElem?_set]
  by_cases h : i = j
  · subst h; rw [if_pos rfl, if_pos rfl, if_pos hi]; rfl
  · rw [if_neg h, if_neg (fun e => h e.symm)]
/-- which coefficient of b meets the i-th of a at the place m -/
def kidx (i m : Nat) : Nat := if i ≤ m then m - i else m + 256 - i
theorem kidx_lt {i m : Nat} (hi : i < 256) (hm : m < 256) : kidx i m < 256 := by unfold kidx; split <;> omega
def Inv1 (a b : Nat → FQ) (i : Nat) (Z : List Int) : Prop := Z.length = 256 ∧ ∀ m, m < 256 → fz (Z.getD m 0) = mulS a b i m ∧ -(8380417 * (i : Int)) ≤ Z.getD m 0 ∧ Z.getD m 0 ≤ 8380417 * (i : Int)
def Inv2 (a b : Nat → FQ) (i k : Nat) (Z : List Int) : Prop := Z.length = 256 ∧ ∀ m, m < 256 →
  (kidx i m < k → fz (Z.getD m 0) = mulS a b (i + 1) m ∧ -(8380417 * (i : Int) + 8380417) ≤ Z.getD m 0 ∧ Z.getD m 0 ≤ 8380417 * (i : Int) + 8380417) ∧
  (¬ kidx i m < k → fz (Z.getD m 0) = mulS a b i m ∧ -(8380417 * (i : Int)) ≤ Z.getD m 0 ∧ Z.getD m 0 ≤ 8380417 * (i : Int))
theorem inv_start (a b : Nat → FQ) : Inv1 a b 0 zerI := ⟨zerI_length, fun m hm => by rw [zerI_get]; exact ⟨by show fz 0 = 0; decide +kernel, by omega, by omega⟩⟩
theorem inv_in {a b : Nat → FQ} {i : Nat} {Z : List Int} (h : Inv1 a b i Z) : Inv2 a b i 0 Z := ⟨h.1, fun m hm => ⟨fun hk => absurd hk (Nat.not_lt_zero _), fun _ => h.2 m hm⟩⟩
theorem inv_out {a b : Nat → FQ} {i : Nat} {Z : List Int} (hi : i < 256) (h : Inv2 a b i 256 Z) : Inv1 a b (i + 1) Z := ⟨h.1, fun m hm => by
  obtain ⟨h1, h2, h3⟩ := (h.2 m hm).1 (kidx_lt hi hm)
  exact ⟨h1, by omega, by omega⟩⟩
theorem zz3 (x y : FQ) : x + 0 * y = x := by grobner
theorem inv_skip {a b : Nat → FQ} {i : Nat} {Z : List Int} (h0 : a i = 0) (h : Inv1 a b i Z) : Inv1 a b (i + 1) Z := ⟨h.1, fun m hm => by
  obtain ⟨h1, h2, h3⟩ := h.2 m hm
  refine ⟨?_, by omega, by omega⟩
  show _ = mulS a b i m + a i * rowM b i m
  rw [h0, zz3]; exact h1⟩
theorem mulz (f g : FQ) : fz ((f.val : Int) * g.val) = f * g := fz_ext (by rw [fz_val, mul_val'])
theorem zz4 (x y z : FQ) : x + y * -z = x - y * z := by grobner
theorem inv_step {a b : Nat → FQ} {i k : Nat} {Z : List Int} (hi : i < 256) (hk : k < 256) (h : Inv2 a b i k Z) (c : Int) (hc : c = ((a i).val : Int) * (b k).val % 8380417) :
    (i + k < 256 → Inv2 a b i (k + 1) (Z.set (i + k) (Z.getD (i + k) 0 + c))) ∧ (¬ i + k < 256 → Inv2 a b i (k + 1) (Z.set (i + k - 256) (Z.getD (i + k - 256) 0 - c))) := by
  have hcz : fz c = a i * b k := by rw [hc, fz_mod, mulz]
  have hc0 : 0 ≤ c ∧ c < 8380417 := by omega
  have key : ∀ m v, m < 256 → kidx i m = k → fz v = mulS a b (i + 1) m → -(8380417 * (i : Int) + 8380417) ≤ v → v ≤ 8380417 * (i : Int) + 8380417 → Inv2 a b i (k + 1) (Z.set m v) := by
    intro m v hm hkm hv hv1 hv2
    refine ⟨by rw [List.length_set]; exact h.1, fun j hj => ?_⟩
    rw [getD_set_i Z m j v (by rw [h.1]; exact hm)]
    by_cases e : j = m
    · subst e
      rw [if_pos rfl]
      exact ⟨fun _ => ⟨hv, hv1, hv2⟩, fun hn => absurd (by omega) hn⟩
    · rw [if_neg e]
      have hne : kidx i j ≠ k := by
        intro e2
        apply e
        rw [← hkm] at e2
        unfold kidx at e2
        split at e2 <;> split at e2 <;> omega
      obtain ⟨g1, g2⟩ := h.2 j hj
      exact ⟨fun hl => g1 (by omega), fun hl => g2 (by omega)⟩
  constructor
  · intro hlt
    have hkm : kidx i (i + k) = k := by unfold kidx; rw [if_pos (by omega)]; omega
    obtain ⟨g1, g2, g3⟩ := (h.2 (i + k) hlt).2 (by omega)
    refine key _ _ hlt hkm ?_ (by omega) (by omega)
    rw [fz_add, g1, hcz]
    show _ = mulS a b i (i + k) + a i * rowM b i (i + k)
    unfold rowM; rw [if_pos (by omega), show i + k - i = k by omega]
  · intro hge
    have hm : i + k - 256 < 256 := by omega
    have hkm : kidx i (i + k - 256) = k := by unfold kidx; rw [if_neg (by omega)]; omega
    obtain ⟨g1, g2, g3⟩ := (h.2 _ hm).2 (by omega)
    refine key _ _ hm hkm ?_ (by omega) (by omega)
    rw [fz_sub, g1, hcz]
    show _ = mulS a b i (i + k - 256) + a i * rowM b i (i + k - 256)
    unfold rowM; rw [if_neg (by omega), show i + k - 256 + 256 - i = k by omega, zz4]
set_option maxRecDepth 100000 in
set_option maxHeartbeats 4000000 in
theorem dMul_any (f g : Nat → FQ) (w : World) : Calls Try.prog 19 #[.agg (iv (PL f)).toArray, .agg (iv (PL g)).toArray] w fun e w' => e = .returned (.agg (iv (PL (mulF f g))).toArray) ∧ Below w.heap.size w w' := by
  rw [PL_sm (mul_school f g)]
  obtain ⟨q, hq⟩ : ∃ q, mulS f g 256 = q := ⟨_, rfl⟩
  have HQ := Lib.hid hq
  rw [hq]
  clear hq
  have HF := Lib.hid (fun (t : Nat) (ht : t < 256) => PL_get f t ht)
  have HG := Lib.hid (fun (t : Nat) (ht : t < 256) => PL_get g t ht)
  have LA := Lib.hid (PL_length f)
  have LB := Lib.hid (PL_length g)
  generalize PL f = a at *
  generalize PL g = b at *
  have B1 := Lib.hid ((((Blk.new w 23 (iv a)).alloc (.cells (iv b).toArray 23)).alloc (.cells (iv zerI).toArray 23)).alloc (.cells (jv zerI).toArray 53))
  have B2 := Lib.hid (((Blk.new2 w (.cells (iv a).toArray 23) 23 (iv b)).alloc (.cells (iv zerI).toArray 23)).alloc (.cells (jv zerI).toArray 53))
  have B3 := Lib.hid ((Blk.new3 w (.cells (iv a).toArray 23) (.cells (iv b).toArray 23) 23 (iv zerI)).alloc (.cells (jv zerI).toArray 53))
  have B4 := Lib.hid (Blk.new4 w (.cells (iv a).toArray 23) (.cells (iv b).toArray 23) (.cells (iv zerI).toArray 23) 53 (jv zerI))
  have BEL := Lib.hid (((((Below.refl w.heap.size w).alloc (Nat.le_refl _) (.cells (iv a).toArray 23)).alloc (by simp) (.cells (iv b).toArray 23)).alloc (by simp; omega) (.cells (iv zerI).toArray 23)).alloc (by simp; omega) (.cells (jv zerI).toArray 53))
  have z23 := zero23
  have z53 := zero53
  go_enter Try.func19, Try.ntmps19
  go_wp2_with fail
  clear z23 z53
  go_loopw [6] (fun c wr => ∃ (i : Nat) (Z : List Int), i ≤ 256 ∧ c = .int .i64 i ∧ Blk wr w.heap.size 23 (iv a) ∧ Blk wr (w.heap.size + 1) 23 (iv b) ∧ Blk wr (w.heap.size + 1 + 1) 23 (iv zerI) ∧ Blk wr (w.heap.size + 1 + 1 + 1) 53 (jv Z) ∧ Inv1 f g i Z ∧ Below w.heap.size w wr) (fun c _ => 256 - (intOf c).toNat)
  case atStart => exact ⟨0, zerI, by omega, rfl, B1.out, B2.out, B3.out, B4.out, inv_start f g, BEL.out⟩
  case round =>
    clear B1 B2 B3 B4 BEL
    obtain ⟨i, Z, hi, rfl, k1, k2, k3, k4, hinv, hbel⟩ := hrel
    have K1 := Lib.hid k1
    have K2 := Lib.hid k2
    have K3 := Lib.hid k3
    have K4 := Lib.hid k4
    have KI := Lib.hid hinv
    have KB := Lib.hid hbel
    clear k1 k2 k3 k4 hinv hbel
    by_cases h5 : i < 256
    · have ca := K1.out.iv i (by rw [LA.out]; exact h5)
      rw [HF.out i h5] at ca
      have i1 : (i : Int) < 256 := by omega
      have hba := fq_bd (f i)
      by_cases hz : (f i).val = 0
      · have HZ := Lib.hid (inv_skip (b := g) (show f i = 0 from Fin.ext hz) KI.out)
        have e0 : (((f i).val : Int) == 0) = true := by rw [hz]; rfl
        clear hz
        generalize ((f i).val : Int) = xa at *
        go_wp2_with fail
        go_roundw
        case rel => exact ⟨i + 1, Z, by omega, by go_num, K1.out, K2.out, K3.out, K4.out, HZ.out, KB.out⟩
        case measure => simp [intOf]; omega
      · have e0 : (((f i).val : Int) == 0) = false := beq_eq_false_iff_ne.2 (by omega)
        clear hz
        obtain ⟨xa, hxa⟩ : ∃ xa : Int, ((f i).val : Int) = xa := ⟨_, rfl⟩
        rw [hxa] at ca e0 hba
        have HXA := Lib.hid hxa
        clear hxa
        go_wp2_with fail
        go_loopw [7] (fun c wx => ∃ (k : Nat) (Y : List Int), k ≤ 256 ∧ c = .int .i64 k ∧ Blk wx w.heap.size 23 (iv a) ∧ Blk wx (w.heap.size + 1) 23 (iv b) ∧ Blk wx (w.heap.size + 1 + 1) 23 (iv zerI) ∧ Blk wx (w.heap.size + 1 + 1 + 1) 53 (jv Y) ∧ Inv2 f g i k Y ∧ Below w.heap.size w wx) (fun c _ => 256 - (intOf c).toNat)
        case atStart => exact ⟨0, Z, by omega, rfl, K1.out, K2.out, K3.out, K4.out, inv_in KI.out, KB.out⟩
        case round =>
          clear K1 K2 K3 K4 KI KB ca
          obtain ⟨k, Y, hk, rfl, k1, k2, k3, k4, hinv, hbel⟩ := hrel
          have K1 := Lib.hid k1
          have K2 := Lib.hid k2
          have K3 := Lib.hid k3
          have K4 := Lib.hid k4
          have KI := Lib.hid hinv
          have KB := Lib.hid hbel
          clear k1 k2 k3 k4 hinv hbel
          by_cases h6 : k < 256
          · have ca := K1.out.iv i (by rw [LA.out]; exact h5)
            rw [HF.out i h5, HXA.out] at ca
            have cb := K2.out.iv k (by rw [LB.out]; exact h6)
            rw [HG.out k h6] at cb
            have hbb := fq_bd (g k)
            have hpr := mul_bd hba hbb
            obtain ⟨xb, hxb⟩ : ∃ xb : Int, ((g k).val : Int) = xb := ⟨_, rfl⟩
            rw [hxb] at cb hbb hpr
            obtain ⟨c, hcc⟩ : ∃ c : Int, xa * xb % 8380417 = c := ⟨_, rfl⟩
            have HST := Lib.hid (inv_step h5 h6 KI.out c (by rw [HXA.out, hxb, hcc]))
            have hcb : 0 ≤ c ∧ c < 8380417 := by omega
            have e2 : IntKind.i64.wrap (xa * xb) = xa * xb := IntWalk.i64_in _ (by omega)
            have e3 : IntKind.i64.wrap xa = xa := IntWalk.i64_in _ (by omega)
            have e4 : IntKind.i64.wrap xb = xb := IntWalk.i64_in _ (by omega)
            have e5 : Int.tmod (xa * xb) 8380417 = c := by rw [Int.tmod_eq_emod_of_nonneg hpr.1]; exact hcc
            have e6 : IntKind.i64.wrap c = c := IntWalk.i64_in _ (by omega)
            have i2 : (k : Int) < 256 := by omega
            have LY := Lib.hid KI.out.1
            clear hxb hcc
            by_cases hs : i + k < 256
            · as_aux_lemma =>
              have HN := Lib.hid (HST.out.1 hs)
              have hs2 : i + k < 256 := by omega
              have cz := blk_jv K4.out (i + k) (by rw [LY.out]; exact hs2)
              obtain ⟨z1, z2⟩ : -(8380417 * (i : Int)) ≤ Y.getD (i + k) 0 ∧ Y.getD (i + k) 0 ≤ 8380417 * (i : Int) := by
                have hkm : kidx i (i + k) = k := by unfold kidx; rw [if_pos (by omega)]; omega
                exact ((KI.out.2 (i + k) hs2).2 (by omega)).2
              generalize Y.getD (i + k) 0 = z at *
              have hsi : (i : Int) + k < 256 := by omega
              obtain ⟨m, hm⟩ : ∃ m, i + k = m := ⟨_, rfl⟩
              have e7 : (i : Int) + (k : Int) = (m : Int) := by omega
              rw [hm] at hs2 HN cz
              clear hm HST hs
              have CZ := Lib.hid cz
              clear cz
              go_wp2_with fail
              go_quiet (fail)
              have cz : (wr.drewN nq).cell? ⟨w.heap.size + 1 + 1 + 1, m, none⟩ = some (.int .i64 z) := CZ.out
              have Q1 := Lib.hid (K1.out.drewN nq)
              have Q2 := Lib.hid (K2.out.drewN nq)
              have Q3 := Lib.hid (K3.out.drewN nq)
              have Q4 := Lib.hid (K4.out.drewN nq)
              have QB := Lib.hid (below_drewN KB.out nq)
              clear CZ K1 K2 K3 K4 KI KB ca cb e2 e3 e4 e5 e6 hpr hbb
              generalize wr.drewN nq = wq at *
              have fz_ := Q4.out.free m
              have i3 : (m : Int) < 256 := by omega
              go_wp2_with fail
              have n4 := blk_jvSet Q4.out m (z + c)
              have n1 := Q1.out.other ⟨w.heap.size + 1 + 1 + 1, m, none⟩ (.int .i64 (z + c)) (show w.heap.size ≠ w.heap.size + 1 + 1 + 1 by omega)
              have n2 := Q2.out.other ⟨w.heap.size + 1 + 1 + 1, m, none⟩ (.int .i64 (z + c)) (show w.heap.size + 1 ≠ w.heap.size + 1 + 1 + 1 by omega)
              have n3 := Q3.out.other ⟨w.heap.size + 1 + 1 + 1, m, none⟩ (.int .i64 (z + c)) (show w.heap.size + 1 + 1 ≠ w.heap.size + 1 + 1 + 1 by omega)
              have nb := QB.out.setCell (p := ⟨w.heap.size + 1 + 1 + 1, m, none⟩) (show w.heap.size ≤ w.heap.size + 1 + 1 + 1 by omega) (.int .i64 (z + c))
              go_roundw
              case rel => exact ⟨k + 1, Y.set m (z + c), by omega, by go_num, n1, n2, n3, n4, HN.out, nb⟩
              case measure => simp [intOf]; omega
            · as_aux_lemma =>
              have HN := Lib.hid (HST.out.2 hs)
              have hs2 : i + k - 256 < 256 := by omega
              have cz := blk_jv K4.out (i + k - 256) (by rw [LY.out]; exact hs2)
              obtain ⟨z1, z2⟩ : -(8380417 * (i : Int)) ≤ Y.getD (i + k - 256) 0 ∧ Y.getD (i + k - 256) 0 ≤ 8380417 * (i : Int) := by
                have hkm : kidx i (i + k - 256) = k := by unfold kidx; rw [if_neg (by omega)]; omega
                exact ((KI.out.2 (i + k - 256) hs2).2 (by omega)).2
              generalize Y.getD (i + k - 256) 0 = z at *
              have hsi : ¬ (i : Int) + k < 256 := by omega
              obtain ⟨m, hm⟩ : ∃ m, i + k - 256 = m := ⟨_, rfl⟩
              have e7 : (i : Int) + (k : Int) - 256 = (m : Int) := by omega
              rw [hm] at hs2 HN cz
              clear hm HST hs
              have CZ := Lib.hid cz
              clear cz
              go_wp2_with fail
              go_quiet (fail)
              have cz : (wr.drewN nq).cell? ⟨w.heap.size + 1 + 1 + 1, m, none⟩ = some (.int .i64 z) := CZ.out
              have Q1 := Lib.hid (K1.out.drewN nq)
              have Q2 := Lib.hid (K2.out.drewN nq)
              have Q3 := Lib.hid (K3.out.drewN nq)
              have Q4 := Lib.hid (K4.out.drewN nq)
              have QB := Lib.hid (below_drewN KB.out nq)
              clear CZ K1 K2 K3 K4 KI KB ca cb e2 e3 e4 e5 e6 hpr hbb
              generalize wr.drewN nq = wq at *
              have fz_ := Q4.out.free m
              have i3 : (m : Int) < 256 := by omega
              go_wp2_with fail
              have n4 := blk_jvSet Q4.out m (z - c)
              have n1 := Q1.out.other ⟨w.heap.size + 1 + 1 + 1, m, none⟩ (.int .i64 (z - c)) (show w.heap.size ≠ w.heap.size + 1 + 1 + 1 by omega)
              have n2 := Q2.out.other ⟨w.heap.size + 1 + 1 + 1, m, none⟩ (.int .i64 (z - c)) (show w.heap.size + 1 ≠ w.heap.size + 1 + 1 + 1 by omega)
              have n3 := Q3.out.other ⟨w.heap.size + 1 + 1 + 1, m, none⟩ (.int .i64 (z - c)) (show w.heap.size + 1 + 1 ≠ w.heap.size + 1 + 1 + 1 by omega)
              have nb := QB.out.setCell (p := ⟨w.heap.size + 1 + 1 + 1, m, none⟩) (show w.heap.size ≤ w.heap.size + 1 + 1 + 1 by omega) (.int .i64 (z - c))
              go_roundw
              case rel => exact ⟨k + 1, Y.set m (z - c), by omega, by go_num, n1, n2, n3, n4, HN.out, nb⟩
              case measure => simp [intOf]; omega
          · obtain rfl : k = 256 := by omega
            have HO := Lib.hid (inv_out h5 KI.out)
            go_wp2_with fail
            go_roundw
            case rel => exact ⟨i + 1, Y, by omega, by go_num, K1.out, K2.out, K3.out, K4.out, HO.out, KB.out⟩
            case measure => simp [intOf]; omega
    · obtain rfl : i = 256 := by omega
      rw [show ((256 : Nat) : Int) = 256 from rfl]
      have z23 := zero23
      have LZ := Lib.hid KI.out.1
      have HB := Lib.hid (fun (m : Nat) (hm : m < 256) => show -2145386752 ≤ Z.getD m 0 ∧ Z.getD m 0 ≤ 2145386752 from by have := (KI.out.2 m hm).2; omega)
      have HV := Lib.hid (fun (m : Nat) (hm : m < 256) => show ((q m).val : Int) = Z.getD m 0 % 8380417 from by rw [← HQ.out, ← (KI.out.2 m hm).1, fz_val])
      have N1 := Lib.hid (K3.out.alloc (.cells (iv zerI).toArray 23))
      have N2 := Lib.hid (K4.out.alloc (.cells (iv zerI).toArray 23))
      have N3 := Lib.hid (Blk.new wr 23 (iv zerI))
      have NB := Lib.hid (KB.out.alloc KB.out.size (.cells (iv zerI).toArray 23))
      have hgt : w.heap.size + 1 + 1 + 1 < wr.heap.size := K4.out.lt
      clear K1 K2 K3 K4 KI KB
      go_wp2_with fail
      clear z23
      obtain ⟨wy, hwy⟩ : ∃ wy, wr.alloc (.cells (iv zerI).toArray 23) = wy := ⟨_, rfl⟩
      rw [hwy] at N1 N2 N3 NB ⊢
      clear hwy
      generalize wr.heap.size = g9 at *
      go_loopw [10] (fun c wx => ∃ t : Nat, t ≤ 256 ∧ c = .int .i64 t ∧ Blk wx (w.heap.size + 1 + 1) 23 (iv zerI) ∧ Blk wx (w.heap.size + 1 + 1 + 1) 53 (jv Z) ∧ Blk wx g9 23 (iv (flI q t)) ∧ Below w.heap.size w wx) (fun c _ => 256 - (intOf c).toNat)
      case atStart => exact ⟨0, by omega, rfl, N1.out, N2.out, by rw [flI_zero]; exact N3.out, NB.out⟩
      case round =>
        clear N1 N2 N3 NB
        obtain ⟨t, ht, rfl, k1, k2, k3, hbel⟩ := hrel
        have K1 := Lib.hid k1
        have K2 := Lib.hid k2
        have K3 := Lib.hid k3
        clear k1 k2 k3
        by_cases h6 : t < 256
        · have hx := blk_jv K2.out t (by rw [LZ.out]; exact h6)
          obtain ⟨hb1, hb2⟩ := HB.out t h6
          have HM := Lib.hid (fun w => Mod_any (Z.getD t 0) w (by omega) (by omega))
          rw [← HV.out t h6] at HM
          have hc := K3.out.iv t (by rw [flI_len]; exact h6)
          have hf := K3.out.free t
          have HW := Lib.hid (flI_succ q t)
          have i1 : (t : Int) < 256 := by omega
          generalize Z.getD t 0 = z at *
          generalize q t = y at *
          go_wp2_with (first | (go_at_call 31; refine (HM.out _).mono ?_; rintro e w' ⟨rfl, rfl⟩))
          have k3 := K3.out.ivSet t (y.val : Int)
          rw [HW.out] at k3
          have k1 := K1.out.other ⟨g9, t, none⟩ (.int .i32 (y.val : Int)) (show w.heap.size + 1 + 1 ≠ g9 by omega)
          have k2 := K2.out.other ⟨g9, t, none⟩ (.int .i32 (y.val : Int)) (show w.heap.size + 1 + 1 + 1 ≠ g9 by omega)
          have hb2 := hbel.setCell (p := ⟨g9, t, none⟩) (show w.heap.size ≤ g9 by omega) (.int .i32 (y.val : Int))
          go_roundw
          case rel => exact ⟨t + 1, by omega, by go_num, k1, k2, k3, hb2⟩
          case measure => simp [intOf]; omega
        · obtain rfl : t = 256 := by omega
          rw [flI_all] at K3
          have HL := Lib.hid (PL_length q)
          obtain ⟨m, hm⟩ : ∃ m, PL q = m := ⟨_, rfl⟩
          rw [hm] at K3 HL
          have HMQ := Lib.hid hm
          clear hm
          go_wp2_with (first | (refine wpList_load_row rfl 23 (.tmp 9) rfl g9 rfl 23 (iv m).toArray (0, 0) _ K3.out Try.underlying23 rfl (j23 HL.out) ?_) | (refine wpList_store_row rfl 23 (.tmp 4) (.tmp 71) rfl (w.heap.size + 1 + 1) (iv m).toArray rfl rfl 23 (iv zerI).toArray K1.out (j23 HL.out) (by rw [iv_size, iv_size, HL.out, zerI_length]) (iv_all _) ?_))
          have j2 := K1.out.setRow (iv m)
          have hb2 := below_setRow' hbel (show w.heap.size ≤ w.heap.size + 1 + 1 by omega) (iv m).toArray
          refine bodyPost_ret (v := .agg (iv m).toArray) ?_ rfl ⟨by rw [HMQ.out], hb2⟩
          exact results_cell_row Try.results19 _ _ (w.heap.size + 1 + 1) 23 _ (0, 0) _ rfl j2 Try.underlying23 rfl (j23 HL.out)
end Go.Proofs.Ytbhhpopckchibaa
