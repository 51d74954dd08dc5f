/- Parts of proofs of statements, each text behind those that it stands on. No condition of its own. -/
import Derived.Test.YtfffmoolkgheaaaZ24
import Derived.Test.YtfffmoolkgheaaaZ30
import Derived.Test.YtfffmoolkgheaaaZ31
import Derived.Test.YtfffmoolkgheaaaZ32
import Derived.Test.YtfffmoolkgheaaaZ33
import Derived.Test.YtfffmoolkgheaaaZ34
import Derived.Test.YtfffmoolkgheaaaZ35
import Derived.Test.YtfffmoolkgheaaaZ36
import Derived.Test.YtfffmoolkgheaaaZ37
import Derived.Test.YtfffmoolkgheaaaZ39
namespace Go.Proofs.Ytfffmoolkgheaaa
open Go.RowKit
set_option linter.unusedVariables false
theorem right_g {n : Nat} [NeZero n] (x b : Fin n) : x * x * x - x - x - x + b = x * x * x - 3 * x + b := by grobner
def rightT (x : FP) : Nat → FP
  | 0 => x * x * x
  | t + 1 => rightT x t - x
theorem d_right (x : FP) : Ans 66 #[.agg (natsV .u64 (nw x)).toArray] (.agg (natsV .u64 (nw (rsF x))).toArray) := fun w => by
  have h := dright (Y := fun t => nw (rightT x t)) (nw_len x) (wds_len 4 mP) (nw_len _) (nw_len bP) (nw_len _) (fun _ => nw_len _) DP_any (d_mod x x) (d_mod _ x) (fun t _ w => d_modS (rightT x t) x w) dB_any (d_modA (rightT x 3) bP) w
  have e : rightT x 3 + bP = rsF x := right_g x bP
  rw [e] at h
  exact h
theorem d_on (x y : Nat) (i : Bool) (hx : x < 2 ^ 256) (hy : y < 2 ^ 256) : Ans 25 #[.agg (pv (wds 4 x) (wds 4 y) i).toArray] (.bool (onB x y i)) := fun w => by
  have less : ∀ a : Nat, a < 2 ^ 256 → Ans 64 #[.agg (natsV .u64 (wds 4 a)).toArray, .agg (natsV .u64 (wds 4 mP)).toArray] (.bool (decide (a < mP))) := fun a ha w => Less_any a mP w ha fld_P.lt
  cases i with
  | true =>
    have h := don_inf (wds_len 4 x) (wds_len 4 y) w
    rw [show decide (wds 4 x = zeros 4 ∧ wds 4 y = zeros 4) = decide (x = 0 ∧ y = 0) from by rw [decide_eq_decide, wds0 hx, wds0 hy]] at h
    exact h
  | false =>
    unfold onB
    rw [if_neg (by decide)]
    have l1 := less x hx
    have l2 := less y hy
    by_cases h1 : x < mP
    · rw [decide_eq_true h1] at l1 ⊢
      rw [Bool.true_and]
      by_cases h2 : y < mP
      · rw [decide_eq_true h2] at l2 ⊢
        rw [Bool.true_and]
        have ex : wds 4 x = nw (fv x) := by unfold nw; rw [fv_val, Nat.mod_eq_of_lt h1]
        have ey : wds 4 y = nw (fv y) := by unfold nw; rw [fv_val, Nat.mod_eq_of_lt h2]
        have h := don_c (wds_len 4 x) (wds_len 4 y) (wds_len 4 mP) (nw_len (fv y * fv y)) (nw_len (rsF (fv x))) DP_any l1 l2 (fun w => by rw [ey]; exact d_mod (fv y) (fv y) w) (fun w => by rw [ex]; exact d_right (fv x) w) w
        rw [show decide (nw (fv y * fv y) = nw (rsF (fv x))) = decide (fv y * fv y = rsF (fv x)) from decide_eq_decide.2 ⟨nw_inj, fun h => by rw [h]⟩] at h
        exact h
      · rw [decide_eq_false h2] at l2 ⊢
        rw [Bool.false_and]
        exact don_b (wds_len 4 x) (wds_len 4 y) (wds_len 4 mP) DP_any l1 l2 w
    · rw [decide_eq_false h1] at l1 ⊢
      rw [Bool.false_and]
      exact don_a (wds_len 4 x) (wds_len 4 y) (wds_len 4 mP) DP_any l1 l2 w
theorem three_mul {n : Nat} [NeZero n] (a i : Fin n) : (a + a + a) * i = 3 * a * i := by grobner
theorem one_nw : nw 1 = wds 4 1 := by unfold nw; rfl
theorem d_addP {P Q : EC.Pt mP} (hP : EC.On bP P) (hQ : EC.On bP Q) : Ans 39 #[ptV P, ptV Q] (ptV (EC.sum P Q)) := fun w => by
  cases P with
  | inf =>
    rw [EC.inf_sum, ptV_eq Q]
    exact dadd_a rfl rfl (pX_len Q) (pY_len Q) (wds_len 4 mP) DP_any w
  | aff x1 y1 =>
  cases Q with
  | inf =>
    rw [EC.sum_inf]
    exact dadd_b (nw_len x1) (nw_len y1) rfl rfl (wds_len 4 mP) DP_any w
  | aff x2 y2 =>
    rw [EC.sum_aff]
    by_cases hx : x1 = x2
    · subst hx
      by_cases hy : y1 + y2 = 0
      · rw [if_pos ⟨rfl, hy⟩]
        exact dadd_c (nw_len x1) (nw_len y1) (nw_len y2) (wds_len 4 mP) (nw_len _) DP_any (d_modA y1 y2) (nw_0.2 hy) w
      · rw [if_neg (fun h => hy h.2)]
        have hyy : y1 = y2 := (EC.two_of okP hP hQ).resolve_right hy
        subst hyy
        have hne : y1 + y1 ≠ 0 := hy
        have el : EC.slope x1 y1 x1 y1 = (x1 * x1 - 1 + (x1 * x1 - 1) + (x1 * x1 - 1)) * EC.iv (y1 + y1) := by unfold EC.slope; rw [if_pos rfl, three_mul]
        rw [el]
        exact dadd_d (nw_len x1) (nw_len y1) (nw_len y1) (wds_len 4 mP) (nw_len _) (nw_len _) (nw_len _) (nw_len _) (nw_len _) (nw_len _) (nw_len _) (nw_len _) (nw_len _) (nw_len _) (nw_len _) (nw_len _) (nw_len _) (nw_len _) (nw_len _) (nw_len _)
          DP_any (d_modA y1 y1) (d_modS y1 y1) (d_modS x1 x1) (d_mod x1 x1) (fun w => by rw [num_lit1, ← one_nw]; exact d_modS _ 1 w) (d_modA _ _) (d_modA _ _) (d_modA y1 y1) (d_inv _ hne) (d_mod _ _) (d_mod _ _) (d_modS _ x1) (d_modS _ x1) (d_modS x1 _) (d_mod _ _) (d_modS _ y1) (fun h => hy (nw_0.1 h)) w
    · rw [if_neg (fun h => hx h.1)]
      have hne := EC.sub_ne hx
      have el : EC.slope x1 y1 x2 y2 = (y2 - y1) * EC.iv (x2 - x1) := by unfold EC.slope; rw [if_neg hx]
      rw [el]
      exact dadd_e (nw_len x1) (nw_len y1) (nw_len x2) (nw_len y2) (wds_len 4 mP) (nw_len _) (nw_len _) (nw_len _) (nw_len _) (nw_len _) (nw_len _) (nw_len _) (nw_len _) (nw_len _) (nw_len _)
        DP_any (d_modS y2 y1) (d_modS x2 x1) (d_inv _ hne) (d_mod _ _) (d_mod _ _) (d_modS _ x1) (d_modS _ x2) (d_modS x1 _) (d_mod _ _) (d_modS _ y1) (fun h => hx (nw_inj h)) w
def tn (s : EC.Tr mP) : Value := .agg (tv (nw s.x) (nw s.y) (nw s.z)).toArray
theorem d_line (s t : EC.Tr mP) : Ans 86 #[tn s, tn t] (tn (EC.lineF s t)) := fun w => by
  unfold EC.lineF
  by_cases h1 : s.z = 0
  · rw [if_pos h1]
    exact dsum_a (nw_len _) (nw_len _) (nw_len _) (nw_len _) (nw_len _) (nw_len _) (nw_0.2 h1) w
  · rw [if_neg h1]
    have g1 : ¬ nw s.z = zeros 4 := fun h => h1 (nw_0.1 h)
    by_cases h2 : t.z = 0
    · rw [if_pos h2]
      exact dsum_b (nw_len _) (nw_len _) (nw_len _) (nw_len _) (nw_len _) (nw_len _) g1 (nw_0.2 h2) w
    · rw [if_neg h2]
      have g2 : ¬ nw t.z = zeros 4 := fun h => h2 (nw_0.1 h)
      by_cases hx : s.x * t.z = t.x * s.z
      · have kx : ∀ w, Calls Try.prog 87 #[.agg (natsV .u64 (nw t.x)).toArray, .agg (natsV .u64 (nw s.z)).toArray] w fun e w' => e = .returned (.agg (natsV .u64 (nw (s.x * t.z))).toArray) ∧ Below w.heap.size w w' := fun w => by rw [hx]; exact d_mul t.x s.z w
        simp only []
        rw [if_pos hx]
        by_cases hy : s.y * t.z + t.y * s.z = 0
        · rw [if_pos hy]
          have h := dsum_c (nw_len _) (nw_len _) (nw_len _) (nw_len _) (nw_len _) (nw_len _) (nw_len _) (nw_len _) (nw_len (s.x * t.z)) (nw_len _) (nw_len _) (nw_len _) (nw_len _)
            (d_mul s.y t.z) (d_mul t.y s.z) (d_mul s.x t.z) kx (d_mul s.z t.z) (d_sub _ _) (d_sub _ _) (d_add _ _) g1 g2 (nw_0.2 hy) w
          have e : tn ⟨0, 0, 0⟩ = .agg (tv (zeros 4) (zeros 4) (zeros 4)).toArray := by unfold tn; rw [nw_zero]
          rw [e]; exact h
        · rw [if_neg hy, ← hx]
          exact dsum_d (nw_len _) (nw_len _) (nw_len _) (nw_len _) (nw_len _) (nw_len _) (nw_len _) (nw_len _) (nw_len (s.x * t.z)) (nw_len _) (nw_len _) (nw_len _) (nw_len _) (nw_len _) (nw_len _) (nw_len _) (nw_len _) (nw_len _) (nw_len _) (nw_len _) (nw_len _) (nw_len _) (nw_len _) (nw_len _) (nw_len _) (nw_len _) (nw_len _) (nw_len _) (nw_len _) (nw_len _) (nw_len _) (nw_len _) (nw_len _) (nw_len _)
            (d_mul s.y t.z) (d_mul t.y s.z) (d_mul s.x t.z) kx (d_mul s.z t.z) (d_sub _ _) (d_sub _ _) (d_add _ _) (d_mul _ _) (d_mul _ _) (d_sub _ _) (d_add _ _) (d_add _ _) (d_add _ _) (d_mul _ _)
            (d_mul _ _) (d_mul _ _) (d_mul _ _) (d_add _ _) (d_mul _ _) (d_sub _ _) (d_mul _ _) (d_sub _ _) (d_mul _ _) (d_mul _ _) (d_mul _ _) (d_sub _ _) (d_mul _ _) (d_mul _ _) (d_mul _ _) g1 g2 (fun h => hy (nw_0.1 h)) w
      · simp only []
        rw [if_neg hx]
        exact dsum_e (nw_len _) (nw_len _) (nw_len _) (nw_len _) (nw_len _) (nw_len _) (nw_len _) (nw_len _) (nw_len _) (nw_len _) (nw_len _) (nw_len _) (nw_len _) (nw_len _) (nw_len _) (nw_len _) (nw_len _) (nw_len _) (nw_len _) (nw_len _) (nw_len _) (nw_len _) (nw_len _) (nw_len _) (nw_len _) (nw_len _) (nw_len _)
          (d_mul s.y t.z) (d_mul t.y s.z) (d_mul s.x t.z) (d_mul t.x s.z) (d_mul s.z t.z) (d_sub _ _) (d_sub _ _)
          (d_mul _ _) (d_mul _ _) (d_mul _ _) (d_add _ _) (d_mul _ _) (d_sub _ _) (d_mul _ _) (d_sub _ _) (d_mul _ _) (d_mul _ _) (d_mul _ _) (d_sub _ _) (d_mul _ _) (d_mul _ _) (d_mul _ _) g1 g2 (fun h => hx (nw_inj h)) w
def accL (O : EC.Tr mP) (u : Nat) : Nat → EC.Tr mP
  | 0 => ⟨0, 0, 0⟩
  | n + 1 => if u / 2 ^ (256 - (n + 1)) % 2 = 1 then EC.lineF (EC.lineF (accL O u n) (accL O u n)) O else EC.lineF (accL O u n) (accL O u n)
theorem accL_lin {P : EC.Pt mP} {O : EC.Tr mP} (hP : EC.On bP P) (hO : EC.Lin O P) {u : Nat} (hu : u < 2 ^ 256) : ∀ n, n ≤ 256 → EC.Lin (accL O u n) (EC.mul (u / 2 ^ (256 - n)) P)
  | 0, _ => by
    rw [Nat.sub_zero, Nat.div_eq_of_lt hu]
    exact (rfl : (0 : FP) = 0)
  | n + 1, hn => by
    have ih := accL_lin hP hO hu n (by omega)
    have m := fun k => EC.mul.on okP hP k
    have h1 := ih.plus okP (m _) (m _) ih
    rw [← EC.mul_bit okP hP] at h1
    have hb := half_bit u 256 n hn
    unfold accL
    split
    · rename_i h
      rw [h] at hb
      rw [hb]
      exact h1.plus okP (m _) hP hO
    · rename_i h
      have h0 : u / 2 ^ (256 - (n + 1)) % 2 = 0 := by omega
      rw [h0, Nat.add_zero] at hb
      rw [hb]
      exact h1
theorem acc_step (O : EC.Tr mP) (u t : Nat) (ht : t < 256) : accL O u (256 - t) = if u / 2 ^ t % 2 = 1 then EC.lineF (EC.lineF (accL O u (256 - (t + 1))) (accL O u (256 - (t + 1)))) O else EC.lineF (accL O u (256 - (t + 1))) (accL O u (256 - (t + 1))) := by
  have e : 256 - t = (256 - (t + 1)) + 1 := by omega
  rw [e]
  show (if u / 2 ^ (256 - (256 - (t + 1) + 1)) % 2 = 1 then _ else _) = _
  rw [show 256 - (256 - (t + 1) + 1) = t by omega]
theorem d_mulP {P : EC.Pt mP} (hP : EC.On bP P) (u : Nat) (hu : u < 2 ^ 256) : Ans 42 #[.agg (natsV .u64 (wds 4 u)).toArray, ptV P] (ptV (EC.mul u P)) := fun w => by
  have F := fun (f : EC.Tr mP → FP) (O : EC.Tr mP) => (fun t => nw_len (f (accL O u (256 - t))))
  cases P with
  | inf =>
    rw [EC.mul_inf]
    have hz := accL_lin (P := .inf) (O := ⟨0, 0, 0⟩) trivial (rfl : (0 : FP) = 0) hu 256 (Nat.le_refl _)
    rw [EC.mul_inf] at hz
    exact dmul_inf_inf (X := fun t => nw (accL ⟨0, 0, 0⟩ u (256 - t)).x) (Y := fun t => nw (accL ⟨0, 0, 0⟩ u (256 - t)).y) (Z := fun t => nw (accL ⟨0, 0, 0⟩ u (256 - t)).z)
      (DX := fun t => nw (EC.lineF (accL ⟨0, 0, 0⟩ u (256 - (t + 1))) (accL ⟨0, 0, 0⟩ u (256 - (t + 1)))).x) (DY := fun t => nw (EC.lineF (accL ⟨0, 0, 0⟩ u (256 - (t + 1))) (accL ⟨0, 0, 0⟩ u (256 - (t + 1)))).y) (DZ := fun t => nw (EC.lineF (accL ⟨0, 0, 0⟩ u (256 - (t + 1))) (accL ⟨0, 0, 0⟩ u (256 - (t + 1)))).z)
      (wds_len 4 u) (fun _ => nw_len _) (fun _ => nw_len _) (fun _ => nw_len _) (fun _ => nw_len _) (fun _ => nw_len _) (fun _ => nw_len _) rfl nw_zero nw_zero nw_zero
      (fun t _ w => d_line _ _ w) (fun t ht h => by rw [acc_step _ u t ht, if_neg (by omega)]; exact ⟨rfl, rfl, rfl⟩)
      (fun t ht h w => by
        have k := d_line (EC.lineF (accL ⟨0, 0, 0⟩ u (256 - (t + 1))) (accL ⟨0, 0, 0⟩ u (256 - (t + 1)))) ⟨0, 0, 0⟩ w
        have e := acc_step ⟨0, 0, 0⟩ u t ht
        rw [if_pos h] at e
        rw [← e] at k
        unfold tn at k
        rw [nw_zero] at k
        exact k) (nw_0.2 hz) w
  | aff x y =>
    have hO : EC.Lin (⟨x, y, 1⟩ : EC.Tr mP) (.aff x y) := ⟨by show (1 : FP) ≠ 0; decide, g_3 x, g_3 y⟩
    have hz := accL_lin (P := .aff x y) hP hO hu 256 (Nat.le_refl _)
    rw [Nat.sub_self, Nat.pow_zero, Nat.div_one] at hz
    have K : ∀ t, t < 256 → u / 2 ^ t % 2 = 1 → ∀ w, Calls Try.prog 86 #[tn (EC.lineF (accL ⟨x, y, 1⟩ u (256 - (t + 1))) (accL ⟨x, y, 1⟩ u (256 - (t + 1)))), .agg (tv (nw x) (nw y) (wds 4 1)).toArray] w fun e w' => e = .returned (tn (accL ⟨x, y, 1⟩ u (256 - t))) ∧ Below w.heap.size w w' := fun t ht h w => by
      have k := d_line (EC.lineF (accL ⟨x, y, 1⟩ u (256 - (t + 1))) (accL ⟨x, y, 1⟩ u (256 - (t + 1)))) ⟨x, y, 1⟩ w
      have e := acc_step ⟨x, y, 1⟩ u t ht
      rw [if_pos h] at e
      rw [← e, show tn ⟨x, y, 1⟩ = .agg (tv (nw x) (nw y) (wds 4 1)).toArray from by unfold tn; rw [one_nw]] at k
      exact k
    cases hm : EC.mul u (.aff x y) with
    | inf =>
      rw [hm] at hz
      exact dmul_aff_inf (X := fun t => nw (accL ⟨x, y, 1⟩ u (256 - t)).x) (Y := fun t => nw (accL ⟨x, y, 1⟩ u (256 - t)).y) (Z := fun t => nw (accL ⟨x, y, 1⟩ u (256 - t)).z)
        (DX := fun t => nw (EC.lineF (accL ⟨x, y, 1⟩ u (256 - (t + 1))) (accL ⟨x, y, 1⟩ u (256 - (t + 1)))).x) (DY := fun t => nw (EC.lineF (accL ⟨x, y, 1⟩ u (256 - (t + 1))) (accL ⟨x, y, 1⟩ u (256 - (t + 1)))).y) (DZ := fun t => nw (EC.lineF (accL ⟨x, y, 1⟩ u (256 - (t + 1))) (accL ⟨x, y, 1⟩ u (256 - (t + 1)))).z)
        (wds_len 4 u) (nw_len x) (nw_len y) (fun _ => nw_len _) (fun _ => nw_len _) (fun _ => nw_len _) (fun _ => nw_len _) (fun _ => nw_len _) (fun _ => nw_len _) rfl nw_zero nw_zero nw_zero
        (fun t _ w => d_line _ _ w) (fun t ht h => by rw [acc_step _ u t ht, if_neg (by omega)]; exact ⟨rfl, rfl, rfl⟩) K (nw_0.2 hz) w
    | aff X Y =>
      rw [hm] at hz
      obtain ⟨z0, ex, ey⟩ := hz
      have hi := inv_fp _ z0
      rw [← iv_fp _ z0] at hi
      have e1 : (accL ⟨x, y, 1⟩ u 256).x * EC.iv (accL ⟨x, y, 1⟩ u 256).z = X := by rw [ex, g_4, hi]; exact (g_3 X).symm
      have e2 : (accL ⟨x, y, 1⟩ u 256).y * EC.iv (accL ⟨x, y, 1⟩ u 256).z = Y := by rw [ey, g_4, hi]; exact (g_3 Y).symm
      exact dmul_aff_aff (X := fun t => nw (accL ⟨x, y, 1⟩ u (256 - t)).x) (Y := fun t => nw (accL ⟨x, y, 1⟩ u (256 - t)).y) (Z := fun t => nw (accL ⟨x, y, 1⟩ u (256 - t)).z)
        (DX := fun t => nw (EC.lineF (accL ⟨x, y, 1⟩ u (256 - (t + 1))) (accL ⟨x, y, 1⟩ u (256 - (t + 1)))).x) (DY := fun t => nw (EC.lineF (accL ⟨x, y, 1⟩ u (256 - (t + 1))) (accL ⟨x, y, 1⟩ u (256 - (t + 1)))).y) (DZ := fun t => nw (EC.lineF (accL ⟨x, y, 1⟩ u (256 - (t + 1))) (accL ⟨x, y, 1⟩ u (256 - (t + 1)))).z)
        (wds_len 4 u) (nw_len x) (nw_len y) (wds_len 4 mP) (nw_len _) (nw_len X) (nw_len Y) (fun _ => nw_len _) (fun _ => nw_len _) (fun _ => nw_len _) (fun _ => nw_len _) (fun _ => nw_len _) (fun _ => nw_len _) rfl nw_zero nw_zero nw_zero
        (fun t _ w => d_line _ _ w) (fun t ht h => by rw [acc_step _ u t ht, if_neg (by omega)]; exact ⟨rfl, rfl, rfl⟩) K (fun h => z0 (nw_0.1 h)) DP_any (d_inv _ z0) (fun w => by rw [← e1]; exact d_mul _ _ w) (fun w => by rw [← e2]; exact d_mul _ _ w) w
end Go.Proofs.Ytfffmoolkgheaaa
