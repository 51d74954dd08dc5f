/- Parts of proofs of statements, each text behind those that it stands on. No condition of its own. -/
import Derived.Test.YtdkkombpkojjaaaD17
import Derived.Test.YtdkkombpkojjaaaD24
import Derived.Test.YtdkkombpkojjaaaD25
namespace Go.Proofs.Ytdkkombpkojjaaa
set_option maxRecDepth 100000
set_option maxHeartbeats 1600000
open Go.RowKit
set_option linter.unusedVariables false
theorem three {n : Nat} [NeZero n] (x b : Fin n) : x * x * x - (x + x + x) + b = x * x * x - 3 * x + b := by grobner
def rsF (x : FP) : FP := x * x * x - 3 * x + bP
theorem k_rs (x : FP) : Ans 44 #[.agg (natsV .u64 (cw x)).toArray] (.agg (natsV .u64 (cw (rsF x))).toArray) := fun w => by
 have h := rside (cw_len x) (cw_len (fv bP.val)) (cw_len _) (cw_len _) (cw_len _) (cw_len _) (cw_len _) (cw_len _) (fun w => by rw [lit_B]; exact k_of bP.val (lt256 bP) w) (k_dbl x) (k_add _ x) (k_sq x) (k_mul _ x) (k_sub _ _) (k_add _ _) w
 rw [fv_of, three] at h
 exact h
def onB (x y : Nat) (i : Bool) : Bool := if i then decide (x = 0 ∧ y = 0) else decide (x < mP) && (decide (y < mP) && decide (fv y * fv y = rsF (fv x)))
theorem wds0 {x : Nat} (hx : x < 2 ^ 256) : wds 4 x = zeros 4 ↔ x = 0 := by
 rw [← num_zero]; exact ⟨fun h => wds_in4 hx (by decide) h, fun h => by rw [h]⟩
theorem k_on (x y : Nat) (i : Bool) (hx : x < 2 ^ 256) (hy : y < 2 ^ 256) : Ans 21 #[.agg (pv (wds 4 x) (wds 4 y) i).toArray] (.bool (onB x y i)) := fun w => by
 cases i with
 | true =>
   have h := on_inf (wds_len 4 x) (wds_len 4 y) cinf_any w
   rw [show decide (wds 4 x = zeros 4 ∧ wds 4 y = zeros 4) = decide (x = 0 ∧ y = 0) from by rw [decide_eq_decide, wds0 hx, wds0 hy]] at h
   exact h
 | false =>
   unfold onB
   rw [if_neg (by decide)]
   by_cases h1 : x < mP
   · have c1 : Ans 41 #[.agg (natsV .u64 (wds 4 x)).toArray] (.bool true) := fun w => by have k := cbelow_any x hx w; rw [decide_eq_true h1] at k; exact k
     rw [decide_eq_true h1, Bool.true_and]
     by_cases h2 : y < mP
     · have c2 : Ans 41 #[.agg (natsV .u64 (wds 4 y)).toArray] (.bool true) := fun w => by have k := cbelow_any y hy w; rw [decide_eq_true h2] at k; exact k
       rw [decide_eq_true h2, Bool.true_and]
       have h := on_c (wds_len 4 x) (wds_len 4 y) (cw_len _) (cw_len _) (cw_len _) (cw_len _) c1 c2 (k_of y hy) (k_sq _) (k_of x hx) (k_rs _) w
       rw [show decide (cw (fv y * fv y) = cw (rsF (fv x))) = decide (fv y * fv y = rsF (fv x)) from decide_eq_decide.2 ⟨cw_inj, fun h => by rw [h]⟩] at h
       exact h
     · have c2 : Ans 41 #[.agg (natsV .u64 (wds 4 y)).toArray] (.bool false) := fun w => by have k := cbelow_any y hy w; rw [decide_eq_false h2] at k; exact k
       rw [decide_eq_false h2, Bool.false_and]
       exact on_b (wds_len 4 x) (wds_len 4 y) c1 c2 w
   · have c1 : Ans 41 #[.agg (natsV .u64 (wds 4 x)).toArray] (.bool false) := fun w => by have k := cbelow_any x hx w; rw [decide_eq_false h1] at k; exact k
     rw [decide_eq_false h1, Bool.false_and]
     exact on_a (wds_len 4 x) (wds_len 4 y) c1 w
theorem k_onP {P : EC.Pt mP} (h : EC.On bP P) : Ans 21 #[ptV P] (.bool true) := fun w => by
 cases P with
 | inf =>
   have k := k_on 0 0 true (by decide) (by decide) w
   rw [num_zero] at k; exact k
 | aff X Y =>
   have k := k_on X.val Y.val false (lt256 X) (lt256 Y) w
   have e : onB X.val Y.val false = true := by
     unfold onB
     rw [if_neg (by decide), decide_eq_true X.isLt, decide_eq_true Y.isLt, fv_of, fv_of, Bool.true_and, Bool.true_and]
     exact decide_eq_true h
   rw [e] at k; exact k
def pX : EC.Pt mP → List Nat | .inf => zeros 4 | .aff x _ => nw x
def pY : EC.Pt mP → List Nat | .inf => zeros 4 | .aff _ y => nw y
def pI : EC.Pt mP → Bool | .inf => true | .aff _ _ => false
theorem ptV_eq (P : EC.Pt mP) : ptV P = .agg (pv (pX P) (pY P) (pI P)).toArray := by cases P <;> rfl
theorem pX_len (P : EC.Pt mP) : (pX P).length = 4 := by cases P; rfl; exact nw_len _
theorem pY_len (P : EC.Pt mP) : (pY P).length = 4 := by cases P; rfl; exact nw_len _
theorem k_al {P Q : EC.Pt mP} (hP : EC.On bP P) (hQ : EC.On bP Q) (g : Nat) (w : World) (h1 : w.rangeAt g 0 (pv (pX P) (pY P) (pI P))) (h2 : w.rangeAt g 9 (pv (pX Q) (pY Q) (pI Q))) :
   Calls Try.prog 37 #[.slice (some ⟨g, 0, none⟩) 2 2] w fun e w' => e = .returned (.bool true) ∧ Below w.heap.size w w' :=
 allon (b1 := true) (b2 := true) (pX_len P) (pY_len P) (pX_len Q) (pY_len Q) (fun w => by rw [← ptV_eq]; exact k_onP hP w) (fun w => by rw [← ptV_eq]; exact k_onP hQ w) g w h1 h2
def adT (P Q : EC.Pt mP) (k : Nat) : EC.Tr mP := if k = 0 then ⟨0, 0, 0⟩ else if k = 1 then trOf P else if k = 2 then trOf Q else EC.plusF (trOf P) (trOf Q)
def digit2 (u v s : Nat) : Nat := u / 2 ^ s % 2 + 2 * (v / 2 ^ s % 2)
def accT (P Q : EC.Pt mP) (u v T : Nat) : Nat → EC.Tr mP
 | 0 => ⟨0, 0, 0⟩
 | n + 1 => EC.plusF (EC.twiceF (accT P Q u v T n)) (adT P Q (digit2 u v (T - (n + 1))))
theorem adT_jac {P Q : EC.Pt mP} (hP : EC.On bP P) (hQ : EC.On bP Q) (i j : Nat) (hi : i < 2) (hj : j < 2) : EC.Jac (adT P Q (i + 2 * j)) (EC.sum (EC.mul i P) (EC.mul j Q)) := by
 have h1 : EC.mul 1 P = P := EC.inf_sum P
 have h2 : EC.mul 1 Q = Q := EC.inf_sum Q
 have hi' : i = 0 ∨ i = 1 := by omega
 have hj' : j = 0 ∨ j = 1 := by omega
 rcases hi' with rfl | rfl <;> rcases hj' with rfl | rfl
 · exact (rfl : (0 : FP) = 0)
 · rw [h2]; show EC.Jac (trOf Q) (EC.sum .inf Q); rw [EC.inf_sum]; exact trOf_jac Q
 · rw [h1]; show EC.Jac (trOf P) (EC.sum P .inf); rw [EC.sum_inf]; exact trOf_jac P
 · rw [h1, h2]; exact (trOf_jac P).plus okP hP hQ (trOf_jac Q)
theorem half_bit (u T n : Nat) (h : n + 1 ≤ T) : u / 2 ^ (T - (n + 1)) = 2 * (u / 2 ^ (T - n)) + u / 2 ^ (T - (n + 1)) % 2 := by
 have e : T - n = (T - (n + 1)) + 1 := by omega
 rw [e, Nat.pow_succ, ← Nat.div_div_eq_div_mul]; omega
theorem accT_jac {P Q : EC.Pt mP} (hP : EC.On bP P) (hQ : EC.On bP Q) {u v T : Nat} (hu : u < 2 ^ T) (hv : v < 2 ^ T) : ∀ n, n ≤ T → EC.Jac (accT P Q u v T n) (EC.sum (EC.mul (u / 2 ^ (T - n)) P) (EC.mul (v / 2 ^ (T - n)) Q))
 | 0, _ => by
   rw [Nat.sub_zero, Nat.div_eq_of_lt hu, Nat.div_eq_of_lt hv]
   exact (rfl : (0 : FP) = 0)
 | n + 1, hn => by
   have ih := accT_jac hP hQ hu hv n (by omega)
   have m := fun k => EC.mul.on okP hP k
   have m2 := fun k => EC.mul.on okP hQ k
   have h1 := ih.twice okP (EC.sum.on okP (m _) (m2 _))
   have h2 := h1.plus okP (EC.sum.on okP (EC.sum.on okP (m _) (m2 _)) (EC.sum.on okP (m _) (m2 _))) (EC.sum.on okP (m _) (m2 _)) (adT_jac hP hQ (u / 2 ^ (T - (n + 1)) % 2) (v / 2 ^ (T - (n + 1)) % 2) (Nat.mod_lt _ (by decide)) (Nat.mod_lt _ (by decide)))
   rw [EC.swap4 okP (m _) (m2 _) (m _) (m2 _), ← EC.mul_bit okP hP, ← EC.mul_bit okP hQ, EC.swap4 okP (m _) (m2 _) (m _) (m2 _), ← EC.mul_add okP hP, ← EC.mul_add okP hQ, ← half_bit u T n hn, ← half_bit v T n hn] at h2
   exact h2
theorem ad_cw (P Q : EC.Pt mP) (f : EC.Tr mP → FP) (hf : f ⟨0, 0, 0⟩ = 0) (k : Nat) : ad k (zeros 4) (cw (f (trOf P))) (cw (f (trOf Q))) (cw (f (EC.plusF (trOf P) (trOf Q)))) = cw (f (adT P Q k)) := by
 unfold ad adT
 split
 · rw [hf, cw_zero]
 · split
   · rfl
   · split <;> rfl
theorem k_multi (P Q : EC.Pt mP) (u v : Nat) (hu : u < 2 ^ 256) (hv : v < 2 ^ 256) :
   Ans 38 #[.agg (natsV .u64 (wds 4 u)).toArray, tj (trOf P), .agg (natsV .u64 (wds 4 v)).toArray, tj (trOf Q)] (tj (accT P Q u v (max (bl u) (bl v)) (max (bl u) (bl v)))) := fun w => by
 have hbu := (bl_le_iff 256 u).2 hu
 have hbv := (bl_le_iff 256 v).2 hv
 obtain ⟨T, hT⟩ : ∃ T, T = max (bl u) (bl v) := ⟨_, rfl⟩
 have hT2 : T ≤ 256 := by omega
 rw [← hT]
 have S : ∀ t, t < T → T - t = (T - (t + 1)) + 1 := fun t h => by omega
 have h := multiples_w (X := fun t => cw (accT P Q u v T (T - t)).x) (Y := fun t => cw (accT P Q u v T (T - t)).y) (Z := fun t => cw (accT P Q u v T (T - t)).z)
   (DX := fun t => cw (EC.twiceF (accT P Q u v T (T - (t + 1)))).x) (DY := fun t => cw (EC.twiceF (accT P Q u v T (T - (t + 1)))).y) (DZ := fun t => cw (EC.twiceF (accT P Q u v T (T - (t + 1)))).z)
   (bu := fun t => u / 2 ^ t % 2) (bv := fun t => v / 2 ^ t % 2) (T := T)
   (wds_len 4 u) (wds_len 4 v) (cw_len _) (cw_len _) (cw_len _) (cw_len _) (cw_len _) (cw_len _) (cw_len _) (cw_len _) (cw_len _) (fun _ => cw_len _) (fun _ => cw_len _) (fun _ => cw_len _) (fun _ => cw_len _) (fun _ => cw_len _) (fun _ => cw_len _)
   (fun t => by have := Nat.mod_lt (u / 2 ^ t) (show 0 < 2 by decide); omega) (fun t => by have := Nat.mod_lt (v / 2 ^ t) (show 0 < 2 by decide); omega) hT2 (by omega)
   (by rw [Nat.sub_self]; exact cw_zero) (by rw [Nat.sub_self]; exact cw_zero) (by rw [Nat.sub_self]; exact cw_zero)
   (k_plus (trOf P) (trOf Q)) (fun w => Bits_any u w hu) (fun w => Bits_any v w hv)
   (fun t ht w => k_twice (accT P Q u v T (T - (t + 1))) w)
   (fun t ht w => by have k := Bit_any u (t : Int) w (by omega) (by omega); rw [bitZ_in u t (by omega)] at k; exact k)
   (fun t ht w => by have k := Bit_any v (t : Int) w (by omega) (by omega); rw [bitZ_in v t (by omega)] at k; exact k)
   (fun t ht w => by
     have k := k_plus (EC.twiceF (accT P Q u v T (T - (t + 1)))) (adT P Q (digit2 u v t)) w
     have e : accT P Q u v T (T - t) = EC.plusF (EC.twiceF (accT P Q u v T (T - (t + 1)))) (adT P Q (digit2 u v t)) := by
       rw [S t ht]
       show EC.plusF _ (adT P Q (digit2 u v (T - (T - (t + 1) + 1)))) = _
       rw [show T - (T - (t + 1) + 1) = t by omega]
     rw [← e] at k
     have ax := ad_cw P Q EC.Tr.x rfl (digit2 u v t)
     have ay := ad_cw P Q EC.Tr.y rfl (digit2 u v t)
     have az := ad_cw P Q EC.Tr.z rfl (digit2 u v t)
     have k2 : Calls Try.prog 58 #[.agg (tv (cw (EC.twiceF (accT P Q u v T (T - (t + 1)))).x) (cw (EC.twiceF (accT P Q u v T (T - (t + 1)))).y) (cw (EC.twiceF (accT P Q u v T (T - (t + 1)))).z)).toArray, .agg (tv (cw (adT P Q (digit2 u v t)).x) (cw (adT P Q (digit2 u v t)).y) (cw (adT P Q (digit2 u v t)).z)).toArray] w fun e w' => e = .returned (.agg (tv (cw (accT P Q u v T (T - t)).x) (cw (accT P Q u v T (T - t)).y) (cw (accT P Q u v T (T - t)).z)).toArray) ∧ Below w.heap.size w w' := k
     rw [← ax, ← ay, ← az] at k2
     exact k2) w
 exact h
theorem k_twoP {P Q : EC.Pt mP} (hP : EC.On bP P) (hQ : EC.On bP Q) (u v : Nat) (hu : u < 2 ^ 256) (hv : v < 2 ^ 256) :
   Ans 19 #[.agg (natsV .u64 (wds 4 u)).toArray, ptV P, .agg (natsV .u64 (wds 4 v)).toArray, ptV Q] (.tuple #[ptV (EC.sum (EC.mul u P) (EC.mul v Q)), .int .i64 0]) := fun w => by
 have hJ := accT_jac hP hQ (u := u) (v := v) (T := max (bl u) (bl v)) ((bl_le_iff _ u).1 (by omega)) ((bl_le_iff _ v).1 (by omega)) _ (Nat.le_refl _)
 rw [Nat.sub_self, Nat.pow_zero, Nat.div_one, Nat.div_one] at hJ
 rw [ptV_eq P, ptV_eq Q, ptV_eq (EC.sum (EC.mul u P) (EC.mul v Q))]
 exact two_ok (wds_len 4 u) (wds_len 4 v) (pX_len P) (pY_len P) (pX_len Q) (pY_len Q) (cw_len _) (cw_len _) (cw_len _) (cw_len _) (cw_len _) (cw_len _) (cw_len _) (cw_len _) (cw_len _) (pX_len _) (pY_len _)
   (fun w => by rw [← ptV_eq]; exact k_tof P w) (fun w => by rw [← ptV_eq]; exact k_tof Q w) (k_multi P Q u v hu hv) (fun w => by rw [← ptV_eq]; exact k_point hJ w) (k_al hP hQ) w
theorem k_mulP {P : EC.Pt mP} (hP : EC.On bP P) (u : Nat) (hu : u < 2 ^ 256) : Ans 7 #[.agg (natsV .u64 (wds 4 u)).toArray, ptV P] (.tuple #[ptV (EC.mul u P), .int .i64 0]) := fun w => by
 have h := k_twoP hP (Q := .inf) trivial u 0 hu (by decide)
 rw [show EC.mul 0 (.inf : EC.Pt mP) = .inf from rfl, EC.sum_inf, ptV_eq P, ptV_eq (EC.mul u P)] at h
 rw [ptV_eq P, ptV_eq (EC.mul u P)]
 exact mul_w (wds_len 4 u) (pX_len P) (pY_len P) (pX_len _) (pY_len _) cinf_any (fun w => by have k := h w; rw [num_zero] at k; exact k) w
theorem mulG_mod (k : Nat) : EC.mul (k % mN) gP = EC.mul k gP := by
 have h : k = mN * (k / mN) + k % mN := (Nat.div_add_mod k mN).symm
 have e : EC.mul (mN * (k / mN) + k % mN) gP = EC.mul (k % mN) gP := by
   rw [EC.mul_add okP on_gP, EC.mul_mul okP on_gP, nG, EC.mul_inf, EC.inf_sum]
 rw [← h] at e
 exact e.symm
theorem mulG_congr {i k : Nat} (h : i % mN = k % mN) : EC.mul i gP = EC.mul k gP := by rw [← mulG_mod i, h, mulG_mod]
theorem mulG_sum (i k : Nat) : EC.sum (EC.mul i gP) (EC.mul k gP) = EC.mul (i + k) gP := (EC.mul_add okP on_gP i k).symm
theorem mulG_mul (d v : Nat) : EC.mul v (EC.mul d gP) = EC.mul (d * v) gP := (EC.mul_mul okP on_gP d v).symm
theorem on_mulG (k : Nat) : EC.On bP (EC.mul k gP) := EC.mul.on okP on_gP k
theorem mulG_neg {j k : Nat} (h : (j + k) % mN = 0) : EC.mul k gP = EC.neg (EC.mul j gP) := by
 have h1 : EC.sum (EC.mul j gP) (EC.mul k gP) = .inf := by
   rw [mulG_sum, ← mulG_mod, h]; rfl
 have h2 := EC.cancel okP (on_mulG j) (on_mulG k)
 rw [h1, EC.sum_inf] at h2
 exact h2.symm
theorem ndvd {s : Nat} (h : s % mN ≠ 0) : ¬ mN ∣ s := fun ⟨c, e⟩ => h (by rw [e, Nat.mul_mod_right])
def wN (s : Nat) : Nat := s ^ (mN - 2) % mN
theorem pow_step (s m : Nat) (h : 2 ≤ m) : s * s ^ (m - 2) = s ^ (m - 1) := by
 have e : m - 1 = (m - 2) + 1 := by omega
 rw [e, Nat.pow_succ, Nat.mul_comm]
theorem inv_gen {m s : Nat} (hp : IsPrime m) (h2 : 2 ≤ m) (hs : ¬ m ∣ s) : s * (s ^ (m - 2) % m) % m = 1 := by
 rw [mulmod_right, pow_step s m h2]
 exact fermat hp hs
theorem mN2 : 2 ≤ mN := by decide
theorem wN_mul {s : Nat} (h : s % mN ≠ 0) : s * wN s % mN = 1 := inv_gen prime_mN mN2 (ndvd h)
theorem wN_lt (s : Nat) : wN s < mN := Nat.mod_lt _ (by decide)
theorem dG_ne {d : Nat} (h : d % mN ≠ 0) : EC.mul d gP ≠ .inf := by
 intro h0
 have h1 : EC.mul (d * wN d) gP = .inf := by rw [EC.mul_mul okP on_gP, h0, EC.mul_inf]
 rw [← mulG_mod, wN_mul h] at h1
 have h2 : EC.mul 1 gP = gP := by show EC.sum .inf gP = gP; exact EC.inf_sum _
 rw [h2] at h1
 cases h1
theorem key_eq {e r d s k w u v : Nat} (hw : s * w % mN = 1) (hu : u % mN = e * w % mN) (hv : v % mN = r * w % mN) (hs : s * k % mN = (e + r * d) % mN) :
   (u + d * v) % mN = k % mN := by
 have h1 : (u + d * v) % mN = (e * w + d * (r * w)) % mN := by
   rw [Nat.add_mod, hu, Nat.mul_mod d v, hv, ← Nat.mul_mod, ← Nat.add_mod]
 have h2 : e * w + d * (r * w) = (e + r * d) * w := by
   rw [Nat.add_mul, Nat.mul_left_comm, Nat.mul_assoc]
 rw [h1, h2, Nat.mul_mod, ← hs, ← Nat.mul_mod, Nat.mul_right_comm, Nat.mul_mod, hw, Nat.one_mul, Nat.mod_mod]
theorem sum_G (u v d : Nat) : EC.sum (EC.mul u gP) (EC.mul v (EC.mul d gP)) = EC.mul (u + d * v) gP := by rw [mulG_mul, mulG_sum]
theorem sk_eq {z k : Nat} (hk : k % mN ≠ 0) : z * wN k % mN * k % mN = z % mN := by
 rw [mulmod_left, Nat.mul_assoc, Nat.mul_comm (wN k) k, Nat.mul_mod, wN_mul hk, Nat.mul_one, Nat.mod_mod]
theorem prod_neg (a s b q : Nat) : a * b + ((b + q) * s + (a + s) * q) = (a + s) * (b + q) + s * q := by
 simp only [Nat.add_mul, Nat.mul_add]
 rw [Nat.mul_comm b s, Nat.mul_comm q s]
 omega
theorem negs_gen {m s q : Nat} (hs : s ≤ m) (hq : q ≤ m) : (m - s) * (m - q) % m = s * q % m := by
 have h := prod_neg (m - s) s (m - q) q
 rw [Nat.sub_add_cancel hs, Nat.sub_add_cancel hq, ← Nat.mul_add] at h
 have h2 : ((m - s) * (m - q) + m * (s + q)) % m = (m - s) * (m - q) % m := Nat.add_mul_mod_self_left _ _ _
 rw [← h2, h, Nat.add_comm, Nat.add_mul_mod_self_left]
theorem negs {s k : Nat} (hs : s ≤ mN) {x : Nat} (h : s * k % mN = x % mN) : (mN - s) * (mN - k % mN) % mN = x % mN := by
 rw [negs_gen hs (Nat.le_of_lt (Nat.mod_lt _ (by decide))), mulmod_right, h]
set_option linter.unusedSimpArgs false
theorem num_zero0 : wds 4 0 = zeros 4 := by decide +kernel
theorem placeOf_any (n : Nat) (w : World) (hn : n < 256) : Calls Try.prog 45 #[.int .i64 (n : Nat)] w fun e w' => e = .returned (.tuple #[.int .i64 (n / 8 : Nat), .int .i64 (8 * (n % 8) : Nat)]) ∧ w = w' := by
 go_enter Try.func45, Try.ntmps45
 go_wp2_with fail
 go_ret2
 exact ⟨by simp, rfl⟩
theorem numberOf_any (A : Option Addr) (n c : Nat) (l : List Nat) (w : World) (hn : n ≤ 32) (h : BIn w A n c l) :
   Calls Try.prog 71 #[.slice A n c] w fun e w' => e = .returned (.agg (natsV .u64 (wds 4 (be l))).toArray) ∧ Below w.heap.size w w' := by
 have HIN := Hd h
 have HLEN := Hd h.1.1
 have HLT := Hd h.1.2.2.1
 have LS := Hd (wds_len 4 (be l))
 clear h
 have HU0 := Hd (show tell (dgt (2 ^ 64) (upTo l 0)) 4 = zeros 4 by rw [upTo_zero]; rfl)
 have HU1 := Hd (show tell (dgt (2 ^ 64) (upTo l n)) 4 = wds 4 (be l) by rw [← HLEN.out, upTo_all]; rfl)
 have HUS := Hd (fun t (ht : t < n) (hv : l.getD t 0 < 256) => upTo_word l t (by rw [HLEN.out]; exact ht) hv (by rw [HLEN.out]; exact hn))
 rw [HLEN.out] at HUS
 generalize wds 4 (be l) = ls at *
 have B1 := Hd ((Blk.new w 24 (natsV .u64 (zeros 4))).alloc (.cells (natsV .u64 (zeros 4)).toArray 24))
 have B2 := Hd (Blk.new2 w (.cells (natsV .u64 (zeros 4)).toArray 24) 24 (natsV .u64 (zeros 4)))
 have BEL := Hd (((Below.refl w.heap.size w).alloc (Nat.le_refl _) (.cells (natsV .u64 (zeros 4)).toArray 24)).alloc (by simp) (.cells (natsV .u64 (zeros 4)).toArray 24))
 go_enter Try.func71, Try.ntmps71
 go_wp2_with fail
 go_loopw [10] (fun i wr => ∃ t : Nat, t ≤ n ∧ i = .int .i64 t ∧ Blk wr w.heap.size 24 (natsV .u64 (zeros 4)) ∧ Blk wr (w.heap.size + 1) 24 (natsV .u64 (tell (dgt (2 ^ 64) (upTo l t)) 4)) ∧ Below w.heap.size w wr) (fun i _ => n - (intOf i).toNat)
 case atStart => exact ⟨0, by omega, rfl, B1.out, by rw [HU0.out]; exact B2.out, BEL.out⟩
 case round =>
   clear B1 B2 BEL HU0
   obtain ⟨t, ht, rfl, k1, k2, hbel⟩ := hrel
   have K1 := Hd k1
   have K2 := Hd k2
   clear k1 k2
   by_cases h5 : t < n
   · as_aux_lemma =>
     have hti : (t : Int) < (n : Int) := by omega
     obtain ⟨b0, o0, rfl, hc⟩ := HIN.out.1.2.2.2.resolve_left (by omega)
     have c0 := (hbel.cell (World.block_lt_of_cell? w _ (hc t h5))).trans (hc t h5)
     have hlt := getD_lt HLT.out t
     have HUT := Hd (HUS.out t h5 hlt)
     clear hc
     obtain ⟨p, hp⟩ : ∃ p, p = n - 1 - t := ⟨_, rfl⟩
     rw [← hp] at HUT
     have e1 : IntKind.i64.wrap ((n : Int) - 1) = (n : Int) - 1 := IntWalk.i64_in _ (by omega)
     have e2 : (n : Int) - 1 - (t : Int) = (p : Int) := by omega
     have HPL := Hd (fun w => placeOf_any p w (by omega))
     obtain ⟨j, hj⟩ : ∃ j, j = p / 8 := ⟨_, rfl⟩
     obtain ⟨s, hs⟩ : ∃ s, s = 8 * (p % 8) := ⟨_, rfl⟩
     rw [← hj, ← hs] at HPL HUT
     have hj4 : j < 4 := by omega
     have hji : (j : Int) < 4 := by omega
     have hs64 : s < 57 := by omega
     clear hj hs hp e1
     generalize l.getD t 0 = v at *
     have c1 := K2.out.nat j (by rw [tell_length]; exact hj4)
     have f1 := K2.out.free j
     rw [tell_getD _ _ _ hj4] at c1
     have HD := dgt_lt (B := 2 ^ 64) (by decide) (upTo l t) j
     obtain ⟨d, hd⟩ : ∃ d, d = dgt (2 ^ 64) (upTo l t) j := ⟨_, rfl⟩
     rw [← hd] at c1 HD HUT
     have HDD := Hd hd
     clear hd
     obtain ⟨u, hu⟩ : ∃ u, u = v * 2 ^ s := ⟨_, rfl⟩
     rw [← hu] at HUT
     have hul : u < 2 ^ 64 := by
       rw [hu]
       have h1 : v * 2 ^ s < 2 ^ 8 * 2 ^ s := Nat.mul_lt_mul_of_pos_right hlt (Nat.two_pow_pos s)
       rw [← Nat.pow_add] at h1
       exact Nat.lt_of_lt_of_le h1 (Nat.pow_le_pow_right (by decide) (by omega))
     have r1 : IntKind.u64.wrap ((v : Int) * 2 ^ s) = (u : Int) := by rw [cast_pow, ← Int.natCast_mul, ← hu, u64_cut, Nat.mod_eq_of_lt hul]
     have r1b : IntKind.u64.wrap (v : Int) = (v : Int) := by rw [u64_cut, Nat.mod_eq_of_lt (by omega)]
     obtain ⟨nv, hnv⟩ : ∃ nv, nv = d ||| u := ⟨_, rfl⟩
     rw [← hnv] at HUT
     have r2 : bits .or .u64 (d : Int) (u : Int) = (nv : Int) := by rw [hnv]; exact u64_or_nat d u HD hul
     clear hu hnv hul
     go_wp2_with fail
     refine (HPL.out _).mono ?_
     rintro e w1 ⟨rfl, rfl⟩
     go_wp2_with fail
     go_region
     all_goals
       have n1 := K1.out.other ⟨w.heap.size + 1, j, none⟩ (.int .u64 (nv : Nat)) (by simp)
       have n2 := K2.out.natSet j nv
       have hb2 := hbel.setCell (p := ⟨w.heap.size + 1, j, none⟩) (by simp) (.int .u64 (nv : Nat))
       clear r1 r1b r2 c1 f1 c0 e2
       rw [HUT.out] at n2
       have N1 := Hd n1.drew
       have N2 := Hd n2.drew
       have hb3 := hb2.drew
       clear n1 n2 K1 K2 hb2 hbel
       go_wp2_with fail
       go_roundw
       case rel => exact ⟨t + 1, by omega, by go_num, N1.out, N2.out, hb3⟩
       case measure => simp [intOf] <;> omega
   · obtain rfl : t = n := by omega
     rw [HU1.out] at K2
     have j2 := K1.out.setRow (natsV .u64 ls)
     have hb2 := below_setRow' hbel (Nat.le_refl _) (natsV .u64 ls).toArray
     go_wp2_with (first | (refine ld24 rfl (.tmp 3) rfl (w.heap.size + 1) rfl ls K2.out LS.out ?_) | (refine st24 rfl (.tmp 2) (.tmp 34) rfl w.heap.size rfl ls rfl LS.out (zeros 4) K1.out rfl ?_))
     refine bodyPost_ret (v := .agg (natsV .u64 ls).toArray) ?_ rfl ⟨rfl, hb2⟩
     exact ret24 Try.results71 _ _ w.heap.size ls rfl j2 LS.out
def ofE (n : Nat) : Int := if n = 32 then 0 else 41
def ofV (n : Nat) (l : List Nat) : Nat := if n = 32 then be l else 0
theorem Of_any (A : Option Addr) (n c : Nat) (l : List Nat) (w : World) (hn : n ≤ 140737488355328) (h : BIn w A n c l) :
   Calls Try.prog 48 #[.slice A n c] w fun e w' => e = .returned (.tuple #[.agg (natsV .u64 (wds 4 (ofV n l))).toArray, .int .i64 (ofE n)]) ∧ Below w.heap.size w w' := by
 have HIN := Hd h
 clear h
 by_cases h32 : n = 32
 · subst h32
   have HN := Hd (fun (w : World) (h : BIn w A 32 c l) => numberOf_any A 32 c l w (by omega) h)
   rw [show ofV 32 l = be l from rfl, show ofE 32 = 0 from rfl]
   have LS := Hd (wds_len 4 (be l))
   generalize wds 4 (be l) = ls at *
   have B1 := Hd (Blk.new w 24 (natsV .u64 (zeros 4)))
   have BEL := Hd ((Below.refl w.heap.size w).alloc (Nat.le_refl _) (.cells (natsV .u64 (zeros 4)).toArray 24))
   have HI2 := Hd (HIN.out.below ((Below.refl _ _).alloc (Nat.le_refl _) (.cells (natsV .u64 (zeros 4)).toArray 24)))
   go_enter Try.func48, Try.ntmps48
   go_wp2_with fail
   refine (HN.out _ HI2.out).mono ?_
   rintro e w1 ⟨rfl, hb1⟩
   have J1 := Hd (B1.out.below' hb1)
   have hbel := BEL.out.trans (hb1.mono BEL.out.size)
   have j2 := J1.out.setRow (natsV .u64 ls)
   have hb2 := below_setRow' hbel (Nat.le_refl _) (natsV .u64 ls).toArray
   clear hb1 B1 BEL HI2
   go_wp2_with (refine st24 rfl (.tmp 2) (.tmp 9) rfl w.heap.size rfl ls rfl LS.out (zeros 4) J1.out rfl ?_)
   refine bodyPost_ret (v := .tuple #[.agg (natsV .u64 ls).toArray, .int .i64 0]) ?_ rfl ⟨rfl, hb2⟩
   exact ret24x Try.results48 _ _ w.heap.size ls _ rfl rfl j2 LS.out
 · rw [show ofV n l = 0 from if_neg h32, show ofE n = 41 from if_neg h32, num_zero0]
   have hne : ((n : Int) != 32) = true := by rw [bne_iff_ne]; omega
   have B1 := Hd (Blk.new w 24 (natsV .u64 (zeros 4)))
   have BEL := Hd ((Below.refl w.heap.size w).alloc (Nat.le_refl _) (.cells (natsV .u64 (zeros 4)).toArray 24))
   have j2 := B1.out.setRow (natsV .u64 (zeros 4))
   have hb2 := below_setRow' BEL.out (Nat.le_refl _) (natsV .u64 (zeros 4)).toArray
   go_enter Try.func48, Try.ntmps48
   go_wp2_with (refine st24 rfl (.tmp 2) (.tmp 7) rfl w.heap.size rfl (zeros 4) rfl rfl (zeros 4) B1.out rfl ?_)
   refine bodyPost_ret (v := .tuple #[.agg (natsV .u64 (zeros 4)).toArray, .int .i64 41]) ?_ rfl ⟨rfl, hb2⟩
   exact ret24x Try.results48 _ _ w.heap.size (zeros 4) _ rfl rfl j2 rfl
theorem Bytes_any (x : Nat) (w : World) : Calls Try.prog 22 #[.agg (natsV .u64 (wds 4 x)).toArray] w fun e w' => e = .returned (.agg (natsV .u8 (bytesOf_ x)).toArray) ∧ Below w.heap.size w w' := by
 have LA := Hd (wds_len 4 x)
 have AA := Hd (wds_at 4 x)
 have LS := Hd (bytesOf_len x)
 have HS := Hd (show bytesOf_ x = tell (fun i => dgt 256 x (31 - i)) 32 from rfl)
 generalize wds 4 x = la at *
 generalize bytesOf_ x = ls at *
 have B1 := Hd (((Blk.new w 24 (natsV .u64 la)).alloc (.cells (natsV .u8 (zeros 32)).toArray 49)).alloc (.cells (natsV .u8 (zeros 32)).toArray 49))
 have B2 := Hd ((Blk.new2 w (.cells (natsV .u64 la).toArray 24) 49 (natsV .u8 (zeros 32))).alloc (.cells (natsV .u8 (zeros 32)).toArray 49))
 have B3 := Hd (Blk.new3 w (.cells (natsV .u64 la).toArray 24) (.cells (natsV .u8 (zeros 32)).toArray 49) 49 (natsV .u8 (zeros 32)))
 have BEL := Hd ((((Below.refl w.heap.size w).alloc (Nat.le_refl _) (.cells (natsV .u64 la).toArray 24)).alloc (by simp) (.cells (natsV .u8 (zeros 32)).toArray 49)).alloc (by simp; omega) (.cells (natsV .u8 (zeros 32)).toArray 49))
 go_enter Try.func22, Try.ntmps22
 go_wp2_with fail
 go_loopw [7] (fun i wr => ∃ t : Nat, t ≤ 32 ∧ i = .int .i64 t ∧ Blk wr w.heap.size 24 (natsV .u64 la) ∧ Blk wr (w.heap.size + 1) 49 (natsV .u8 (zeros 32)) ∧ Blk wr (w.heap.size + 1 + 1) 49 (natsV .u8 (tell (fun i => dgt 256 x (31 - i)) t ++ zeros (32 - t))) ∧ Below w.heap.size w wr) (fun i _ => 32 - (intOf i).toNat)
 case atStart => exact ⟨0, by omega, rfl, B1.out, B2.out, B3.out, BEL.out⟩
 case round =>
   clear B1 B2 B3 BEL
   obtain ⟨t, ht, rfl, k1, k2, k3, hbel⟩ := hrel
   have K1 := Hd k1
   have K2 := Hd k2
   have K3 := Hd k3
   clear k1 k2 k3
   by_cases h5 : t < 32
   · as_aux_lemma =>
     have hti : (t : Int) < 32 := by omega
     have HSET := Hd (fill_tell (fun i => dgt 256 x (31 - i)) 32 t h5)
     obtain ⟨p, hp⟩ : ∃ p, p = 31 - t := ⟨_, rfl⟩
     have e1 : 31 - (t : Int) = (p : Int) := by omega
     have HPL := Hd (fun w => placeOf_any p w (by omega))
     obtain ⟨j, hj⟩ : ∃ j, j = p / 8 := ⟨_, rfl⟩
     obtain ⟨s, hs⟩ : ∃ s, s = 8 * (p % 8) := ⟨_, rfl⟩
     have HBW := Hd (byte_word x j (p % 8) (by omega))
     rw [show 8 * j + p % 8 = 31 - t by omega, ← hs] at HBW
     rw [← hj, ← hs] at HPL
     have hj4 : j < 4 := by omega
     have hji : (j : Int) < 4 := by omega
     have hs64 : s < 57 := by omega
     clear hj hs hp
     have c1 := K1.out.nat j (by rw [LA.out]; exact hj4)
     rw [AA.out j hj4] at c1
     have c3 := K3.out.nat t (by simp [tell_length, zeros]; omega)
     have f3 := K3.out.free t
     generalize dgt (2 ^ 64) x j = d at *
     obtain ⟨q, hq⟩ : ∃ q, q = d / 2 ^ s := ⟨_, rfl⟩
     rw [← hq] at HBW
     have r1 : (d : Int) / 2 ^ s = (q : Int) := by rw [hq]; simp
     obtain ⟨nv, hnv⟩ : ∃ nv, nv = q % 256 := ⟨_, rfl⟩
     rw [← hnv] at HBW
     have r2 : IntKind.u8.wrap (q : Int) = (nv : Int) := by rw [IntKind.wrap_u8]; omega
     have r2b : (q : Int) % 256 = (nv : Int) := by omega
     clear hq hnv
     go_wp2_with fail
     refine (HPL.out _).mono ?_
     rintro e w1 ⟨rfl, rfl⟩
     go_wp2_with fail
     clear r1 r2 r2b c1 c3 f3 e1
     have n1 := K1.out.other ⟨w.heap.size + 1 + 1, t, none⟩ (.int .u8 (nv : Nat)) (by simp; omega)
     have n2 := K2.out.other ⟨w.heap.size + 1 + 1, t, none⟩ (.int .u8 (nv : Nat)) (by simp)
     have n3 := K3.out.natSet t nv
     have hb2 := hbel.setCell (p := ⟨w.heap.size + 1 + 1, t, none⟩) (by simp; omega) (.int .u8 (nv : Nat))
     rw [HBW.out, HSET.out] at n3
     rw [HBW.out] at n1 n2 hb2
     go_roundw
     case rel => exact ⟨t + 1, by omega, by go_num, by rw [HBW.out]; exact n1, by rw [HBW.out]; exact n2, by rw [HBW.out]; exact n3, by rw [HBW.out]; exact hb2⟩
     case measure => simp [intOf] <;> omega
   · obtain rfl : t = 32 := by omega
     rw [show ((32 : Nat) : Int) = 32 from rfl]
     have LE := Hd (show tell (fun i => dgt 256 x (31 - i)) 32 ++ zeros (32 - 32) = ls by rw [HS.out]; simp [zeros])
     rw [LE.out] at K3
     have j2 := K2.out.setRow (natsV .u8 ls)
     have hb2 := below_setRow' hbel (show w.heap.size ≤ w.heap.size + 1 by omega) (natsV .u8 ls).toArray
     go_wp2_with (first | (refine ld90 rfl (.tmp 3) rfl (w.heap.size + 1 + 1) rfl ls K3.out LS.out ?_) | (refine st90 rfl (.tmp 2) (.tmp 25) rfl (w.heap.size + 1) rfl ls rfl LS.out (zeros 32) K2.out rfl ?_))
     refine bodyPost_ret (v := .agg (natsV .u8 ls).toArray) ?_ rfl ⟨rfl, hb2⟩
     exact results_cell_row Try.results22 _ _ (w.heap.size + 1) 49 _ (0, 0) _ rfl j2 Try.underlying49 rfl (by rw [info90, size_nats, LS.out])
theorem mN256 : mN < 2 ^ 256 := fld_N.lt
theorem mNpos : 0 < mN := by decide
theorem toN_lt (x : Nat) : toF mN x < mN := toF_lt fld_N x
theorem toN_256 (x : Nat) : toF mN x < 2 ^ 256 := Nat.lt_trans (toN_lt x) mN256
theorem toF_md (m x : Nat) : toF m (x % m) = toF m x := by unfold toF; rw [mulmod_left]
theorem ofN (x : Nat) : ofF mN vN (toF mN x) = x % mN := fld_N.of_to x
def sn (x : Nat) : List Nat := wds 4 (toF mN x)
theorem sn_len (x : Nat) : (sn x).length = 4 := wds_len 4 _
theorem s_of (x : Nat) (hx : x < 2 ^ 256) : Ans 33 #[.agg (natsV .u64 (wds 4 x)).toArray] (.agg (natsV .u64 (sn x)).toArray) := fun w =>
 wscalar w (wds_len 4 x) (sn_len x) (fun w => In_ok 2 mN fN vN x w .n hx)
theorem s_mul (x y : Nat) : Ans 35 #[.agg (natsV .u64 (sn x)).toArray, .agg (natsV .u64 (sn y)).toArray] (.agg (natsV .u64 (sn (x * y))).toArray) := fun w =>
 wtimes w (sn_len x) (sn_len y) (sn_len _) (fun w => by
   have h := Mul_ok 2 mN fN vN (toF mN x) (toF mN y) w fld_N (toN_lt x) (toN_lt y) (pok_2 2 mN fN vN _ _ .n (toN_lt x) (toN_lt y))
   rw [fld_N.mul_to] at h; exact h)
theorem s_num (x : Nat) : Ans 36 #[.agg (natsV .u64 (sn x)).toArray] (.agg (natsV .u64 (wds 4 (x % mN))).toArray) := fun w =>
 wnum w (sn_len x) (wds_len 4 _) (fun w => by
   have h := Out_ok 2 mN fN vN (toF mN x) w fld_N (toN_256 x) (pok_1 2 mN fN vN _ .n (toN_lt x))
   rw [ofN] at h; exact h)
theorem toN_0 {x : Nat} (h : toF mN x = 0) : x % mN = 0 := by
 have e := ofN x
 rw [h] at e
 rw [← e]
 unfold ofF
 rw [Nat.zero_mul, Nat.zero_mod]
theorem s_inv (x : Nat) (h : x % mN ≠ 0) : Ans 34 #[.agg (natsV .u64 (sn x)).toArray] (.agg (natsV .u64 (sn (wN x))).toArray) := fun w =>
 winv w (sn_len x) (sn_len _) (fun w => by
   have k := Inv_ok 2 mN fN vN (toF mN x) w fld_N (toN_lt x) (fun h0 => h (toN_0 h0)) (pok_1 2 mN fN vN _ .n (toN_lt x))
   rw [ofN] at k
   have e : toF mN ((x % mN) ^ (mN - 2)) = toF mN (wN x) := by
     rw [← toF_md mN ((x % mN) ^ (mN - 2)), ← Nat.pow_mod]; rfl
   rw [e] at k; exact k)
theorem lt01_1 {a b : Nat} (h : a < b) : lt01 a b = 1 := by unfold lt01; rw [if_pos h]
theorem lt01_0 {a b : Nat} (h : ¬ a < b) : lt01 a b = 0 := by unfold lt01; rw [if_neg h]
theorem mod_once {x m : Nat} (h1 : ¬ x < m) (h2 : x < 2 * m) : x % m = x - m := by
 rw [Nat.mod_eq_sub_mod (by omega), Nat.mod_eq_of_lt (by omega)]
theorem wds_red {x m : Nat} (h : ¬ x < m) (hx : x < 2 ^ 256) : wds 4 (x + 2 ^ 256 - m) = wds 4 (x - m) := by
 have e : x + 2 ^ 256 - m = (x - m) + 2 ^ 256 := by omega
 rw [e]
 have k := wds_add_pow 4 (x - m) 1
 rw [Nat.mul_one] at k
 exact k
theorem s_mod (x : Nat) (hx : x < 2 ^ 256) : Ans 24 #[.agg (natsV .u64 (wds 4 x)).toArray] (.agg (natsV .u64 (wds 4 (x % mN))).toArray) := fun w => by
 have c1 := fun w => Modulus_ok 2 mN fN vN w .n
 have c2 := fun w => Sub_any x mN w hx mN256
 by_cases h : x < mN
 · rw [lt01_1 h] at c2
   rw [Nat.mod_eq_of_lt h]
   exact wmodN1 w (wds_len 4 x) (wds_len 4 mN) (wds_len 4 _) c1 c2
 · rw [lt01_0 h] at c2
   rw [mod_once h (by have := fld_N.gt; omega), ← wds_red h hx]
   exact wmodN0 w (wds_len 4 x) (wds_len 4 mN) (wds_len 4 _) c1 c2
theorem be_256 {l : List Nat} (hl : l.length = 32) (hb : ∀ x ∈ l, x < 256) : be l < 2 ^ 256 := by
 have h1 := be_lt l hb
 rw [hl] at h1
 exact h1
theorem s_number {l : List Nat} (hl : l.length = 32) (hb : ∀ x ∈ l, x < 256) : Ans 25 #[.agg (natsV .u8 l).toArray] (.agg (natsV .u64 (wds 4 (be l))).toArray) := fun w =>
 wnumber w hl (wds_len 4 _) hb (fun A W h => Of_any A 32 32 l W (by omega) h)
theorem wds4_0 {x : Nat} (hx : x < 2 ^ 256) : wds 4 x = zeros 4 ↔ x = 0 := by
 refine ⟨fun h => wds_in4 hx (by decide) (h.trans (by decide +kernel)), fun h => h ▸ (by decide +kernel)⟩
def refE (x : Nat) : Int := if x = 0 then 53 else if x < mN then 0 else 52
theorem s_refusal (x : Nat) (hx : x < 2 ^ 256) : Ans 57 #[.agg (natsV .u64 (wds 4 x)).toArray] (.int .i64 (refE x)) := fun w => by
 unfold refE
 by_cases h0 : x = 0
 · rw [if_pos h0, (wds4_0 hx).2 h0]; exact wref0 w
 · rw [if_neg h0]
   have hne : wds 4 x ≠ zeros 4 := fun h => h0 ((wds4_0 hx).1 h)
   by_cases h : x < mN
   · rw [if_pos h]
     exact wrefok w (wds_len 4 x) (wds_len 4 _) hne (fun w => Out_ok 2 mN fN vN x w fld_N hx (pok_1 2 mN fN vN _ .n h))
   · rw [if_neg h]
     exact wrefno w (wds_len 4 x) z4l hne (fun w => Out_err 2 52 x w (by decide) (perr_1 2 mN fN vN x .n hx h))
theorem s_told_sig (e : Int) (h : e = 0 ∨ e = 52 ∨ e = 53) : Ans 56 #[.agg #[.int .i64 2, .int .i64 e]] (.int .i64 (if e = 0 then 0 else 73)) := fun w => by
 rcases h with rfl | rfl | rfl
 · exact told_2_0 w
 · exact told_2_52 w
 · exact told_2_53 w
theorem s_told_key (e : Int) (h : e = 0 ∨ e = 61 ∨ e = 62) : Ans 56 #[.agg #[.int .i64 1, .int .i64 e]] (.int .i64 (if e = 0 then 0 else 71)) := fun w => by
 rcases h with rfl | rfl | rfl
 · exact told_1_0 w
 · exact told_1_61 w
 · exact told_1_62 w
theorem refE_is (x : Nat) : refE x = 0 ∨ refE x = 52 ∨ refE x = 53 := by unfold refE; split <;> (try split) <;> simp
theorem refE_0 (x : Nat) : refE x = 0 ↔ (x ≠ 0 ∧ x < mN) := by
 unfold refE
 by_cases h0 : x = 0
 · simp [h0]
 · by_cases h : x < mN <;> simp [h0, h]
theorem builtft (i e : Int) : Try.prog.built 88 [(0, .int .i64 i), (1, .int .i64 e)] = some #[.int .i64 i, .int .i64 e] := by kernel_rfl
theorem wkey_len {A : Option Addr} {n c : Nat} (w : World) 
   (hn : n ≠ 65) :
   Calls Try.prog 31 #[.slice A n c] w fun e w' => e = .returned (.tuple #[.agg (pv (zeros 4) (zeros 4) false).toArray, .int .i64 71]) ∧ Below w.heap.size w w' := by
 have h65 : ((n : Int) != 65) = true := by rw [bne_iff_ne]; omega
 have h65n : ¬ (n = 65) := hn
 have B0_ := Hd (Blk.new w  32 (pv (zeros 4) (zeros 4) false))
 have bel_ := ((Below.refl w.heap.size w).alloc (Nat.le_refl _) (.cells (pv (zeros 4) (zeros 4) false).toArray 32))
 go_enter Try.func31, Try.ntmps31
 go_wp2_with (first | (refine stB rfl 32 (.tmp 2) (.tmp 9) rfl w.heap.size rfl (pv (zeros 4) (zeros 4) false) rfl 32 (pv (zeros 4) (zeros 4) false) B0_.out (i43 rfl rfl) (lenEq pz9 pz9) p1_ ?_))
 refine bodyPost_ret (v := .tuple #[.agg (pv (zeros 4) (zeros 4) false).toArray, .int .i64 71]) ?_ rfl ⟨rfl, below_setRow' bel_ (by first | exact Nat.le_refl _ | omega) _⟩
 exact results_two Try.results31 _ _ w.heap.size 32 _ (0, 0) _ _ rfl rfl (B0_.out.setRow _) Try.underlying32 rfl (by simpa using (i43 rfl rfl))
theorem wkey_go {lx ly : List Nat} {A : Option Addr} {c : Nat} {ee er : Int} (w : World) (hlx : lx.length = 4) (hly : ly.length = 4)
   (c1 : ∀ W, Below w.heap.size w W → Calls Try.prog 55 #[.slice A 65 c] W fun e w' => e = .returned (.tuple #[.agg (pv lx ly false).toArray, .int .i64 ee]) ∧ Below W.heap.size W w')
   (c2 : Ans 56 #[.agg #[.int .i64 1, .int .i64 ee]] (.int .i64 er)) :
   Calls Try.prog 31 #[.slice A 65 c] w fun e w' => e = .returned (.tuple #[.agg (pv lx ly false).toArray, .int .i64 er]) ∧ Below w.heap.size w w' := by
 have L_lx := Hd hlx
 have L_ly := Hd hly
 have Hc1 := Hd c1
 have Hc2 := Hd c2
 have B0_ := Hd (Blk.new w  32 (pv (zeros 4) (zeros 4) false))
 have bel_ := ((Below.refl w.heap.size w).alloc (Nat.le_refl _) (.cells (pv (zeros 4) (zeros 4) false).toArray 32))
 clear hlx hly c1 c2
 go_enter Try.func31, Try.ntmps31
 go_wp2_with fail
 refine (Hc1.out _ bel_).mono ?_
 rintro e w1 ⟨rfl, hbw1⟩
 have C2 := gq' B0_ hbw1
 have hbel3 := bel_.trans (Below.mono hbw1 bel_.size)
 clear B0_ bel_ hbw1
 go_wp2_with (first | (refine stN rfl 32 (.tmp 4) (.tmp 13) rfl w1 rfl (pv lx ly false) rfl 32 (pv (zeros 4) (zeros 4) false) (i43 L_lx.out L_ly.out) (lenEq pz9 (pv_len L_lx.out L_ly.out)) p1_ ?_; intro w4 hgw4 hnw4; have NE7 := Hd (Nat.ne_of_lt (C2.out.lt)); have C8 := gq' C2 hgw4; clear C2; have hbel9 := hbel3.trans (Below.mono hgw4 hbel3.size); clear hbel3; have D6 := Hd hnw4; clear hnw4 hgw4; generalize w1.heap.size = G5 at *))
 as_aux_lemma =>
 refine wp_region_G (fun w_ => Blk w_ G5 32 (pv lx ly false)) 6 (by kernel_rfl) D6.out.drew ?_
 refine tk gS1 0 rfl (lg' (fun _ hS_ => blk_all (hS_)) Try.underlying32 (i43 L_lx.out L_ly.out)) ?_
 try simp only [Act.put, zq]
 refine tkp gS1 1 rfl ?_
 try simp only [Act.put, zq]
 refine tk gS1 2 rfl (buildG (by rfl) _ _ rfl _ (builtft 1 ee) (by simp [Act.eval])) ?_
 try simp only [Act.put, zq]
 refine tk gS1 3 rfl (cg' Try.func56 (fun W_ _ => Hc2.out W_)) ?_
 try simp only [Act.put, zq]
 refine wpAnyG_store (i := 4) (by kernel_rfl) rfl C8.out.drew (lenEq pz9 (pv_len L_lx.out L_ly.out)) (StoresG.mk (cs := (pv lx ly false)) (by rfl) 32 _ _ rfl rfl rfl (i43 L_lx.out L_ly.out) p1_) (.inr (fun _ hS_ => hS_.row _ ((Ne.symm NE7.out)))) ?_
 intro w11 hgw11 hn_
 try simp only [Act.put, zq]
 have E12 := Hd (D6.out.drew.grown hgw11 (fun e => (Ne.symm NE7.out) (Option.some.inj e)))
 have D13 := Hd hn_
 have hbel14 := belStore hbel9.drew hgw11 (show w.heap.size ≤ w.heap.size by omega)
 clear D6 hn_ C8 hgw11
 refine tkp gS1 5 rfl ?_
 try simp only [Act.put, zq]
 refine wpAnyG_done (by kernel_rfl) ?_ _
 intro w15 hgw15
 try simp only [Act.put, zq]
 have C16 := gq' D13 hgw15
 have C17 := gq' E12 hgw15
 have hbel18 := hbel14.trans (Below.mono hgw15 hbel14.size)
 clear D13 E12 hbel14 hgw15
 as_aux_lemma =>
 go_wp2_with fail
 refine bodyPost_ret (v := .tuple #[.agg (pv lx ly false).toArray, .int .i64 er]) ?_ rfl ⟨rfl, hbel18⟩
 exact results_two Try.results31 _ _ w.heap.size 32 _ (0, 0) _ _ rfl rfl C16.out Try.underlying32 rfl (by simpa using (i43 L_lx.out L_ly.out))
end Go.Proofs.Ytdkkombpkojjaaa
