/- The field of 8380417 numbers, polynomials as functions from places, their values at the odd powers of 1753, the transform by halves and its way back. Plain mathematics, no condition. -/
namespace Go.Proofs.Ytbhhpopckchibaa
set_option linter.unusedVariables false
def mQ : Nat := 8380417
instance neQ : NeZero mQ := ⟨by decide⟩
/-- numbers modulo Q -/
abbrev FQ : Type := Fin mQ
def fq (x : Nat) : FQ := Fin.ofNat mQ x
theorem fq_val (x : Nat) : (fq x).val = x % mQ := rfl
theorem fq_of (f : FQ) : fq f.val = f := Fin.ext (Nat.mod_eq_of_lt f.isLt)
theorem fq_mod (x : Nat) : fq (x % mQ) = fq x := Fin.ext (Nat.mod_mod _ _)
theorem fq_mul (x y : Nat) : fq (x * y) = fq x * fq y := Fin.ext (by rw [Fin.val_mul, fq_val, fq_val, fq_val, Nat.mul_mod])
theorem fq_add (x y : Nat) : fq (x + y) = fq x + fq y := Fin.ext (by rw [Fin.val_add, fq_val, fq_val, fq_val, Nat.add_mod])
/-- powers -/
def pw (x : FQ) : Nat → FQ
  | 0 => 1
  | n + 1 => pw x n * x
theorem zz (a s : FQ) : a = a + s * 0 := by grobner
theorem zz1 (a s : FQ) : a + 0 * s = a := by grobner
theorem zz2 (s : FQ) : 0 * s = 0 := by grobner
theorem pw_add (x : FQ) (a b : Nat) : pw x (a + b) = pw x a * pw x b := by
  induction b with
  | zero => show pw x a = pw x a * 1; grobner
  | succ b ih => show pw x (a + b) * x = pw x a * (pw x b * x); rw [ih]; grobner
theorem pw_mul (x : FQ) (a b : Nat) : pw x (a * b) = pw (pw x a) b := by
  induction b with
  | zero => rfl
  | succ b ih => rw [Nat.mul_succ, pw_add, ih]; rfl
theorem pw_one (n : Nat) : pw 1 n = 1 := by
  induction n with
  | zero => rfl
  | succ n ih => show pw 1 n * 1 = 1; rw [ih]; grobner
theorem pw_prod (x y : FQ) (n : Nat) : pw (x * y) n = pw x n * pw y n := by
  induction n with
  | zero => show (1 : FQ) = 1 * 1; grobner
  | succ n ih => show pw (x * y) n * (x * y) = pw x n * x * (pw y n * y); rw [ih]; grobner
/-- 1753, and what takes it back -/
def zt : FQ := fq 1753
def zi : FQ := fq 731434
theorem zt_zi : zt * zi = 1 := by decide +kernel
theorem zt_256 : pw zt 256 = -1 := by
  have h2 : pw zt 2 = fq 3073009 := by decide +kernel
  have h4 : pw (fq 3073009) 2 = fq 3602218 := by decide +kernel
  have e : pw zt 256 = pw (pw zt 16) 16 := by rw [← pw_mul]
  rw [e]
  decide +kernel
theorem zt_512 : pw zt 512 = 1 := by
  have e : pw zt 512 = pw zt 256 * pw zt 256 := by rw [← pw_add]
  rw [e, zt_256]; decide +kernel
theorem zt_period (e q r : Nat) (h : e = 512 * q + r) : pw zt e = pw zt r := by
  rw [h, pw_add, pw_mul, zt_512, pw_one]; grobner
/-- a place with its eight bits turned -/
def brv (j : Nat) : Nat := (j % 2) * 128 + (j / 2 % 2) * 64 + (j / 4 % 2) * 32 + (j / 8 % 2) * 16 + (j / 16 % 2) * 8 + (j / 32 % 2) * 4 + (j / 64 % 2) * 2 + j / 128 % 2
def rtF (k : Nat) : FQ := pw zt (brv k)
def rtB (k : Nat) : FQ := pw zi (brv k)
theorem rt_rt (k : Nat) : rtF k * rtB k = 1 := by unfold rtF rtB; rw [← pw_prod, zt_zi, pw_one]
/-- where the values are taken -/
def xt (t : Nat) : FQ := pw zt (2 * brv t + 1)
/-- each two that stand n apart are mixed -/
def pairs (lo hi : FQ → FQ → FQ → FQ) (r : Nat → FQ) (n : Nat) (p : Nat → FQ) (i : Nat) : FQ :=
  if i / n % 2 = 0 then lo (p i) (p (i + n)) (r ((256 + i) / (2 * n))) else hi (p (i - n)) (p i) (r ((256 + (i - n)) / (2 * n)))
def loF (a b r : FQ) : FQ := a + b * r
def hiF (a b r : FQ) : FQ := a - b * r
def loB (a b r : FQ) : FQ := a + b
def hiB (a b r : FQ) : FQ := (a - b) * r
def fwd : Nat → (Nat → FQ) → Nat → FQ := pairs loF hiF rtF
def bwd : Nat → (Nat → FQ) → Nat → FQ := pairs loB hiB rtB
theorem par_up {n i : Nat} (hn : 0 < n) (h : i / n % 2 = 0) : (i + n) / n % 2 = 1 := by
  rw [Nat.add_div_right i hn]; omega
theorem div_sub_one {n i : Nat} (hn : 0 < n) : (i - n) / n = i / n - 1 := by
  rcases Nat.lt_or_ge i n with h | h
  · rw [Nat.sub_eq_zero_of_le (Nat.le_of_lt h), Nat.zero_div, Nat.div_eq_of_lt h]
  · have := Nat.add_div_right (i - n) hn
    rw [Nat.sub_add_cancel h] at this
    generalize (i - n) / n = u at *; generalize i / n = v at *
    omega
theorem par_dn {n i : Nat} (hn : 0 < n) (h : ¬ i / n % 2 = 0) : n ≤ i ∧ (i - n) / n % 2 = 0 := by
  have h1 : 0 < i / n := by generalize i / n = v at *; omega
  have h2 : n ≤ i := by
    rcases Nat.lt_or_ge i n with h | h
    · rw [Nat.div_eq_of_lt h] at h1; omega
    · exact h
  refine ⟨h2, ?_⟩
  rw [div_sub_one hn]
  generalize i / n = v at *
  omega
theorem bwd_fwd {n : Nat} (hn : 0 < n) (p : Nat → FQ) (i : Nat) : bwd n (fwd n p) i = 2 * p i := by
  unfold bwd fwd
  by_cases h : i / n % 2 = 0
  · have h1 := par_up hn h
    have e1 : i + n - n = i := by omega
    have e : pairs loB hiB rtB n (pairs loF hiF rtF n p) i = loB (pairs loF hiF rtF n p i) (pairs loF hiF rtF n p (i + n)) (rtB ((256 + i) / (2 * n))) := by rw [pairs, if_pos h]
    rw [e, pairs, if_pos h, pairs, if_neg (by omega), e1]
    unfold loF hiF loB
    generalize p i = a; generalize p (i + n) = b; generalize rtF _ = r
    clear e e1 h h1
    grobner
  · obtain ⟨h1, h2⟩ := par_dn hn h
    have e1 : i - n + n = i := by omega
    have e : pairs loB hiB rtB n (pairs loF hiF rtF n p) i = hiB (pairs loF hiF rtF n p (i - n)) (pairs loF hiF rtF n p i) (rtB ((256 + (i - n)) / (2 * n))) := by rw [pairs, if_neg h]
    rw [e, pairs, if_pos h2, pairs, if_neg h, e1]
    have hr := rt_rt ((256 + (i - n)) / (2 * n))
    unfold loF hiF hiB
    generalize p i = b at *; generalize p (i - n) = a at *; generalize rtF _ = r at *; generalize rtB _ = s at *
    clear e e1 h h1 h2
    have : (a + b * r - (a - b * r)) * s = 2 * b * (r * s) := by clear hr; grobner
    rw [this, hr]
    clear hr this
    grobner
theorem fwd_bwd {n : Nat} (hn : 0 < n) (p : Nat → FQ) (i : Nat) : fwd n (bwd n p) i = 2 * p i := by
  unfold bwd fwd
  by_cases h : i / n % 2 = 0
  · have h1 := par_up hn h
    have e1 : i + n - n = i := by omega
    have e : pairs loF hiF rtF n (pairs loB hiB rtB n p) i = loF (pairs loB hiB rtB n p i) (pairs loB hiB rtB n p (i + n)) (rtF ((256 + i) / (2 * n))) := by rw [pairs, if_pos h]
    rw [e, pairs, if_pos h, pairs, if_neg (by omega), e1]
    have hr := rt_rt ((256 + i) / (2 * n))
    unfold loF hiB loB
    generalize p i = a at *; generalize p (i + n) = b at *; generalize rtF _ = r at *; generalize rtB _ = s at *
    clear e e1 h h1
    have : a + b + (a - b) * s * r = a + b + (a - b) * (r * s) := by clear hr; grobner
    rw [this, hr]
    clear hr this
    grobner
  · obtain ⟨h1, h2⟩ := par_dn hn h
    have e1 : i - n + n = i := by omega
    have e : pairs loF hiF rtF n (pairs loB hiB rtB n p) i = hiF (pairs loB hiB rtB n p (i - n)) (pairs loB hiB rtB n p i) (rtF ((256 + (i - n)) / (2 * n))) := by rw [pairs, if_neg h]
    rw [e, pairs, if_pos h2, pairs, if_neg h, e1]
    have hr := rt_rt ((256 + (i - n)) / (2 * n))
    unfold loB hiF hiB
    generalize p i = b at *; generalize p (i - n) = a at *; generalize rtF _ = r at *; generalize rtB _ = s at *
    clear e e1 h h1 h2
    have : a + b - (a - b) * s * r = a + b - (a - b) * (r * s) := by clear hr; grobner
    rw [this, hr]
    clear hr this
    grobner
/-- same places -/
def Sm (p q : Nat → FQ) : Prop := ∀ i, i < 256 → p i = q i
theorem pairs_sm {lo hi : FQ → FQ → FQ → FQ} {r : Nat → FQ} {n : Nat} (hn : ∃ k, 256 = 2 * n * k) {p q : Nat → FQ} (h : Sm p q) : Sm (pairs lo hi r n p) (pairs lo hi r n q) := by
  intro i hi
  obtain ⟨k, hk⟩ := hn
  have hn0 : 0 < n := by rcases Nat.eq_zero_or_pos n with rfl | h0 <;> omega
  unfold pairs
  by_cases hb : i / n % 2 = 0
  · rw [if_pos hb, if_pos hb, h i hi]
    have h3 : i + n < 256 := by
      have h4 : i / n < 2 * k := by rw [Nat.div_lt_iff_lt_mul hn0]; rw [Nat.mul_right_comm, Nat.mul_comm] at hk; rw [Nat.mul_comm n (2 * k)] at * ; omega
      have h5 : i / n + 1 < 2 * k := by omega
      have h6 : (i + n) / n < 2 * k := by rw [Nat.add_div_right i hn0]; omega
      rw [Nat.div_lt_iff_lt_mul hn0] at h6
      have : 2 * k * n = 256 := by rw [hk, Nat.mul_right_comm]
      omega
    rw [h _ h3]
  · obtain ⟨h1, h2⟩ := par_dn hn0 hb
    rw [if_neg hb, if_neg hb, h i hi, h (i - n) (by omega)]
theorem loF_s (s a b r : FQ) : loF (s * a) (s * b) r = s * loF a b r := by unfold loF; grobner
theorem hiF_s (s a b r : FQ) : hiF (s * a) (s * b) r = s * hiF a b r := by unfold hiF; grobner
theorem loB_s (s a b r : FQ) : loB (s * a) (s * b) r = s * loB a b r := by unfold loB; grobner
theorem hiB_s (s a b r : FQ) : hiB (s * a) (s * b) r = s * hiB a b r := by unfold hiB; grobner
theorem fwd_scale (s : FQ) (n : Nat) (p : Nat → FQ) (i : Nat) : fwd n (fun j => s * p j) i = s * fwd n p i := by
  unfold fwd pairs
  split
  · exact loF_s ..
  · exact hiF_s ..
theorem bwd_scale (s : FQ) (n : Nat) (p : Nat → FQ) (i : Nat) : bwd n (fun j => s * p j) i = s * bwd n p i := by
  unfold bwd pairs
  split
  · exact loB_s ..
  · exact hiB_s ..
/-- the first k steps of the transform; of the way back -/
def nttK (p : Nat → FQ) : Nat → Nat → FQ
  | 0 => p
  | k + 1 => fwd (2 ^ (7 - k)) (nttK p k)
def bckK (p : Nat → FQ) : Nat → Nat → FQ
  | 0 => p
  | k + 1 => bwd (2 ^ k) (bckK p k)
def ntt (p : Nat → FQ) : Nat → FQ := nttK p 8
def ovr : FQ := fq 8347681
theorem ovr_256 : ovr * 256 = 1 := by decide +kernel
def bck (p : Nat → FQ) : Nat → FQ := fun i => bckK p 8 i * ovr
theorem pow_pos' (k : Nat) : 0 < 2 ^ k := Nat.two_pow_pos k
theorem bckK_ntt (p : Nat → FQ) : ∀ k, k ≤ 8 → bckK (ntt p) k = fun i => pw 2 k * nttK p (8 - k) i := by
  intro k
  induction k with
  | zero => intro _; funext i; show ntt p i = 1 * nttK p 8 i; unfold ntt; generalize nttK p 8 i = a; grobner
  | succ k ih =>
    intro hk
    have e : 8 - k = (8 - (k + 1)) + 1 := by omega
    have e2 : 7 - (8 - (k + 1)) = k := by omega
    funext i
    show bwd (2 ^ k) (bckK (ntt p) k) i = _
    rw [ih (by omega), bwd_scale, e]
    show pw 2 k * bwd (2 ^ k) (fwd (2 ^ (7 - (8 - (k + 1)))) (nttK p (8 - (k + 1)))) i = _
    rw [e2, bwd_fwd (pow_pos' k)]
    show _ = pw 2 k * 2 * _
    generalize nttK p _ i = a; generalize pw 2 k = b; clear e e2 ih; grobner
theorem pw_2_8 : pw 2 8 = 256 := by decide +kernel
theorem bck_ntt (p : Nat → FQ) : bck (ntt p) = p := by
  funext i
  unfold bck
  rw [bckK_ntt p 8 (Nat.le_refl 8), pw_2_8]
  show 256 * nttK p 0 i * ovr = p i
  show 256 * p i * ovr = p i
  have h := ovr_256
  generalize p i = a; generalize ovr = c at *
  have e : 256 * a * c = a * (c * 256) := by clear h; grobner
  rw [e, h]; clear h e; grobner
theorem nttK_scale (s : FQ) (p : Nat → FQ) : ∀ k, nttK (fun j => s * p j) k = fun i => s * nttK p k i := by
  intro k
  induction k with
  | zero => rfl
  | succ k ih => funext i; show fwd _ (nttK (fun j => s * p j) k) i = _; rw [ih, fwd_scale]; rfl
theorem nttK_bck (p : Nat → FQ) : ∀ k, k ≤ 8 → nttK (bckK p 8) k = fun i => pw 2 k * bckK p (8 - k) i := by
  intro k
  induction k with
  | zero => intro _; funext i; show bckK p 8 i = 1 * bckK p 8 i; generalize bckK p 8 i = a; grobner
  | succ k ih =>
    intro hk
    have e : 8 - k = (8 - (k + 1)) + 1 := by omega
    have e2 : 8 - (k + 1) = 7 - k := by omega
    funext i
    show fwd (2 ^ (7 - k)) (nttK (bckK p 8) k) i = _
    rw [ih (by omega), fwd_scale, e]
    show pw 2 k * fwd (2 ^ (7 - k)) (bwd (2 ^ (8 - (k + 1))) (bckK p (8 - (k + 1)))) i = _
    rw [e2, fwd_bwd (pow_pos' _)]
    show _ = pw 2 k * 2 * _
    generalize bckK p _ i = a; generalize pw 2 k = b; clear e e2 ih; grobner
theorem ntt_bck (p : Nat → FQ) : ntt (bck p) = p := by
  have e : bck p = fun i => ovr * bckK p 8 i := by funext i; unfold bck; generalize bckK p 8 i = a; grobner
  unfold ntt
  rw [e, nttK_scale, nttK_bck p 8 (Nat.le_refl 8), pw_2_8]
  funext i
  show ovr * (256 * p i) = p i
  have h := ovr_256
  generalize p i = a; generalize ovr = c at *
  have e : c * (256 * a) = a * (c * 256) := by clear h; grobner
  rw [e, h]; clear h e; grobner
theorem nttK_sm {p q : Nat → FQ} (h : Sm p q) : ∀ k, k ≤ 8 → Sm (nttK p k) (nttK q k) := by
  intro k
  induction k with
  | zero => intro _; exact h
  | succ k ih =>
    intro hk
    refine pairs_sm ⟨2 ^ k, ?_⟩ (ih (by omega))
    have : ∀ k, k < 8 → 256 = 2 * 2 ^ (7 - k) * 2 ^ k := by decide
    exact this k (by omega)
theorem ntt_sm {p q : Nat → FQ} (h : Sm p q) : Sm (ntt p) (ntt q) := nttK_sm h 8 (Nat.le_refl 8)
theorem bckK_sm {p q : Nat → FQ} (h : Sm p q) : ∀ k, k ≤ 8 → Sm (bckK p k) (bckK q k) := by
  intro k
  induction k with
  | zero => intro _; exact h
  | succ k ih =>
    intro hk
    refine pairs_sm ⟨2 ^ (7 - k), ?_⟩ (ih (by omega))
    have : ∀ k, k < 8 → 256 = 2 * 2 ^ k * 2 ^ (7 - k) := by decide
    exact this k (by omega)
theorem bck_sm {p q : Nat → FQ} (h : Sm p q) : Sm (bck p) (bck q) := fun i hi => by unfold bck; rw [bckK_sm h 8 (Nat.le_refl 8) i hi]
theorem ntt_inj {p q : Nat → FQ} (h : Sm (ntt p) (ntt q)) : Sm p q := by
  have := bck_sm h; rwa [bck_ntt, bck_ntt] at this
/-- a part of the value -/
def sums (p : Nat → FQ) (a : Nat) (x : FQ) : Nat → FQ
  | 0 => 0
  | n + 1 => sums p a x n + p (a + n) * pw x n
def ev (p : Nat → FQ) (x : FQ) : FQ := sums p 0 x 256
theorem sums_two (p : Nat → FQ) (a : Nat) (x : FQ) (m n : Nat) : sums p a x (m + n) = sums p a x m + pw x m * sums p (a + m) x n := by
  induction n with
  | zero => show sums p a x m = sums p a x m + pw x m * 0; grobner
  | succ n ih =>
    show sums p a x (m + n) + p (a + (m + n)) * pw x (m + n) = sums p a x m + pw x m * (sums p (a + m) x n + p (a + m + n) * pw x n)
    rw [ih, pw_add, Nat.add_assoc]
    grobner
theorem sums_lin (p q r : Nat → FQ) (a b : Nat) (s x : FQ) (h : ∀ j, r (a + j) = p (a + j) + s * q (b + j)) (n : Nat) : sums r a x n = sums p a x n + s * sums q b x n := by
  induction n with
  | zero => exact zz 0 s
  | succ n ih =>
    show sums r a x n + r (a + n) * pw x n = sums p a x n + p (a + n) * pw x n + s * (sums q b x n + q (b + n) * pw x n)
    rw [ih, h n]; grobner
theorem sums_congr {p q : Nat → FQ} {a b : Nat} {x : FQ} {n : Nat} (h : ∀ j, j < n → p (a + j) = q (b + j)) : sums p a x n = sums q b x n := by
  induction n with
  | zero => rfl
  | succ n ih =>
    show sums p a x n + p (a + n) * pw x n = sums q b x n + q (b + n) * pw x n
    rw [ih (fun j hj => h j (by omega)), h n (by omega)]
theorem ev_sm {p q : Nat → FQ} (h : Sm p q) (x : FQ) : ev p x = ev q x := sums_congr fun j hj => by rw [Nat.zero_add]; exact h j hj
def rootOk (k t : Nat) : Bool := ((2 * brv t + 1) * 2 ^ (7 - k)) % 512 == (brv ((256 + t) / (2 * 2 ^ (7 - k))) + if t / 2 ^ (7 - k) % 2 = 0 then 0 else 256) % 512
theorem root_all : ∀ k, k < 8 → ∀ t, t < 256 → rootOk k t = true := by
  have : (List.range 8).all (fun k => (List.range 256).all fun t => rootOk k t) = true := by decide +kernel
  intro k hk t ht
  exact List.all_eq_true.1 (List.all_eq_true.1 this k (List.mem_range.2 hk)) t (List.mem_range.2 ht)
theorem brv_lt (j : Nat) : brv j < 256 := by unfold brv; omega
theorem xt_pow {k t : Nat} (hk : k < 8) (ht : t < 256) : pw (xt t) (2 ^ (7 - k)) = if t / 2 ^ (7 - k) % 2 = 0 then rtF ((256 + t) / (2 * 2 ^ (7 - k))) else -rtF ((256 + t) / (2 * 2 ^ (7 - k))) := by
  have h := root_all k hk t ht
  unfold rootOk at h
  have h := eq_of_beq h
  unfold xt rtF
  rw [← pw_mul]
  have hl := brv_lt ((256 + t) / (2 * 2 ^ (7 - k)))
  generalize (2 * brv t + 1) * 2 ^ (7 - k) = e at *
  generalize brv _ = b at *
  by_cases hc : t / 2 ^ (7 - k) % 2 = 0
  · rw [if_pos hc] at h ⊢
    exact zt_period e (e / 512) b (by omega)
  · rw [if_neg hc] at h ⊢
    rw [zt_period e (e / 512) (b + 256) (by omega), pw_add, zt_256]
    generalize pw zt b = c
    clear h hl
    grobner
theorem step_ev {k : Nat} (hk : k < 8) (q : Nat → FQ) (t : Nat) (ht : t < 256) :
    sums (fwd (2 ^ (7 - k)) q) (t / 2 ^ (7 - k) * 2 ^ (7 - k)) (xt t) (2 ^ (7 - k)) = sums q (t / 2 ^ (8 - k) * 2 ^ (8 - k)) (xt t) (2 ^ (8 - k)) := by
  have hx := xt_pow hk ht
  have e8 : 2 ^ (8 - k) = 2 * 2 ^ (7 - k) := by rw [show 8 - k = (7 - k) + 1 by omega, Nat.pow_succ, Nat.mul_comm]
  rw [e8]
  have hn := pow_pos' (7 - k)
  have hK : 256 = 2 * 2 ^ (7 - k) * 2 ^ k := (by decide : ∀ k, k < 8 → 256 = 2 * 2 ^ (7 - k) * 2 ^ k) k hk
  generalize 2 ^ (7 - k) = n at *
  generalize 2 ^ k = K at *
  clear e8
  have hdd : t / (2 * n) = t / n / 2 := by rw [Nat.div_div_eq_div_mul, Nat.mul_comm n 2]
  rw [show sums q (t / (2 * n) * (2 * n)) (xt t) (2 * n) = sums q (t / (2 * n) * (2 * n)) (xt t) (n + n) by rw [show n + n = 2 * n by omega], sums_two]
  have hb : t / (2 * n) * (2 * n) = t / n / 2 * 2 * n := by rw [hdd, Nat.mul_assoc]
  rw [hb]
  by_cases hc : t / n % 2 = 0
  · rw [if_pos hc] at hx
    have e : t / n / 2 * 2 = t / n := by omega
    rw [e, hx]
    refine sums_lin2 q (fwd n q) (t / n * n) n _ (xt t) fun j hj => ?_
    unfold fwd pairs loF
    have h1 : (t / n * n + j) / n = t / n := by rw [Nat.add_comm, Nat.add_mul_div_right _ _ hn, Nat.div_eq_of_lt hj]; omega
    rw [if_pos (by rw [h1]; exact hc)]
    have h2 : (256 + (t / n * n + j)) / (2 * n) = (256 + t) / (2 * n) := by rw [← e]; exact kap hn hj hK _ hdd
    rw [h2, show t / n * n + j + n = t / n * n + n + j by omega]
    generalize rtF _ = r; generalize q _ = a; generalize q _ = b
    clear hx
    grobner
  · rw [if_neg hc] at hx
    have e : t / n / 2 * 2 + 1 = t / n := by omega
    rw [hx]
    have e2 : t / n * n = t / n / 2 * 2 * n + n := by rw [← e]; rw [Nat.add_mul, Nat.one_mul]; congr 2; omega
    rw [e2]
    refine sums_lin3 q (fwd n q) (t / n / 2 * 2 * n) n _ (xt t) fun j hj => ?_
    unfold fwd pairs hiF
    have h1 : (t / n / 2 * 2 * n + n + j) / n = t / n := by rw [← e2, Nat.add_comm, Nat.add_mul_div_right _ _ hn, Nat.div_eq_of_lt hj]; omega
    rw [if_neg (by rw [h1]; exact hc)]
    have h3 : t / n / 2 * 2 * n + n + j - n = t / n / 2 * 2 * n + j := by omega
    have h2 : (256 + (t / n / 2 * 2 * n + j)) / (2 * n) = (256 + t) / (2 * n) := kap hn hj hK _ hdd
    rw [h3, h2]
    generalize rtF _ = r; generalize q _ = a; generalize q _ = b
    clear hx
    grobner
where
  sums_lin2 (q r : Nat → FQ) (a n : Nat) (s x : FQ) (h : ∀ j, j < n → r (a + j) = q (a + j) + s * q (a + n + j)) : sums r a x n = sums q a x n + s * sums q (a + n) x n := by
    have : ∀ m, m ≤ n → sums r a x m = sums q a x m + s * sums q (a + n) x m := by
      intro m
      induction m with
      | zero => intro _; exact zz 0 s
      | succ m ih =>
        intro hm
        show sums r a x m + r (a + m) * pw x m = sums q a x m + q (a + m) * pw x m + s * (sums q (a + n) x m + q (a + n + m) * pw x m)
        rw [ih (by omega), h m (by omega)]; clear ih h; grobner
    exact this n (Nat.le_refl n)
  sums_lin3 (q r : Nat → FQ) (a n : Nat) (s x : FQ) (h : ∀ j, j < n → r (a + n + j) = q (a + j) + s * q (a + n + j)) : sums r (a + n) x n = sums q a x n + s * sums q (a + n) x n := by
    have : ∀ m, m ≤ n → sums r (a + n) x m = sums q a x m + s * sums q (a + n) x m := by
      intro m
      induction m with
      | zero => intro _; exact zz 0 s
      | succ m ih =>
        intro hm
        show sums r (a + n) x m + r (a + n + m) * pw x m = sums q a x m + q (a + m) * pw x m + s * (sums q (a + n) x m + q (a + n + m) * pw x m)
        rw [ih (by omega), h m (by omega)]; clear ih h; grobner
    exact this n (Nat.le_refl n)
  kap {n j t K : Nat} (hn : 0 < n) (hj : j < n) (hK : 256 = 2 * n * K) (m : Nat) (hm : t / (2 * n) = m) : (256 + (m * 2 * n + j)) / (2 * n) = (256 + t) / (2 * n) := by
    have h2 : 0 < 2 * n := by omega
    rw [hK, Nat.mul_add_div h2, Nat.mul_add_div h2, hm]
    congr 1
    rw [Nat.mul_assoc, Nat.add_comm, Nat.add_mul_div_right _ _ h2, Nat.div_eq_of_lt (by omega)]; omega
theorem ntt_ev (p : Nat → FQ) (t : Nat) (ht : t < 256) : ntt p t = ev p (xt t) := by
  have h : ∀ k, k ≤ 8 → sums (nttK p k) (t / 2 ^ (8 - k) * 2 ^ (8 - k)) (xt t) (2 ^ (8 - k)) = ev p (xt t) := by
    intro k
    induction k with
    | zero => intro _; rw [show t / 2 ^ (8 - 0) * 2 ^ (8 - 0) = 0 by rw [Nat.div_eq_of_lt (by omega), Nat.zero_mul]]; rfl
    | succ k ih =>
      intro hk
      rw [show 8 - (k + 1) = 7 - k by omega, ← ih (by omega)]
      exact step_ev (by omega) (nttK p k) t ht
  have h8 := h 8 (Nat.le_refl 8)
  rw [← h8, show t / 2 ^ (8 - 8) * 2 ^ (8 - 8) = t by simp]
  show ntt p t = 0 + ntt p (t + 0) * 1
  rw [Nat.add_zero]
  generalize ntt p t = a
  clear h h8
  grobner
/-! products -/
theorem xt_256 (t : Nat) : pw (xt t) 256 = -1 := by
  unfold xt
  rw [← pw_mul, Nat.mul_comm, pw_mul, zt_256, pw_add, pw_mul]
  have h2 : pw (-1 : FQ) 2 = 1 := by decide +kernel
  rw [h2, pw_one]
  decide +kernel
/-- X times a polynomial -/
def shX (b : Nat → FQ) (m : Nat) : FQ := if m = 0 then -b 255 else b (m - 1)
/-- X to the i times a polynomial -/
def rowM (b : Nat → FQ) (i m : Nat) : FQ := if i ≤ m then b (m - i) else -b (m + 256 - i)
/-- the product, by the first n coefficients -/
def mulS (a b : Nat → FQ) : Nat → Nat → FQ
  | 0, _ => 0
  | n + 1, m => mulS a b n m + a n * rowM b n m
def mulF (a b : Nat → FQ) : Nat → FQ := bck fun i => ntt a i * ntt b i
theorem rowM_succ (b : Nat → FQ) (i : Nat) (hi : i < 256) : Sm (rowM b (i + 1)) (shX (rowM b i)) := by
  intro m hm
  unfold shX
  by_cases h0 : m = 0
  · subst h0
    rw [if_pos rfl]
    unfold rowM
    rw [if_neg (by omega), if_pos (by omega), show 0 + 256 - (i + 1) = 255 - i by omega]
  · rw [if_neg h0]
    unfold rowM
    by_cases h : i + 1 ≤ m
    · rw [if_pos h, if_pos (by omega), show m - 1 - i = m - (i + 1) by omega]
    · rw [if_neg h, if_neg (by omega), show m - 1 + 256 - i = m + 256 - (i + 1) by omega]
theorem ev_shX (b : Nat → FQ) (x : FQ) (hx : pw x 256 = -1) : ev (shX b) x = x * ev b x := by
  have e1 : ev (shX b) x = sums (shX b) 0 x 1 + pw x 1 * sums (shX b) 1 x 255 := sums_two (shX b) 0 x 1 255
  have e2 : sums (shX b) 1 x 255 = sums b 0 x 255 := sums_congr fun j hj => by
    unfold shX; rw [if_neg (by omega), Nat.zero_add, show 1 + j - 1 = j by omega]
  have e3 : sums (shX b) 0 x 1 = -b 255 := by
    show (0 : FQ) + shX b (0 + 0) * 1 = _
    unfold shX; rw [if_pos rfl]; generalize b 255 = c; clear e1 e2 hx; grobner
  have e4 : ev b x = sums b 0 x 255 + b 255 * pw x 255 := by
    show sums b 0 x 255 + b (0 + 255) * pw x 255 = _
    rw [Nat.zero_add]
  have e5 : pw x 255 * x = -1 := hx
  have e6 : pw x 1 = x := by show 1 * x = x; clear hx e1 e2 e3 e4 e5; grobner
  rw [e1, e2, e3, e4, e6]
  generalize sums b 0 x 255 = s; generalize b 255 = c; generalize pw x 255 = y at *
  clear e1 e2 e3 e4 e6 hx
  have : x * (s + c * y) = x * s + c * (y * x) := by clear e5; grobner
  rw [this, e5]
  clear e5 this; grobner
theorem sm_trans {p q r : Nat → FQ} (h : Sm p q) (k : Sm q r) : Sm p r := fun i hi => (h i hi).trans (k i hi)
theorem sm_symm {p q : Nat → FQ} (h : Sm p q) : Sm q p := fun i hi => (h i hi).symm
theorem ev_rowM (b : Nat → FQ) (x : FQ) (hx : pw x 256 = -1) : ∀ i, i ≤ 256 → ev (rowM b i) x = pw x i * ev b x := by
  intro i
  induction i with
  | zero =>
    intro _
    have : rowM b 0 = b := by funext m; unfold rowM; rw [if_pos (Nat.zero_le m)]; rfl
    rw [this]; show _ = 1 * _; clear hx; grobner
  | succ i ih =>
    intro hi
    rw [ev_sm (rowM_succ b i (by omega)), ev_shX _ x hx, ih (by omega)]
    show _ = pw x i * x * _
    clear ih hx; grobner
theorem ev_lin (p q : Nat → FQ) (s x : FQ) : ev (fun m => p m + s * q m) x = ev p x + s * ev q x := sums_lin p q _ 0 0 s x (fun j => rfl) 256
theorem ev_mulS (a b : Nat → FQ) (x : FQ) (hx : pw x 256 = -1) : ∀ n, n ≤ 256 → ev (mulS a b n) x = sums a 0 x n * ev b x := by
  intro n
  induction n with
  | zero =>
    intro _
    have : ∀ m, sums (mulS a b 0) 0 x m = 0 := by
      intro m
      induction m with
      | zero => rfl
      | succ m ih => show sums (mulS a b 0) 0 x m + 0 * pw x m = 0; rw [ih]; exact zz1 0 _
    show sums (mulS a b 0) 0 x 256 = 0 * _
    rw [this]; exact (zz2 _).symm
  | succ n ih =>
    intro hn
    have e : mulS a b (n + 1) = fun m => mulS a b n m + a n * rowM b n m := by funext m; rfl
    rw [e, ev_lin, ih (by omega), ev_rowM b x hx n (by omega)]
    show _ = (sums a 0 x n + a (0 + n) * pw x n) * ev b x
    rw [Nat.zero_add]
    generalize sums a 0 x n = s; generalize a n = c; generalize ev b x = v; generalize pw x n = y
    clear ih hx e; grobner
theorem ntt_mulS (a b : Nat → FQ) : Sm (ntt (mulS a b 256)) (fun i => ntt a i * ntt b i) := fun t ht => by
  show ntt (mulS a b 256) t = ntt a t * ntt b t
  rw [ntt_ev _ t ht, ntt_ev a t ht, ntt_ev b t ht]
  exact ev_mulS a b (xt t) (xt_256 t) 256 (Nat.le_refl _)
theorem mul_school (a b : Nat → FQ) : Sm (mulF a b) (mulS a b 256) := by
  have h := bck_sm (ntt_mulS a b)
  rw [bck_ntt] at h
  exact sm_symm h
theorem ntt_mulF (a b : Nat → FQ) : ntt (mulF a b) = fun i => ntt a i * ntt b i := ntt_bck _
theorem mul_c (x y : FQ) : x * y = y * x := by grobner
theorem mul_a (x y z : FQ) : x * y * z = x * (y * z) := by grobner
theorem mulF_comm (a b : Nat → FQ) : mulF a b = mulF b a := by
  have h : (fun i => ntt a i * ntt b i) = fun i => ntt b i * ntt a i := funext fun i => mul_c _ _
  exact congrArg bck h
theorem mulF_assoc (a b c : Nat → FQ) : mulF (mulF a b) c = mulF a (mulF b c) := by
  have e : mulF (mulF a b) c = bck fun i => ntt (mulF a b) i * ntt c i := rfl
  have e2 : mulF a (mulF b c) = bck fun i => ntt a i * ntt (mulF b c) i := rfl
  rw [e, e2, ntt_mulF, ntt_mulF]
  exact congrArg bck (funext fun i => mul_a _ _ _)
def addF (a b : Nat → FQ) : Nat → FQ := fun i => a i + b i
def subF (a b : Nat → FQ) : Nat → FQ := fun i => a i - b i
theorem ntt_add (a b : Nat → FQ) : Sm (ntt (addF a b)) (fun i => ntt a i + ntt b i) := fun t ht => by
  show ntt (addF a b) t = ntt a t + ntt b t
  rw [ntt_ev _ t ht, ntt_ev a t ht, ntt_ev b t ht]
  have e : addF a b = fun m => a m + 1 * b m := by funext m; unfold addF; generalize a m = x; generalize b m = y; grobner
  rw [e, ev_lin]; generalize ev a _ = x; generalize ev b _ = y; clear e; grobner
theorem mulF_add (a b c : Nat → FQ) : Sm (mulF a (addF b c)) (addF (mulF a b) (mulF a c)) := by
  refine ntt_inj (sm_trans ?_ (sm_symm (ntt_add _ _)))
  intro t ht
  rw [ntt_mulF, ntt_mulF, ntt_mulF]
  show ntt a t * ntt (addF b c) t = ntt a t * ntt b t + ntt a t * ntt c t
  rw [ntt_add b c t ht]
  show ntt a t * (ntt b t + ntt c t) = _
  generalize ntt a t = x; generalize ntt b t = y; generalize ntt c t = z; grobner
theorem add_sub (b c : Nat → FQ) : subF (addF b c) c = b := by
  funext i; unfold subF addF; generalize b i = x; generalize c i = y; grobner
/-- the polynomial X -/
def xP (i : Nat) : FQ := if i = 1 then 1 else 0
theorem ev_xP (x : FQ) : ev xP x = x := by
  have e : ev xP x = sums xP 0 x 2 + pw x 2 * sums xP (0 + 2) x 254 := sums_two xP 0 x 2 254
  have z : ∀ n, sums xP (0 + 2) x n = 0 := by
    intro n
    induction n with
    | zero => rfl
    | succ n ih => show sums xP (0 + 2) x n + xP (0 + 2 + n) * pw x n = 0; rw [ih]; unfold xP; rw [if_neg (by omega)]; exact zz1 0 _
  rw [e, z]
  show (0 + xP (0 + 0) * 1 + xP (0 + 1) * (1 * x)) + pw x 2 * 0 = x
  unfold xP
  rw [if_neg (by omega), if_pos (by omega)]
  generalize pw x 2 = y
  clear e z; grobner
theorem mulF_X (a : Nat → FQ) : Sm (mulF a xP) (shX a) := by
  refine ntt_inj fun t ht => ?_
  rw [ntt_mulF]
  show ntt a t * ntt xP t = _
  rw [ntt_ev _ t ht, ntt_ev _ t ht, ntt_ev _ t ht, ev_xP, ev_shX _ _ (xt_256 t)]
  generalize ev a _ = x; generalize xt t = y; grobner
theorem ntt_X : ntt xP 0 = fq 1753 := by
  rw [ntt_ev xP 0 (by omega), ev_xP]; decide +kernel
theorem sums_head (p : Nat → FQ) (i n : Nat) (x : FQ) : sums p i x (n + 1) = p i + x * sums p (i + 1) x n := by
  rw [Nat.add_comm n 1, sums_two]
  show 0 + p (i + 0) * 1 + 1 * x * _ = _
  rw [Nat.add_zero]
  generalize p i = a; generalize sums p _ x n = b; grobner
/-! whole numbers modulo Q -/
def fz (z : Int) : FQ := fq (z % 8380417).toNat
theorem fz_val (z : Int) : ((fz z).val : Int) = z % 8380417 := by
  show (((z % 8380417).toNat % 8380417 : Nat) : Int) = _
  omega
theorem fz_ext {f g : FQ} (h : (f.val : Int) = (g.val : Int)) : f = g := Fin.ext (by omega)
theorem fz_nat (f : FQ) : fz (f.val : Int) = f := fz_ext (by rw [fz_val]; have : f.val < 8380417 := f.isLt; omega)
theorem add_val' (f g : FQ) : ((f + g).val : Int) = ((f.val : Int) + g.val) % 8380417 := by
  rw [Fin.val_add]; show (((f.val + g.val) % 8380417 : Nat) : Int) = _; omega
theorem sub_val' (f g : FQ) : ((f - g).val : Int) = ((f.val : Int) - g.val) % 8380417 := by
  have h : f - g = fq (f.val + mQ - g.val) := by
    apply Fin.ext
    have := g.isLt
    show (mQ - g.val + f.val) % mQ = (f.val + mQ - g.val) % mQ
    congr 1; omega
  rw [h]
  have hg : g.val < 8380417 := g.isLt
  show (((f.val + 8380417 - g.val) % 8380417 : Nat) : Int) = _
  omega
theorem mul_val' (f g : FQ) : ((f * g).val : Int) = ((f.val : Int) * g.val) % 8380417 := by
  rw [Fin.val_mul]; show (((f.val * g.val) % 8380417 : Nat) : Int) = _; rw [Int.natCast_emod, Int.natCast_mul]; rfl
theorem fz_add (a b : Int) : fz (a + b) = fz a + fz b := fz_ext (by rw [add_val', fz_val, fz_val, fz_val, ← Int.add_emod])
theorem fz_sub (a b : Int) : fz (a - b) = fz a - fz b := fz_ext (by rw [sub_val', fz_val, fz_val, fz_val, ← Int.sub_emod])
theorem fz_mul (a b : Int) : fz (a * b) = fz a * fz b := fz_ext (by rw [mul_val', fz_val, fz_val, fz_val, ← Int.mul_emod])
theorem fz_mod (a : Int) : fz (a % 8380417) = fz a := fz_ext (by rw [fz_val, fz_val, Int.emod_emod])
theorem fz_tmod (a : Int) : fz (a.tmod 8380417) = fz a := fz_ext (by
  have h : a.tmod 8380417 = a - 8380417 * a.tdiv 8380417 := Int.tmod_def a 8380417
  rw [fz_val, fz_val, h]
  generalize a.tdiv 8380417 = q
  omega)
theorem fq_lt (f : FQ) : f.val < 8380417 := f.isLt
end Go.Proofs.Ytbhhpopckchibaa
