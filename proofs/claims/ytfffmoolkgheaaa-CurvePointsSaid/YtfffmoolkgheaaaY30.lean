/- Parts of proofs of statements, each text behind those that it stands on. No condition of its own. -/
import Derived.Test.YtfffmoolkgheaaaY14
import Derived.Test.YtfffmoolkgheaaaY27
import Derived.Test.YtfffmoolkgheaaaY29
namespace Go.Proofs.Ytfffmoolkgheaaa
open Go.RowKit
set_option linter.unusedVariables false
instance neP : NeZero mP := ⟨by decide⟩
abbrev FP : Type := Fin mP
def fv (x : Nat) : FP := Fin.ofNat mP x
theorem fv_val (x : Nat) : (fv x).val = x % mP := rfl
theorem fv_of (f : FP) : fv f.val = f := Fin.ext (Nat.mod_eq_of_lt f.isLt)
def nw (f : FP) : List Nat := wds 4 f.val
def cw (f : FP) : List Nat := wds 4 (toF mP f.val)
theorem nw_len (f : FP) : (nw f).length = 4 := wds_len 4 _
theorem cw_len (f : FP) : (cw f).length = 4 := wds_len 4 _
theorem lt256 (f : FP) : f.val < 2 ^ 256 := Nat.lt_trans f.isLt fld_P.lt
theorem toF_val (x : Nat) : toF mP (fv x).val = toF mP x := mulmod_left x (2 ^ 256) mP
theorem wds_in4 {x y : Nat} (hx : x < 2 ^ 256) (hy : y < 2 ^ 256) (h : wds 4 x = wds 4 y) : x = y := by
  have k := wds_inj 4 x y hx hy
  rw [decide_eq_true h] at k
  exact of_decide_eq_true k.symm
theorem add_back_ (m a b : Nat) (ha : a < m) (hb : b < m) : ((a + b) % m + m - b) % m = a := by
  rcases Nat.lt_or_ge (a + b) m with h | h
  · rw [Nat.mod_eq_of_lt h, show a + b + m - b = a + m by omega, Nat.add_mod_right, Nat.mod_eq_of_lt ha]
  · rw [Nat.mod_eq_sub_mod h, Nat.mod_eq_of_lt (show a + b - m < m by omega), show a + b - m + m - b = a by omega, Nat.mod_eq_of_lt ha]
theorem nw_inj {f g : FP} (h : nw f = nw g) : f = g := Fin.ext (wds_in4 (lt256 f) (lt256 g) h)
theorem cw_inj {f g : FP} (h : cw f = cw g) : f = g := by
  have h1 := wds_in4 (Nat.lt_trans (toF_lt fld_P _) fld_P.lt) (Nat.lt_trans (toF_lt fld_P _) fld_P.lt) h
  have h2 := congrArg (ofF mP vP) h1
  rw [fld_P.of_to, fld_P.of_to, Nat.mod_eq_of_lt f.isLt, Nat.mod_eq_of_lt g.isLt] at h2
  exact Fin.ext h2
theorem zero_val : (0 : FP).val = 0 := rfl
theorem cw_zero : cw 0 = zeros 4 := by unfold cw; rw [zero_val]; unfold toF; rw [Nat.zero_mul, Nat.zero_mod]; decide +kernel
theorem nw_zero : nw 0 = zeros 4 := by unfold nw; rw [zero_val]; decide +kernel
theorem cw_0 {f : FP} : cw f = zeros 4 ↔ f = 0 := ⟨fun h => cw_inj (h.trans cw_zero.symm), fun h => h ▸ cw_zero⟩
theorem inv_fp (f : FP) (h : f ≠ 0) : f * fv (f.val ^ (mP - 2)) = 1 := by
  have hp : ¬ mP ∣ f.val := fun hd => h (Fin.ext (Nat.eq_zero_of_dvd_of_lt hd f.isLt))
  have hgt := fld_P.gt
  apply Fin.ext
  rw [Fin.val_mul, fv_val, mulmod_right, ← Nat.pow_succ', show (mP - 2).succ = mP - 1 by omega]
  exact fermat fld_P.prime hp
theorem iv_fp (f : FP) (h : f ≠ 0) : EC.iv f = fv (f.val ^ (mP - 2)) := EC.iv_eq (inv_fp f h)
theorem sub_val (f g : FP) : (f - g).val = (f.val + mP - g.val) % mP := by
  have h := g.isLt
  show (mP - g.val + f.val) % mP = _
  congr 1; omega
theorem toF_mul (f g : FP) : ofF mP vP (toF mP f.val * toF mP g.val) = toF mP (f * g).val := by
  rw [fld_P.mul_to, Fin.val_mul, show toF mP (f.val * g.val % mP) = toF mP (f.val * g.val) from mulmod_left _ _ _]
theorem toF_add (f g : FP) : (toF mP f.val + toF mP g.val) % mP = toF mP (f + g).val := by
  rw [Fin.val_add, show toF mP ((f.val + g.val) % mP) = toF mP (f.val + g.val) from mulmod_left _ _ _]
  unfold toF; rw [← Nat.add_mod, Nat.add_mul]
theorem toF_sub (f g : FP) : (toF mP f.val + mP - toF mP g.val) % mP = toF mP (f - g).val := by
  have hg := toF_lt fld_P g.val
  have h1 : (f - g) + g = f := by grobner
  have h2 := toF_add (f - g) g
  rw [h1] at h2
  rw [← h2]
  exact add_back_ mP _ _ (toF_lt fld_P _) hg
theorem k_mul (f g : FP) (w : World) : Calls Try.prog 108 #[.agg (natsV .u64 (cw f)).toArray, .agg (natsV .u64 (cw g)).toArray] w fun e w' => e = .returned (.agg (natsV .u64 (cw (f * g))).toArray) ∧ Below w.heap.size w w' :=
  wrap_108 (cw_len f) (cw_len g) (cw_len _) (fun w => by
    have h := Mul_ok 1 mP 1 vP (toF mP f.val) (toF mP g.val) w fld_P (toF_lt fld_P _) (toF_lt fld_P _) (pok_2 1 mP 1 vP _ _ .p (toF_lt fld_P _) (toF_lt fld_P _))
    rw [toF_mul] at h; exact h) w
theorem k_add (f g : FP) (w : World) : Calls Try.prog 110 #[.agg (natsV .u64 (cw f)).toArray, .agg (natsV .u64 (cw g)).toArray] w fun e w' => e = .returned (.agg (natsV .u64 (cw (f + g))).toArray) ∧ Below w.heap.size w w' :=
  wrap_110 (cw_len f) (cw_len g) (cw_len _) (fun w => by
    have h := FAdd_ok 1 mP 1 vP (toF mP f.val) (toF mP g.val) w fld_P (toF_lt fld_P _) (toF_lt fld_P _) (pok_2 1 mP 1 vP _ _ .p (toF_lt fld_P _) (toF_lt fld_P _))
    rw [toF_add] at h; exact h) w
theorem k_sub (f g : FP) (w : World) : Calls Try.prog 111 #[.agg (natsV .u64 (cw f)).toArray, .agg (natsV .u64 (cw g)).toArray] w fun e w' => e = .returned (.agg (natsV .u64 (cw (f - g))).toArray) ∧ Below w.heap.size w w' :=
  wrap_111 (cw_len f) (cw_len g) (cw_len _) (fun w => by
    have h := Sub_ok 1 mP 1 vP (toF mP f.val) (toF mP g.val) w fld_P (toF_lt fld_P _) (toF_lt fld_P _) (pok_2 1 mP 1 vP _ _ .p (toF_lt fld_P _) (toF_lt fld_P _))
    rw [toF_sub] at h; exact h) w
theorem k_dbl (f : FP) (w : World) : Calls Try.prog 109 #[.agg (natsV .u64 (cw f)).toArray] w fun e w' => e = .returned (.agg (natsV .u64 (cw (f + f))).toArray) ∧ Below w.heap.size w w' :=
  wrap_109 (cw_len f) (cw_len _) (fun w => k_add f f w) w
theorem k_sq (f : FP) (w : World) : Calls Try.prog 72 #[.agg (natsV .u64 (cw f)).toArray] w fun e w' => e = .returned (.agg (natsV .u64 (cw (f * f))).toArray) ∧ Below w.heap.size w w' :=
  wrap_72 (cw_len f) (cw_len _) (fun w => k_mul f f w) w
theorem k_of (x : Nat) (hx : x < 2 ^ 256) (w : World) : Calls Try.prog 71 #[.agg (natsV .u64 (wds 4 x)).toArray] w fun e w' => e = .returned (.agg (natsV .u64 (cw (fv x))).toArray) ∧ Below w.heap.size w w' :=
  wrap_71 (wds_len 4 x) (cw_len _) (fun w => by
    have h := In_ok 1 mP 1 vP x w .p hx
    rw [← toF_val] at h; exact h) w
theorem k_num (f : FP) (w : World) : Calls Try.prog 114 #[.agg (natsV .u64 (cw f)).toArray] w fun e w' => e = .returned (.agg (natsV .u64 (nw f)).toArray) ∧ Below w.heap.size w w' :=
  wrap_114 (cw_len f) (nw_len f) (fun w => by
    have h := Out_ok 1 mP 1 vP (toF mP f.val) w fld_P (Nat.lt_trans (toF_lt fld_P _) fld_P.lt) (pok_1 1 mP 1 vP _ .p (toF_lt fld_P _))
    rw [fld_P.of_to, Nat.mod_eq_of_lt f.isLt] at h; exact h) w
theorem k_inv (f : FP) (h0 : f ≠ 0) (w : World) : Calls Try.prog 118 #[.agg (natsV .u64 (cw f)).toArray] w fun e w' => e = .returned (.agg (natsV .u64 (cw (EC.iv f))).toArray) ∧ Below w.heap.size w w' :=
  wrap_118 (cw_len f) (cw_len _) (fun w => by
    have hz : toF mP f.val ≠ 0 := fun h => h0 (cw_inj (by unfold cw; rw [h, zero_val]; unfold toF; rw [Nat.zero_mul, Nat.zero_mod]))
    have h := Inv_ok 1 mP 1 vP (toF mP f.val) w fld_P (toF_lt fld_P _) hz (pok_1 1 mP 1 vP _ .p (toF_lt fld_P _))
    have e : toF mP (f.val ^ (mP - 2)) = toF mP (EC.iv f).val := by rw [iv_fp f h0, toF_val]
    rw [fld_P.of_to, Nat.mod_eq_of_lt f.isLt, e] at h; exact h) w
end Go.Proofs.Ytfffmoolkgheaaa
namespace Go.Proofs.Ytfffmoolkgheaaa
set_option linter.unusedVariables false
def bP : FP := fv 41058363725152142129326129780047268409114441015993725554835256314039467401291
structure Q3 where
  a : FP
  b : FP
  c : FP
deriving DecidableEq
def mulq (p q : Q3) : Q3 :=
  ⟨p.a * q.a - bP * (p.b * q.c + p.c * q.b), p.a * q.b + p.b * q.a + 3 * (p.b * q.c + p.c * q.b) - bP * (p.c * q.c), p.a * q.c + p.b * q.b + p.c * q.a + 3 * (p.c * q.c)⟩
theorem g_one {n : Nat} [NeZero n] (r : Fin n) : 1 + 0 * r + 0 * (r * r) = 1 := by grobner
theorem g_x {n : Nat} [NeZero n] (r : Fin n) : 0 + 1 * r + 0 * (r * r) = r := by grobner
theorem g_sub {n : Nat} [NeZero n] (a b c r : Fin n) : a + (b - 1) * r + c * (r * r) = a + b * r + c * (r * r) - r := by grobner
theorem g_self {n : Nat} [NeZero n] (r : Fin n) : r - r = 0 := by grobner
theorem g_1 {n : Nat} [NeZero n] (x : Fin n) : x = x * (1 * 1) := by grobner
theorem g_2 {n : Nat} [NeZero n] (x : Fin n) : x = x * (1 * 1) * 1 := by grobner
theorem g_3 {n : Nat} [NeZero n] (x : Fin n) : x = x * 1 := by grobner
theorem g_4 {n : Nat} [NeZero n] (x y z : Fin n) : x * y * z = x * (y * z) := by grobner
def ev (r : FP) (p : Q3) : FP := p.a + p.b * r + p.c * (r * r)
theorem ev_id (r b a0 a1 a2 b0 b1 b2 : FP) : (a0 + a1 * r + a2 * (r * r)) * (b0 + b1 * r + b2 * (r * r)) - ((a0 * b0 - b * (a1 * b2 + a2 * b1)) + (a0 * b1 + a1 * b0 + 3 * (a1 * b2 + a2 * b1) - b * (a2 * b2)) * r + (a0 * b2 + a1 * b1 + a2 * b0 + 3 * (a2 * b2)) * (r * r)) = (a1 * b2 + a2 * b1 + a2 * b2 * r) * ((r * r * r - 3 * r + b) - 0) := by grobner
theorem ev_mul {r : FP} (h : r * r * r - 3 * r + bP = 0) (p q : Q3) : ev r p * ev r q = ev r (mulq p q) := by
  obtain ⟨a0, a1, a2⟩ := p
  obtain ⟨b0, b1, b2⟩ := q
  exact EC.lc1 h (ev_id r bP a0 a1 a2 b0 b1 b2)
def powq : List Bool → Q3 → Q3
  | [], s => s
  | d :: l, s => powq l (if d then mulq (mulq s s) ⟨0, 1, 0⟩ else mulq s s)
def digV : List Bool → Nat → Nat
  | [], v => v
  | d :: l, v => digV l (2 * v + if d then 1 else 0)
def pwf (r : FP) : Nat → FP
  | 0 => 1
  | k + 1 => pwf r k * r
theorem pwf_val (r : FP) : ∀ k, (pwf r k).val = r.val ^ k % mP
  | 0 => by rw [Nat.pow_zero]; rfl
  | k + 1 => by show (pwf r k * r).val = _; rw [Fin.val_mul, pwf_val r k, mulmod_left, Nat.pow_succ]
theorem pwf_add (r : FP) (i : Nat) : ∀ k, pwf r (i + k) = pwf r i * pwf r k
  | 0 => g_3 (pwf r i)
  | k + 1 => by
    show pwf r (i + k) * r = pwf r i * (pwf r k * r)
    rw [pwf_add r i k]; exact g_4 _ _ _
theorem ev_pow {r : FP} (h : r * r * r - 3 * r + bP = 0) : ∀ (l : List Bool) (s : Q3) (v : Nat), ev r s = pwf r v → ev r (powq l s) = pwf r (digV l v)
  | [], s, v, hs => hs
  | d :: l, s, v, hs => by
    show ev r (powq l _) = pwf r (digV l _)
    refine ev_pow h l _ _ ?_
    have h2 : ev r (mulq s s) = pwf r (2 * v) := by rw [← ev_mul h, hs, Nat.two_mul, pwf_add]
    cases d
    · exact h2
    · show ev r (mulq (mulq s s) ⟨0, 1, 0⟩) = pwf r (2 * v) * r
      rw [← ev_mul h, h2]
      exact congrArg (pwf r (2 * v) * ·) (g_x r)
def bitsL : Nat → Nat → List Bool → List Bool
  | 0, _, l => l
  | k + 1, v, l => bitsL k (v / 2) ((v % 2 == 1) :: l)
set_option maxRecDepth 100000 in
def bitsP : List Bool := bitsL 256 mP []
set_option maxRecDepth 100000 in
theorem bitsP_val : digV bitsP 0 = mP := by decide +kernel
def gcdV : Q3 := ⟨fv 76626890310466861426869089647039036757962535851890885406097439786770458211455, fv 74462945259064871768191128030512052509059297803194871526163573358218695456204, fv 34768139465301476436978405170953382516735956999154666452188405812258086013549⟩
set_option maxRecDepth 100000 in
theorem gcd_one : mulq gcdV (let p := powq bitsP ⟨1, 0, 0⟩; ⟨p.a, p.b - 1, p.c⟩) = ⟨1, 0, 0⟩ := by decide +kernel
theorem pwf_P (r : FP) : pwf r mP = r := by
  apply Fin.ext
  rw [pwf_val]
  by_cases h : mP ∣ r.val
  · have h0 : r.val = 0 := Nat.eq_zero_of_dvd_of_lt h r.isLt
    rw [h0, Nat.zero_pow (by decide), Nat.zero_mod]
  · have h1 := fermat fld_P.prime h
    have e : mP = (mP - 1) + 1 := by have := fld_P.gt; omega
    rw [show r.val ^ mP = r.val ^ (mP - 1) * r.val from (congrArg (r.val ^ ·) e).trans (Nat.pow_succ ..), ← mulmod_left, h1, Nat.one_mul, Nat.mod_eq_of_lt r.isLt]
theorem no_root (r : FP) : r * r * r - 3 * r + bP ≠ 0 := by
  intro h
  have h1 := ev_pow h bitsP ⟨1, 0, 0⟩ 0 (g_one r)
  rw [bitsP_val, pwf_P] at h1
  have h2 := congrArg (ev r) gcd_one
  rw [← ev_mul h] at h2
  have h3 : ev r (let p := powq bitsP ⟨1, 0, 0⟩; ⟨p.a, p.b - 1, p.c⟩) = 0 := by
    have e : ∀ p : Q3, ev r ⟨p.a, p.b - 1, p.c⟩ = ev r p - r := fun p => by
      exact g_sub p.a p.b p.c r
    rw [e, h1]; exact g_self r
  rw [h3] at h2
  have h4 : (0 : FP) = 1 := by
    have e1 : ev r gcdV * 0 = 0 := EC.mul_z _
    have e2 : ev r ⟨1, 0, 0⟩ = 1 := g_one r
    rw [e1, e2] at h2; exact h2
  exact absurd h4 (by decide)
theorem okP : EC.Ok bP := ⟨fun a h => by rw [iv_fp a h]; exact inv_fp a h, by decide, no_root⟩
def gX : FP := fv 48439561293906451759052585252797914202762949526041747995844080717082404635286
def gY : FP := fv 36134250956749795798585127919587881956611106672985015071877198253568414405109
def gP : EC.Pt mP := .aff gX gY
theorem on_gP : EC.On bP gP := by show gY * gY = gX * gX * gX - 3 * gX + bP; decide +kernel
def g2X : FP := fv 56515219790691171413109057904011688695424810155802929973526481321309856242040
def g2Y : FP := fv 3377031843712258259223711451491452598088675519751548567112458094635497583569
theorem g2_eq : EC.sum gP gP = .aff g2X g2Y := by
  have h : EC.Col bP gX gY gX gY g2X (-g2Y) := ⟨fv 73404963663004311880882944372748989162084677934852963787452504780932599885725, gY - fv 73404963663004311880882944372748989162084677934852963787452504780932599885725 * gX, by decide +kernel, by decide +kernel, by decide +kernel, by decide +kernel, by decide +kernel, by decide +kernel⟩
  have k := h.sum okP
  rw [EC.neg_neg'] at k
  exact k
end Go.Proofs.Ytfffmoolkgheaaa
