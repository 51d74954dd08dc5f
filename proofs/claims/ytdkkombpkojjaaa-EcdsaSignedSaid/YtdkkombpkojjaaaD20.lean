/- Parts of proofs of statements, each text behind those that it stands on. No condition of its own. -/
import Derived.Test.YtdkkombpkojjaaaD15
import Derived.Test.YtdkkombpkojjaaaD18
import Derived.Test.YtdkkombpkojjaaaD19
namespace Go.Proofs.Ytdkkombpkojjaaa
set_option maxRecDepth 100000
set_option maxHeartbeats 3200000
open Go.RowKit
set_option linter.unusedVariables false
instance neP : NeZero mP := ⟨by decide⟩
abbrev FP : Type := Fin mP
def fv (x : Nat) : FP := Fin.ofNat mP x
theorem fv_val (x : Nat) : (fv x).val = x % mP := rfl
theorem fv_of (f : FP) : fv f.val = f := Fin.ext (Nat.mod_eq_of_lt f.isLt)
def nw (f : FP) : List Nat := wds 4 f.val
def cw (f : FP) : List Nat := wds 4 (toF mP f.val)
theorem nw_len (f : FP) : (nw f).length = 4 := wds_len 4 _
theorem cw_len (f : FP) : (cw f).length = 4 := wds_len 4 _
theorem lt256 (f : FP) : f.val < 2 ^ 256 := Nat.lt_trans f.isLt fld_P.lt
theorem toF_val (x : Nat) : toF mP (fv x).val = toF mP x := mulmod_left x (2 ^ 256) mP
theorem wds_in4 {x y : Nat} (hx : x < 2 ^ 256) (hy : y < 2 ^ 256) (h : wds 4 x = wds 4 y) : x = y := by
 have k := wds_inj 4 x y hx hy
 rw [decide_eq_true h] at k
 exact of_decide_eq_true k.symm
theorem add_back_ (m a b : Nat) (ha : a < m) (hb : b < m) : ((a + b) % m + m - b) % m = a := by
 rcases Nat.lt_or_ge (a + b) m with h | h
 · rw [Nat.mod_eq_of_lt h, show a + b + m - b = a + m by omega, Nat.add_mod_right, Nat.mod_eq_of_lt ha]
 · rw [Nat.mod_eq_sub_mod h, Nat.mod_eq_of_lt (show a + b - m < m by omega), show a + b - m + m - b = a by omega, Nat.mod_eq_of_lt ha]
theorem cw_inj {f g : FP} (h : cw f = cw g) : f = g := by
 have h1 := wds_in4 (Nat.lt_trans (toF_lt fld_P _) fld_P.lt) (Nat.lt_trans (toF_lt fld_P _) fld_P.lt) h
 have h2 := congrArg (ofF mP vP) h1
 rw [fld_P.of_to, fld_P.of_to, Nat.mod_eq_of_lt f.isLt, Nat.mod_eq_of_lt g.isLt] at h2
 exact Fin.ext h2
theorem zero_val : (0 : FP).val = 0 := rfl
theorem cw_zero : cw 0 = zeros 4 := by unfold cw; rw [zero_val]; unfold toF; rw [Nat.zero_mul, Nat.zero_mod]; decide +kernel
theorem cw_0 {f : FP} : cw f = zeros 4 ↔ f = 0 := ⟨fun h => cw_inj (h.trans cw_zero.symm), fun h => h ▸ cw_zero⟩
theorem inv_fp (f : FP) (h : f ≠ 0) : f * fv (f.val ^ (mP - 2)) = 1 := by
 have hp : ¬ mP ∣ f.val := fun hd => h (Fin.ext (Nat.eq_zero_of_dvd_of_lt hd f.isLt))
 have hgt := fld_P.gt
 apply Fin.ext
 rw [Fin.val_mul, fv_val, mulmod_right, ← Nat.pow_succ', show (mP - 2).succ = mP - 1 by omega]
 exact fermat fld_P.prime hp
theorem iv_fp (f : FP) (h : f ≠ 0) : EC.iv f = fv (f.val ^ (mP - 2)) := EC.iv_eq (inv_fp f h)
theorem toF_mul (f g : FP) : ofF mP vP (toF mP f.val * toF mP g.val) = toF mP (f * g).val := by
 rw [fld_P.mul_to, Fin.val_mul, show toF mP (f.val * g.val % mP) = toF mP (f.val * g.val) from mulmod_left _ _ _]
theorem toF_add (f g : FP) : (toF mP f.val + toF mP g.val) % mP = toF mP (f + g).val := by
 rw [Fin.val_add, show toF mP ((f.val + g.val) % mP) = toF mP (f.val + g.val) from mulmod_left _ _ _]
 unfold toF; rw [← Nat.add_mod, Nat.add_mul]
theorem toF_sub (f g : FP) : (toF mP f.val + mP - toF mP g.val) % mP = toF mP (f - g).val := by
 have hg := toF_lt fld_P g.val
 have h1 : (f - g) + g = f := by grobner
 have h2 := toF_add (f - g) g
 rw [h1] at h2
 rw [← h2]
 exact add_back_ mP _ _ (toF_lt fld_P _) hg
theorem k_mul (f g : FP) (w : World) : Calls Try.prog 64 #[.agg (natsV .u64 (cw f)).toArray, .agg (natsV .u64 (cw g)).toArray] w fun e w' => e = .returned (.agg (natsV .u64 (cw (f * g))).toArray) ∧ Below w.heap.size w w' :=
 wrap_108 (cw_len f) (cw_len g) (cw_len _) (fun w => by
   have h := Mul_ok 1 mP 1 vP (toF mP f.val) (toF mP g.val) w fld_P (toF_lt fld_P _) (toF_lt fld_P _) (pok_2 1 mP 1 vP _ _ .p (toF_lt fld_P _) (toF_lt fld_P _))
   rw [toF_mul] at h; exact h) w
theorem k_add (f g : FP) (w : World) : Calls Try.prog 68 #[.agg (natsV .u64 (cw f)).toArray, .agg (natsV .u64 (cw g)).toArray] w fun e w' => e = .returned (.agg (natsV .u64 (cw (f + g))).toArray) ∧ Below w.heap.size w w' :=
 wrap_110 (cw_len f) (cw_len g) (cw_len _) (fun w => by
   have h := FAdd_ok 1 mP 1 vP (toF mP f.val) (toF mP g.val) w fld_P (toF_lt fld_P _) (toF_lt fld_P _) (pok_2 1 mP 1 vP _ _ .p (toF_lt fld_P _) (toF_lt fld_P _))
   rw [toF_add] at h; exact h) w
theorem k_sub (f g : FP) (w : World) : Calls Try.prog 69 #[.agg (natsV .u64 (cw f)).toArray, .agg (natsV .u64 (cw g)).toArray] w fun e w' => e = .returned (.agg (natsV .u64 (cw (f - g))).toArray) ∧ Below w.heap.size w w' :=
 wrap_111 (cw_len f) (cw_len g) (cw_len _) (fun w => by
   have h := Sub_ok 1 mP 1 vP (toF mP f.val) (toF mP g.val) w fld_P (toF_lt fld_P _) (toF_lt fld_P _) (pok_2 1 mP 1 vP _ _ .p (toF_lt fld_P _) (toF_lt fld_P _))
   rw [toF_sub] at h; exact h) w
theorem k_dbl (f : FP) (w : World) : Calls Try.prog 67 #[.agg (natsV .u64 (cw f)).toArray] w fun e w' => e = .returned (.agg (natsV .u64 (cw (f + f))).toArray) ∧ Below w.heap.size w w' :=
 wrap_109 (cw_len f) (cw_len _) (fun w => k_add f f w) w
theorem k_sq (f : FP) (w : World) : Calls Try.prog 43 #[.agg (natsV .u64 (cw f)).toArray] w fun e w' => e = .returned (.agg (natsV .u64 (cw (f * f))).toArray) ∧ Below w.heap.size w w' :=
 wrap_72 (cw_len f) (cw_len _) (fun w => k_mul f f w) w
theorem k_of (x : Nat) (hx : x < 2 ^ 256) (w : World) : Calls Try.prog 42 #[.agg (natsV .u64 (wds 4 x)).toArray] w fun e w' => e = .returned (.agg (natsV .u64 (cw (fv x))).toArray) ∧ Below w.heap.size w w' :=
 wrap_71 (wds_len 4 x) (cw_len _) (fun w => by
   have h := In_ok 1 mP 1 vP x w .p hx
   rw [← toF_val] at h; exact h) w
theorem k_num (f : FP) (w : World) : Calls Try.prog 65 #[.agg (natsV .u64 (cw f)).toArray] w fun e w' => e = .returned (.agg (natsV .u64 (nw f)).toArray) ∧ Below w.heap.size w w' :=
 wrap_114 (cw_len f) (nw_len f) (fun w => by
   have h := Out_ok 1 mP 1 vP (toF mP f.val) w fld_P (Nat.lt_trans (toF_lt fld_P _) fld_P.lt) (pok_1 1 mP 1 vP _ .p (toF_lt fld_P _))
   rw [fld_P.of_to, Nat.mod_eq_of_lt f.isLt] at h; exact h) w
theorem k_inv (f : FP) (h0 : f ≠ 0) (w : World) : Calls Try.prog 63 #[.agg (natsV .u64 (cw f)).toArray] w fun e w' => e = .returned (.agg (natsV .u64 (cw (EC.iv f))).toArray) ∧ Below w.heap.size w w' :=
 wrap_118 (cw_len f) (cw_len _) (fun w => by
   have hz : toF mP f.val ≠ 0 := fun h => h0 (cw_inj (by unfold cw; rw [h, zero_val]; unfold toF; rw [Nat.zero_mul, Nat.zero_mod]))
   have h := Inv_ok 1 mP 1 vP (toF mP f.val) w fld_P (toF_lt fld_P _) hz (pok_1 1 mP 1 vP _ .p (toF_lt fld_P _))
   have e : toF mP (f.val ^ (mP - 2)) = toF mP (EC.iv f).val := by rw [iv_fp f h0, toF_val]
   rw [fld_P.of_to, Nat.mod_eq_of_lt f.isLt, e] at h; exact h) w
def bP : FP := fv 41058363725152142129326129780047268409114441015993725554835256314039467401291
structure Q3 where
 a : FP
 b : FP
 c : FP
deriving DecidableEq
def mulq (p q : Q3) : Q3 :=
 ⟨p.a * q.a - bP * (p.b * q.c + p.c * q.b), p.a * q.b + p.b * q.a + 3 * (p.b * q.c + p.c * q.b) - bP * (p.c * q.c), p.a * q.c + p.b * q.b + p.c * q.a + 3 * (p.c * q.c)⟩
theorem g_one {n : Nat} [NeZero n] (r : Fin n) : 1 + 0 * r + 0 * (r * r) = 1 := by grobner
theorem g_x {n : Nat} [NeZero n] (r : Fin n) : 0 + 1 * r + 0 * (r * r) = r := by grobner
theorem g_sub {n : Nat} [NeZero n] (a b c r : Fin n) : a + (b - 1) * r + c * (r * r) = a + b * r + c * (r * r) - r := by grobner
theorem g_self {n : Nat} [NeZero n] (r : Fin n) : r - r = 0 := by grobner
theorem g_1 {n : Nat} [NeZero n] (x : Fin n) : x = x * (1 * 1) := by grobner
theorem g_2 {n : Nat} [NeZero n] (x : Fin n) : x = x * (1 * 1) * 1 := by grobner
theorem g_3 {n : Nat} [NeZero n] (x : Fin n) : x = x * 1 := by grobner
theorem g_4 {n : Nat} [NeZero n] (x y z : Fin n) : x * y * z = x * (y * z) := by grobner
def ev (r : FP) (p : Q3) : FP := p.a + p.b * r + p.c * (r * r)
theorem ev_id (r b a0 a1 a2 b0 b1 b2 : FP) : (a0 + a1 * r + a2 * (r * r)) * (b0 + b1 * r + b2 * (r * r)) - ((a0 * b0 - b * (a1 * b2 + a2 * b1)) + (a0 * b1 + a1 * b0 + 3 * (a1 * b2 + a2 * b1) - b * (a2 * b2)) * r + (a0 * b2 + a1 * b1 + a2 * b0 + 3 * (a2 * b2)) * (r * r)) = (a1 * b2 + a2 * b1 + a2 * b2 * r) * ((r * r * r - 3 * r + b) - 0) := by grobner
theorem ev_mul {r : FP} (h : r * r * r - 3 * r + bP = 0) (p q : Q3) : ev r p * ev r q = ev r (mulq p q) := by
 obtain ⟨a0, a1, a2⟩ := p
 obtain ⟨b0, b1, b2⟩ := q
 exact EC.lc1 h (ev_id r bP a0 a1 a2 b0 b1 b2)
def powq : List Bool → Q3 → Q3
 | [], s => s
 | d :: l, s => powq l (if d then mulq (mulq s s) ⟨0, 1, 0⟩ else mulq s s)
def digV : List Bool → Nat → Nat
 | [], v => v
 | d :: l, v => digV l (2 * v + if d then 1 else 0)
def pwf (r : FP) : Nat → FP
 | 0 => 1
 | k + 1 => pwf r k * r
theorem pwf_val (r : FP) : ∀ k, (pwf r k).val = r.val ^ k % mP
 | 0 => by rw [Nat.pow_zero]; rfl
 | k + 1 => by show (pwf r k * r).val = _; rw [Fin.val_mul, pwf_val r k, mulmod_left, Nat.pow_succ]
theorem pwf_add (r : FP) (i : Nat) : ∀ k, pwf r (i + k) = pwf r i * pwf r k
 | 0 => g_3 (pwf r i)
 | k + 1 => by
   show pwf r (i + k) * r = pwf r i * (pwf r k * r)
   rw [pwf_add r i k]; exact g_4 _ _ _
theorem ev_pow {r : FP} (h : r * r * r - 3 * r + bP = 0) : ∀ (l : List Bool) (s : Q3) (v : Nat), ev r s = pwf r v → ev r (powq l s) = pwf r (digV l v)
 | [], s, v, hs => hs
 | d :: l, s, v, hs => by
   show ev r (powq l _) = pwf r (digV l _)
   refine ev_pow h l _ _ ?_
   have h2 : ev r (mulq s s) = pwf r (2 * v) := by rw [← ev_mul h, hs, Nat.two_mul, pwf_add]
   cases d
   · exact h2
   · show ev r (mulq (mulq s s) ⟨0, 1, 0⟩) = pwf r (2 * v) * r
     rw [← ev_mul h, h2]
     exact congrArg (pwf r (2 * v) * ·) (g_x r)
def bitsL : Nat → Nat → List Bool → List Bool
 | 0, _, l => l
 | k + 1, v, l => bitsL k (v / 2) ((v % 2 == 1) :: l)
def bitsP : List Bool := bitsL 256 mP []
theorem bitsP_val : digV bitsP 0 = mP := by decide +kernel
def gcdV : Q3 := ⟨fv 76626890310466861426869089647039036757962535851890885406097439786770458211455, fv 74462945259064871768191128030512052509059297803194871526163573358218695456204, fv 34768139465301476436978405170953382516735956999154666452188405812258086013549⟩
theorem gcd_one : mulq gcdV (let p := powq bitsP ⟨1, 0, 0⟩; ⟨p.a, p.b - 1, p.c⟩) = ⟨1, 0, 0⟩ := by decide +kernel
theorem pwf_P (r : FP) : pwf r mP = r := by
 apply Fin.ext
 rw [pwf_val]
 by_cases h : mP ∣ r.val
 · have h0 : r.val = 0 := Nat.eq_zero_of_dvd_of_lt h r.isLt
   rw [h0, Nat.zero_pow (by decide), Nat.zero_mod]
 · have h1 := fermat fld_P.prime h
   have e : mP = (mP - 1) + 1 := by have := fld_P.gt; omega
   rw [show r.val ^ mP = r.val ^ (mP - 1) * r.val from (congrArg (r.val ^ ·) e).trans (Nat.pow_succ ..), ← mulmod_left, h1, Nat.one_mul, Nat.mod_eq_of_lt r.isLt]
theorem no_root (r : FP) : r * r * r - 3 * r + bP ≠ 0 := by
 intro h
 have h1 := ev_pow h bitsP ⟨1, 0, 0⟩ 0 (g_one r)
 rw [bitsP_val, pwf_P] at h1
 have h2 := congrArg (ev r) gcd_one
 rw [← ev_mul h] at h2
 have h3 : ev r (let p := powq bitsP ⟨1, 0, 0⟩; ⟨p.a, p.b - 1, p.c⟩) = 0 := by
   have e : ∀ p : Q3, ev r ⟨p.a, p.b - 1, p.c⟩ = ev r p - r := fun p => by
     exact g_sub p.a p.b p.c r
   rw [e, h1]; exact g_self r
 rw [h3] at h2
 have h4 : (0 : FP) = 1 := by
   have e1 : ev r gcdV * 0 = 0 := EC.mul_z _
   have e2 : ev r ⟨1, 0, 0⟩ = 1 := g_one r
   rw [e1, e2] at h2; exact h2
 exact absurd h4 (by decide)
theorem okP : EC.Ok bP := ⟨fun a h => by rw [iv_fp a h]; exact inv_fp a h, by decide, no_root⟩
def gX : FP := fv 48439561293906451759052585252797914202762949526041747995844080717082404635286
def gY : FP := fv 36134250956749795798585127919587881956611106672985015071877198253568414405109
def gP : EC.Pt mP := .aff gX gY
theorem on_gP : EC.On bP gP := by show gY * gY = gX * gX * gX - 3 * gX + bP; decide +kernel
def trG : EC.Tr mP := ⟨gX, gY, 1⟩
def mulT : List Bool → EC.Tr mP → EC.Tr mP
 | [], s => s
 | d :: l, s => mulT l (if d then EC.plusF (EC.twiceF s) trG else EC.twiceF s)
theorem mulT_jac : ∀ (l : List Bool) (s : EC.Tr mP) (v : Nat), EC.Jac s (EC.mul v gP) → EC.Jac (mulT l s) (EC.mul (digV l v) gP)
 | [], s, v, h => h
 | d :: l, s, v, h => by
   show EC.Jac (mulT l _) (EC.mul (digV l _) gP)
   refine mulT_jac l _ _ ?_
   have h2 := h.twice okP (EC.mul.on okP on_gP v)
   rw [← EC.mul_bit okP on_gP] at h2
   cases d
   · exact h2
   · exact h2.plus okP (EC.mul.on okP on_gP _) on_gP ⟨by decide, g_1 gX, g_2 gY⟩
def bitsN : List Bool := bitsL 256 mN []
theorem bitsN_val : digV bitsN 0 = mN := by decide +kernel
def t0 : EC.Tr mP := ⟨0, 0, 0⟩
theorem nG_z : (mulT bitsN t0).z = 0 := by decide +kernel
theorem jac0 : EC.Jac t0 (EC.mul 0 gP) := (rfl : (0 : FP) = (0 : FP))
theorem nG_of {P : EC.Pt mP} {t : EC.Tr mP} (h : EC.Jac t P) (hz : t.z = 0) : P = .inf := by
 cases P with
 | inf => rfl
 | aff x y => exact absurd hz h.1
theorem nG_gen (l : List Bool) (m : Nat) (hl : digV l 0 = m) (hz : (mulT l t0).z = 0) : EC.mul m gP = .inf := by
 subst hl
 exact nG_of (mulT_jac l t0 0 jac0) hz
theorem nG : EC.mul mN gP = .inf := nG_gen bitsN mN bitsN_val nG_z
set_option linter.unusedSimpArgs false
theorem twice_w {lx ly lz sy sz t1 t2 th t3 sl a1 a2 sh s2 d1 x4 e1 e2 d2 d3 d4 y4 z1 z4 : List Nat} (hlx : lx.length = 4) (hly : ly.length = 4) (hlz : lz.length = 4) (hsy : sy.length = 4) (hsz : sz.length = 4) (ht1 : t1.length = 4) (ht2 : t2.length = 4) (hth : th.length = 4) (ht3 : t3.length = 4) (hsl : sl.length = 4) (ha1 : a1.length = 4) (ha2 : a2.length = 4) (hsh : sh.length = 4) (hs2 : s2.length = 4) (hd1 : d1.length = 4) (hx4 : x4.length = 4) (he1 : e1.length = 4) (he2 : e2.length = 4) (hd2 : d2.length = 4) (hd3 : d3.length = 4) (hd4 : d4.length = 4) (hy4 : y4.length = 4) (hz1 : z1.length = 4) (hz4 : z4.length = 4)
   (c1 : Ans 43 #[.agg (natsV .u64 ly).toArray] (.agg (natsV .u64 sy).toArray))
   (c2 : Ans 43 #[.agg (natsV .u64 lz).toArray] (.agg (natsV .u64 sz).toArray))
   (c3 : Ans 68 #[.agg (natsV .u64 lx).toArray, .agg (natsV .u64 sz).toArray] (.agg (natsV .u64 t1).toArray))
   (c4 : Ans 69 #[.agg (natsV .u64 lx).toArray, .agg (natsV .u64 sz).toArray] (.agg (natsV .u64 t2).toArray))
   (c5 : Ans 64 #[.agg (natsV .u64 t1).toArray, .agg (natsV .u64 t2).toArray] (.agg (natsV .u64 th).toArray))
   (c6 : Ans 67 #[.agg (natsV .u64 th).toArray] (.agg (natsV .u64 t3).toArray))
   (c7 : Ans 68 #[.agg (natsV .u64 t3).toArray, .agg (natsV .u64 th).toArray] (.agg (natsV .u64 sl).toArray))
   (c8 : Ans 64 #[.agg (natsV .u64 lx).toArray, .agg (natsV .u64 sy).toArray] (.agg (natsV .u64 a1).toArray))
   (c9 : Ans 67 #[.agg (natsV .u64 a1).toArray] (.agg (natsV .u64 a2).toArray))
   (c10 : Ans 67 #[.agg (natsV .u64 a2).toArray] (.agg (natsV .u64 sh).toArray))
   (c11 : Ans 43 #[.agg (natsV .u64 sl).toArray] (.agg (natsV .u64 s2).toArray))
   (c12 : Ans 67 #[.agg (natsV .u64 sh).toArray] (.agg (natsV .u64 d1).toArray))
   (c13 : Ans 69 #[.agg (natsV .u64 s2).toArray, .agg (natsV .u64 d1).toArray] (.agg (natsV .u64 x4).toArray))
   (c14 : Ans 69 #[.agg (natsV .u64 sh).toArray, .agg (natsV .u64 x4).toArray] (.agg (natsV .u64 e1).toArray))
   (c15 : Ans 64 #[.agg (natsV .u64 sl).toArray, .agg (natsV .u64 e1).toArray] (.agg (natsV .u64 e2).toArray))
   (c16 : Ans 67 #[.agg (natsV .u64 sy).toArray] (.agg (natsV .u64 d2).toArray))
   (c17 : Ans 43 #[.agg (natsV .u64 d2).toArray] (.agg (natsV .u64 d3).toArray))
   (c18 : Ans 67 #[.agg (natsV .u64 d3).toArray] (.agg (natsV .u64 d4).toArray))
   (c19 : Ans 69 #[.agg (natsV .u64 e2).toArray, .agg (natsV .u64 d4).toArray] (.agg (natsV .u64 y4).toArray))
   (c20 : Ans 64 #[.agg (natsV .u64 ly).toArray, .agg (natsV .u64 lz).toArray] (.agg (natsV .u64 z1).toArray))
   (c21 : Ans 67 #[.agg (natsV .u64 z1).toArray] (.agg (natsV .u64 z4).toArray)) (w : World) :
   Calls Try.prog 60 #[.agg (tv lx ly lz).toArray] w fun e w' => e = .returned (.agg (tv x4 y4 z4).toArray) ∧ Below w.heap.size w w' := by
 have L_lx := Hd hlx
 have L_ly := Hd hly
 have L_lz := Hd hlz
 have L_sy := Hd hsy
 have L_sz := Hd hsz
 have L_t1 := Hd ht1
 have L_t2 := Hd ht2
 have L_th := Hd hth
 have L_t3 := Hd ht3
 have L_sl := Hd hsl
 have L_a1 := Hd ha1
 have L_a2 := Hd ha2
 have L_sh := Hd hsh
 have L_s2 := Hd hs2
 have L_d1 := Hd hd1
 have L_x4 := Hd hx4
 have L_e1 := Hd he1
 have L_e2 := Hd he2
 have L_d2 := Hd hd2
 have L_d3 := Hd hd3
 have L_d4 := Hd hd4
 have L_y4 := Hd hy4
 have L_z1 := Hd hz1
 have L_z4 := Hd hz4
 have Hc1 := Hd c1
 have Hc2 := Hd c2
 have Hc3 := Hd c3
 have Hc4 := Hd c4
 have Hc5 := Hd c5
 have Hc6 := Hd c6
 have Hc7 := Hd c7
 have Hc8 := Hd c8
 have Hc9 := Hd c9
 have Hc10 := Hd c10
 have Hc11 := Hd c11
 have Hc12 := Hd c12
 have Hc13 := Hd c13
 have Hc14 := Hd c14
 have Hc15 := Hd c15
 have Hc16 := Hd c16
 have Hc17 := Hd c17
 have Hc18 := Hd c18
 have Hc19 := Hd c19
 have Hc20 := Hd c20
 have Hc21 := Hd c21
 have B0_ := Hd ((Blk.new w  67 (tv lx ly lz)).alloc (.cells (natsV .u64 (zeros 12)).toArray 67))
 have B1_ := Hd (Blk.new2 w (.cells (tv lx ly lz).toArray 67) 67 (natsV .u64 (zeros 12)))
 have bel_ := (((Below.refl w.heap.size w).alloc (Nat.le_refl _) (.cells (tv lx ly lz).toArray 67)).alloc (by simp) (.cells (natsV .u64 (zeros 12)).toArray 67))
 clear hlx hly hlz hsy hsz ht1 ht2 hth ht3 hsl ha1 ha2 hsh hs2 hd1 hx4 he1 he2 hd2 hd3 hd4 hy4 hz1 hz4 c1 c2 c3 c4 c5 c6 c7 c8 c9 c10 c11 c12 c13 c14 c15 c16 c17 c18 c19 c20 c21
 go_enter Try.func60, Try.ntmps60
 go_wp2_with fail
 as_aux_lemma =>
 refine wp_region_G (fun w_ => Blk w_ w.heap.size 67 (tv lx ly lz)) 9 (by kernel_rfl) B0_.out.drew ?_
 refine tkp gS1 0 rfl ?_
 try simp only [Act.put, zq]
 refine tk gS1 1 rfl (lg' (fun _ hS_ => tv_y (hS_) L_lx.out) Try.underlying65 (i94 L_ly.out)) ?_
 try simp only [Act.put, zq]
 refine tk gS1 2 rfl (cg' Try.func43 (fun w _ => Hc1.out w)) ?_
 try simp only [Act.put, zq]
 refine tkp gS1 3 rfl ?_
 try simp only [Act.put, zq]
 refine tk gS1 4 rfl (lg' (fun _ hS_ => tv_z (hS_) L_lx.out L_ly.out) Try.underlying65 (i94 L_lz.out)) ?_
 try simp only [Act.put, zq]
 refine tk gS1 5 rfl (cg' Try.func43 (fun w _ => Hc2.out w)) ?_
 try simp only [Act.put, zq]
 refine wpAnyG_def2 (i := 6) (j := 7) (k := 8) (l := 9) gS1 (by kernel_rfl) (by kernel_rfl) (by kernel_rfl) (by kernel_rfl) (by kernel_rfl) (by kernel_rfl) (by decide) rfl rfl rfl rfl rfl (allocG (by rfl) rfl _ alloc94) (allocG (by rfl) rfl _ alloc94) (fun _ => allocG (by rfl) rfl _ alloc94) (fun _ => allocG (by rfl) rfl _ alloc94) (fun _ _ => rfl) (lz4 L_sy.out) (lz4 L_sz.out) (fun _ _ => StoresG.mk (cs := (natsV .u64 sy)) (by rfl) 65 _ _ rfl rfl rfl (i94 L_sy.out) n1') (fun _ _ => StoresG.mk (cs := (natsV .u64 sz)) (by rfl) 65 _ _ rfl rfl rfl (i94 L_sz.out) n1') (fun g_ w_ hS_ hz_ hb_ => (hS_.gr hb_).row _ (Nat.ne_of_lt (Nat.lt_of_lt_of_le hS_.lt hz_))) (B0_.out.drew) ?_
 intro w1 G2 G3 hgw1 hz_ hz2_ hne_ hn_ hn2_
 try simp only [Act.put, zq]
 have E4 := dq' B0_ hgw1
 have E5 := dq' B1_ hgw1
 have hbel6 := bel_.drew.trans (Below.mono hgw1 bel_.drew.size)
 have D7 := Hd hn_
 have D8 := Hd hn2_
 clear B0_ B1_ bel_ hn_ hn2_ hz_ hz2_ hne_ hgw1
 as_aux_lemma =>
 go_wp2_with fail
 as_aux_lemma =>
 refine wp_region_G (fun w_ => Blk w_ w.heap.size 67 (tv lx ly lz) ∧ Blk w_ G3 65 (natsV .u64 sz)) 10 (by kernel_rfl) ⟨E4.out.drew, D8.out.drew⟩ ?_
 refine tkp gS2 0 rfl ?_
 try simp only [Act.put, zq]
 refine tk gS2 1 rfl (lg' (fun _ hS_ => tv_x (hS_.1)) Try.underlying65 (i94 L_lx.out)) ?_
 try simp only [Act.put, zq]
 refine tk gS2 2 rfl (lg' (fun _ hS_ => blk_all (hS_.2)) Try.underlying65 (i94 L_sz.out)) ?_
 try simp only [Act.put, zq]
 refine tk gS2 3 rfl (cg' Try.func68 (fun w _ => Hc3.out w)) ?_
 try simp only [Act.put, zq]
 refine tkp gS2 4 rfl ?_
 try simp only [Act.put, zq]
 refine tk gS2 5 rfl (lg' (fun _ hS_ => tv_x (hS_.1)) Try.underlying65 (i94 L_lx.out)) ?_
 try simp only [Act.put, zq]
 refine tk gS2 6 rfl (lg' (fun _ hS_ => blk_all (hS_.2)) Try.underlying65 (i94 L_sz.out)) ?_
 try simp only [Act.put, zq]
 refine tk gS2 7 rfl (cg' Try.func69 (fun w _ => Hc4.out w)) ?_
 try simp only [Act.put, zq]
 refine tk gS2 8 rfl (cg' Try.func64 (fun w _ => Hc5.out w)) ?_
 try simp only [Act.put, zq]
 refine wpAnyG_def (i := 9) (j := 10) gS2 (by kernel_rfl) (by kernel_rfl) (by kernel_rfl) rfl rfl rfl (allocG (by rfl) rfl _ alloc94) (lz4 L_th.out) (fun _ => StoresG.mk (cs := (natsV .u64 th)) (by rfl) 65 _ _ rfl rfl rfl (i94 L_th.out) n1') ?_
 intro w9 G10 hgw9 hz_ hn_
 try simp only [Act.put, zq]
 have E11 := dq' E4 hgw9
 have E12 := dq' E5 hgw9
 have E13 := dq' D7 hgw9
 have E14 := dq' D8 hgw9
 have hbel15 := hbel6.drew.trans (Below.mono hgw9 hbel6.drew.size)
 have D16 := Hd hn_
 clear E4 E5 D7 D8 hbel6 hn_ hz_ hgw9
 as_aux_lemma =>
 go_wp2_with fail
 as_aux_lemma =>
 refine wp_region_G (fun w_ => Blk w_ G10 65 (natsV .u64 th)) 5 (by kernel_rfl) D16.out.drew ?_
 refine tk gS1 0 rfl (lg' (fun _ hS_ => blk_all (hS_)) Try.underlying65 (i94 L_th.out)) ?_
 try simp only [Act.put, zq]
 refine tk gS1 1 rfl (cg' Try.func67 (fun w _ => Hc6.out w)) ?_
 try simp only [Act.put, zq]
 refine tk gS1 2 rfl (lg' (fun _ hS_ => blk_all (hS_)) Try.underlying65 (i94 L_th.out)) ?_
 try simp only [Act.put, zq]
 refine tk gS1 3 rfl (cg' Try.func68 (fun w _ => Hc7.out w)) ?_
 try simp only [Act.put, zq]
 refine wpAnyG_def (i := 4) (j := 5) gS1 (by kernel_rfl) (by kernel_rfl) (by kernel_rfl) rfl rfl rfl (allocG (by rfl) rfl _ alloc94) (lz4 L_sl.out) (fun _ => StoresG.mk (cs := (natsV .u64 sl)) (by rfl) 65 _ _ rfl rfl rfl (i94 L_sl.out) n1') ?_
 intro w17 G18 hgw17 hz_ hn_
 try simp only [Act.put, zq]
 have E19 := dq' E11 hgw17
 have E20 := dq' E12 hgw17
 have E21 := dq' E13 hgw17
 have E22 := dq' E14 hgw17
 have E23 := dq' D16 hgw17
 have hbel24 := hbel15.drew.trans (Below.mono hgw17 hbel15.drew.size)
 have D25 := Hd hn_
 clear E11 E12 E13 E14 D16 hbel15 hn_ hz_ hgw17
 as_aux_lemma =>
 go_wp2_with (first | (refine lm' (tv_x (E19.out)) Try.underlying65 (i94 L_lx.out) ?_) | (refine lm' (blk_all (E21.out)) Try.underlying65 (i94 L_sy.out) ?_))
 refine (Hc8.out _).mono ?_
 rintro e w26 ⟨rfl, hbw26⟩
 have C27 := gq' E19 hbw26
 have C28 := gq' E20 hbw26
 have C29 := gq' E21 hbw26
 have C30 := gq' E22 hbw26
 have C31 := gq' E23 hbw26
 have C32 := gq' D25 hbw26
 have hbel33 := hbel24.trans (Below.mono hbw26 hbel24.size)
 clear E19 E20 E21 E22 E23 D25 hbel24 hbw26
 go_wp2_with fail
 refine (Hc9.out _).mono ?_
 rintro e w34 ⟨rfl, hbw34⟩
 have C35 := gq' C27 hbw34
 have C36 := gq' C28 hbw34
 have C37 := gq' C29 hbw34
 have C38 := gq' C30 hbw34
 have C39 := gq' C31 hbw34
 have C40 := gq' C32 hbw34
 have hbel41 := hbel33.trans (Below.mono hbw34 hbel33.size)
 clear C27 C28 C29 C30 C31 C32 hbel33 hbw34
 go_wp2_with fail
 refine (Hc10.out _).mono ?_
 rintro e w42 ⟨rfl, hbw42⟩
 have C43 := gq' C35 hbw42
 have C44 := gq' C36 hbw42
 have C45 := gq' C37 hbw42
 have C46 := gq' C38 hbw42
 have C47 := gq' C39 hbw42
 have C48 := gq' C40 hbw42
 have hbel49 := hbel41.trans (Below.mono hbw42 hbel41.size)
 clear C35 C36 C37 C38 C39 C40 hbel41 hbw42
 go_wp2_with (first | (refine stN rfl 65 (.tmp 7) (.tmp 34) rfl w42 rfl (natsV .u64 sh) rfl 65 (natsV .u64 (zeros 4)) (i94 L_sh.out) (lz4 L_sh.out) n1' ?_; intro w50 hgw50 hnw50; have C53 := gq' C43 hgw50; clear C43; have C54 := gq' C44 hgw50; clear C44; have C55 := gq' C45 hgw50; clear C45; have C56 := gq' C46 hgw50; clear C46; have C57 := gq' C47 hgw50; clear C47; have C58 := gq' C48 hgw50; clear C48; have hbel59 := hbel49.trans (Below.mono hgw50 hbel49.size); clear hbel49; have D52 := Hd hnw50; clear hnw50 hgw50; generalize w42.heap.size = G51 at *))
 as_aux_lemma =>
 refine wp_region_G (fun w_ => Blk w_ G18 65 (natsV .u64 sl) ∧ Blk w_ G51 65 (natsV .u64 sh)) 6 (by kernel_rfl) ⟨C58.out.drew, D52.out.drew⟩ ?_
 refine tk gS2 0 rfl (lg' (fun _ hS_ => blk_all (hS_.1)) Try.underlying65 (i94 L_sl.out)) ?_
 try simp only [Act.put, zq]
 refine tk gS2 1 rfl (cg' Try.func43 (fun w _ => Hc11.out w)) ?_
 try simp only [Act.put, zq]
 refine tk gS2 2 rfl (lg' (fun _ hS_ => blk_all (hS_.2)) Try.underlying65 (i94 L_sh.out)) ?_
 try simp only [Act.put, zq]
 refine tk gS2 3 rfl (cg' Try.func67 (fun w _ => Hc12.out w)) ?_
 try simp only [Act.put, zq]
 refine tk gS2 4 rfl (cg' Try.func69 (fun w _ => Hc13.out w)) ?_
 try simp only [Act.put, zq]
 refine wpAnyG_def (i := 5) (j := 6) gS2 (by kernel_rfl) (by kernel_rfl) (by kernel_rfl) rfl rfl rfl (allocG (by rfl) rfl _ alloc94) (lz4 L_x4.out) (fun _ => StoresG.mk (cs := (natsV .u64 x4)) (by rfl) 65 _ _ rfl rfl rfl (i94 L_x4.out) n1') ?_
 intro w60 G61 hgw60 hz_ hn_
 try simp only [Act.put, zq]
 have E62 := dq' C53 hgw60
 have E63 := dq' C54 hgw60
 have E64 := dq' C55 hgw60
 have E65 := dq' C56 hgw60
 have E66 := dq' C57 hgw60
 have E67 := dq' C58 hgw60
 have E68 := dq' D52 hgw60
 have hbel69 := hbel59.drew.trans (Below.mono hgw60 hbel59.drew.size)
 have D70 := Hd hn_
 clear C53 C54 C55 C56 C57 C58 D52 hbel59 hn_ hz_ hgw60
 as_aux_lemma =>
 go_wp2_with fail
 as_aux_lemma =>
 refine wp_region_G (fun w_ => Blk w_ G18 65 (natsV .u64 sl) ∧ Blk w_ G51 65 (natsV .u64 sh) ∧ Blk w_ G61 65 (natsV .u64 x4) ∧ Blk w_ G2 65 (natsV .u64 sy)) 11 (by kernel_rfl) ⟨E67.out.drew, E68.out.drew, D70.out.drew, E64.out.drew⟩ ?_
 refine tk gS4 0 rfl (lg' (fun _ hS_ => blk_all (hS_.1)) Try.underlying65 (i94 L_sl.out)) ?_
 try simp only [Act.put, zq]
 refine tk gS4 1 rfl (lg' (fun _ hS_ => blk_all (hS_.2.1)) Try.underlying65 (i94 L_sh.out)) ?_
 try simp only [Act.put, zq]
 refine tk gS4 2 rfl (lg' (fun _ hS_ => blk_all (hS_.2.2.1)) Try.underlying65 (i94 L_x4.out)) ?_
 try simp only [Act.put, zq]
 refine tk gS4 3 rfl (cg' Try.func69 (fun w _ => Hc14.out w)) ?_
 try simp only [Act.put, zq]
 refine tk gS4 4 rfl (cg' Try.func64 (fun w _ => Hc15.out w)) ?_
 try simp only [Act.put, zq]
 refine tk gS4 5 rfl (lg' (fun _ hS_ => blk_all (hS_.2.2.2)) Try.underlying65 (i94 L_sy.out)) ?_
 try simp only [Act.put, zq]
 refine tk gS4 6 rfl (cg' Try.func67 (fun w _ => Hc16.out w)) ?_
 try simp only [Act.put, zq]
 refine tk gS4 7 rfl (cg' Try.func43 (fun w _ => Hc17.out w)) ?_
 try simp only [Act.put, zq]
 refine tk gS4 8 rfl (cg' Try.func67 (fun w _ => Hc18.out w)) ?_
 try simp only [Act.put, zq]
 refine tk gS4 9 rfl (cg' Try.func69 (fun w _ => Hc19.out w)) ?_
 try simp only [Act.put, zq]
 refine wpAnyG_def (i := 10) (j := 11) gS4 (by kernel_rfl) (by kernel_rfl) (by kernel_rfl) rfl rfl rfl (allocG (by rfl) rfl _ alloc94) (lz4 L_y4.out) (fun _ => StoresG.mk (cs := (natsV .u64 y4)) (by rfl) 65 _ _ rfl rfl rfl (i94 L_y4.out) n1') ?_
 intro w71 G72 hgw71 hz_ hn_
 try simp only [Act.put, zq]
 have E73 := dq' E62 hgw71
 have E74 := dq' E63 hgw71
 have E75 := dq' E64 hgw71
 have E76 := dq' E65 hgw71
 have E77 := dq' E66 hgw71
 have E78 := dq' E67 hgw71
 have E79 := dq' E68 hgw71
 have E80 := dq' D70 hgw71
 have hbel81 := hbel69.drew.trans (Below.mono hgw71 hbel69.drew.size)
 have D82 := Hd hn_
 clear E62 E63 E64 E65 E66 E67 E68 D70 hbel69 hn_ hz_ hgw71
 as_aux_lemma =>
 go_wp2_with fail
 as_aux_lemma =>
 refine wp_region_G (fun w_ => Blk w_ G61 65 (natsV .u64 x4) ∧ Blk w_ G72 65 (natsV .u64 y4) ∧ Blk w_ w.heap.size 67 (tv lx ly lz)) 9 (by kernel_rfl) ⟨E80.out.drew, D82.out.drew, E73.out.drew⟩ ?_
 refine tk gS3 0 rfl (lg' (fun _ hS_ => blk_all (hS_.1)) Try.underlying65 (i94 L_x4.out)) ?_
 try simp only [Act.put, zq]
 refine tk gS3 1 rfl (lg' (fun _ hS_ => blk_all (hS_.2.1)) Try.underlying65 (i94 L_y4.out)) ?_
 try simp only [Act.put, zq]
 refine tkp gS3 2 rfl ?_
 try simp only [Act.put, zq]
 refine tk gS3 3 rfl (lg' (fun _ hS_ => tv_y (hS_.2.2) L_lx.out) Try.underlying65 (i94 L_ly.out)) ?_
 try simp only [Act.put, zq]
 refine tkp gS3 4 rfl ?_
 try simp only [Act.put, zq]
 refine tk gS3 5 rfl (lg' (fun _ hS_ => tv_z (hS_.2.2) L_lx.out L_ly.out) Try.underlying65 (i94 L_lz.out)) ?_
 try simp only [Act.put, zq]
 refine tk gS3 6 rfl (cg' Try.func64 (fun w _ => Hc20.out w)) ?_
 try simp only [Act.put, zq]
 refine tk gS3 7 rfl (cg' Try.func67 (fun w _ => Hc21.out w)) ?_
 try simp only [Act.put, zq]
 refine tk gS3 8 rfl (buildG (by rfl) _ _ rfl _ (built103 L_x4.out L_y4.out L_z4.out) (by simp [Act.eval])) ?_
 try simp only [Act.put, zq]
 refine wpAnyG_set (i := 9) (by kernel_rfl) (by kernel_rfl) rfl rfl E74.out.drew (lenEq (show (natsV .u64 (zeros 12)).length = 12 from rfl) (tv_len L_x4.out L_y4.out L_z4.out)) (StoresG.mk (cs := (tv x4 y4 z4)) (by rfl) 67 _ _ rfl rfl rfl (i103 L_x4.out L_y4.out L_z4.out) (tv_one _ _ _)) ?_
 intro w83 hgw83 hn_
 try simp only [Act.put, zq]
 have hbel84 := belStore hbel81.drew hgw83 (show w.heap.size ≤ (w.heap.size + 1) by omega)
 have D85 := Hd hn_
 go_wp2_with fail
 refine bodyPost_ret (v := .agg (tv x4 y4 z4).toArray) ?_ rfl ⟨rfl, hbel84⟩
 exact results_cell_row Try.results60 _ _ (w.heap.size + 1) 67 _ (0, 0) _ rfl D85.out Try.underlying67 rfl (by simpa using (i103 L_x4.out L_y4.out L_z4.out))
end Go.Proofs.Ytdkkombpkojjaaa
