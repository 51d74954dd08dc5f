/- Two words and two summands: the product of words. Condition: words of 64 bits. -/
import Derived.Test.YtfffmoolkgheaaaA
namespace Go.Proofs.Ytfffmoolkgheaaa
open Go.RowKit
set_option linter.unusedVariables false
set_option linter.unusedSimpArgs false
def mlo (a b c d : Nat) : Nat := (a * b + c + d) % 2 ^ 64
def mhi (a b c d : Nat) : Nat := (a * b + c + d) / 2 ^ 64
theorem mlo_lt (a b c d : Nat) : mlo a b c d < 2 ^ 64 := Nat.mod_lt _ (by decide)
theorem mm_eq (a b c d : Nat) : mlo a b c d + 2 ^ 64 * mhi a b c d = a * b + c + d := Nat.mod_add_div _ _
theorem mhi_lt (a b c d : Nat) (ha : a < 2 ^ 64) (hb : b < 2 ^ 64) (hc : c < 2 ^ 64) (hd : d < 2 ^ 64) : mhi a b c d < 2 ^ 64 := by
  unfold mhi
  rw [Nat.div_lt_iff_lt_mul (by decide)]
  have h1 : a * b ≤ (2 ^ 64 - 1) * (2 ^ 64 - 1) := Nat.mul_le_mul (by omega) (by omega)
  have h2 : (2 ^ 64 - 1) * (2 ^ 64 - 1) = 2 ^ 64 * 2 ^ 64 - 2 * 2 ^ 64 + 1 := by decide
  have h3 : 2 ^ 64 * 2 ^ 64 = 340282366920938463463374607431768211456 := by decide
  omega
theorem mul_hb {x y : Nat} (hx : x < 4294967296) (hy : y < 4294967296) : x * y ≤ 18446744065119617025 := by
  have := Nat.mul_le_mul (show x ≤ 4294967295 by omega) (show y ≤ 4294967295 by omega)
  omega
theorem mul_parts (a b a0 a1 b0 b1 : Nat) (ha : a = a0 + 4294967296 * a1) (hb : b = b0 + 4294967296 * b1) : a * b = a0 * b0 + 4294967296 * (a1 * b0) + 4294967296 * (a0 * b1) + 18446744073709551616 * (a1 * b1) := by
  subst ha hb
  rw [Nat.add_mul, Nat.mul_add, Nat.mul_add]
  have e1 : a0 * (4294967296 * b1) = 4294967296 * (a0 * b1) := by rw [← Nat.mul_assoc, Nat.mul_comm a0, Nat.mul_assoc]
  have e2 : 4294967296 * a1 * b0 = 4294967296 * (a1 * b0) := Nat.mul_assoc _ _ _
  have e3 : 4294967296 * a1 * (4294967296 * b1) = 18446744073709551616 * (a1 * b1) := by
    rw [Nat.mul_assoc, ← Nat.mul_assoc a1, Nat.mul_comm a1, Nat.mul_assoc, ← Nat.mul_assoc]
  rw [e1, e2, e3]; omega
theorem lo_and (v : Nat) : bits .and .u64 (v : Int) 4294967295 = ((v % 4294967296 : Nat) : Int) := by
  have h := u64_ba v 4294967295
  have e : ba 64 v 4294967295 = v % 4294967296 := by
    unfold ba
    rw [show 4294967295 % 2 ^ 64 = 2 ^ 32 - 1 from rfl, Nat.and_two_pow_sub_one_eq_mod, Nat.mod_mod_of_dvd _ (by decide)]
  rw [e] at h
  exact h
theorem ma_sum (p x y : Nat) (h : p ≤ 18446744065119617025) (hx : x < 4294967296) (hy : y < 4294967296) : p + x < 18446744073709551616 ∧ p + x + y < 18446744073709551616 := by omega
theorem ma_lo32 (v : Nat) : v % 4294967296 < 4294967296 := Nat.mod_lt _ (by decide)
theorem ma_hi32 (v : Nat) (h : v < 18446744073709551616) : v / 4294967296 < 4294967296 := by omega
theorem ma_fin (ab c d p00 p10 p01 p11 : Nat) (hab : ab = p00 + 4294967296 * p10 + 4294967296 * p01 + 18446744073709551616 * p11) (f s u : Nat) (hf : f = p00 + c % 4294967296 + d % 4294967296) (hs : s = p10 + c / 4294967296 + f / 4294967296) (hu : u = p01 + d / 4294967296 + s % 4294967296) :
    (ab + c + d) % 18446744073709551616 = 4294967296 * (u % 4294967296) + f % 4294967296 ∧ (ab + c + d) / 18446744073709551616 = p11 + s / 4294967296 + u / 4294967296 := by omega
theorem w_mul (x y p : Nat) (h : p = x * y) (hp : p ≤ 18446744065119617025) : IntKind.u64.wrap ((x : Int) * (y : Int)) = (p : Int) := by
  rw [← Int.natCast_mul, ← h, u64_cut, Nat.mod_eq_of_lt (by omega)]
theorem w_add (x y p : Nat) (h : p = x + y) (hp : p < 18446744073709551616) : IntKind.u64.wrap ((x : Int) + (y : Int)) = (p : Int) := by
  rw [IntKind.wrap_u64]; omega
theorem w_lo (v p : Nat) (h : p = v % 4294967296) : bits .and .u64 (v : Int) 4294967295 = (p : Int) := by rw [lo_and, h]
theorem w_hi (v p : Nat) (h : p = v / 4294967296) : (v : Int) / 4294967296 = (p : Int) := by omega
theorem w_up (v l p : Nat) (hl : l = v % 4294967296) (h : p = 4294967296 * l) : IntKind.u64.wrap ((v : Int) * 4294967296) = (p : Int) := by
  rw [IntKind.wrap_u64]; omega
theorem w_or (l f p r : Nat) (hp : p = 4294967296 * l) (hl : l < 4294967296) (hf : f < 4294967296) (hr : r = 4294967296 * l + f) : bits .or .u64 (p : Int) (f : Int) = (r : Int) := by
  have h1 := u64_or_nat p f (by omega) (by omega)
  rw [h1]
  congr 1
  have h2 : (2 ^ 32 * l + f) = 2 ^ 32 * l ||| f := Nat.two_pow_add_eq_or_of_lt (show f < 2 ^ 32 from hf) l
  have h3 : p = 2 ^ 32 * l := hp
  rw [h3, ← h2, hr]
set_option maxRecDepth 100000 in
set_option maxHeartbeats 1000000 in
theorem mulAdd_any (a b c d : Nat) (w : World) (ha : a < 2 ^ 64) (hb : b < 2 ^ 64) (hc : c < 2 ^ 64) (hd : d < 2 ^ 64) :
    Calls Try.prog 50 #[.int .u64 (a : Nat), .int .u64 (b : Nat), .int .u64 (c : Nat), .int .u64 (d : Nat)] w fun e w' => e = .returned (.tuple #[.int .u64 (mlo a b c d : Nat), .int .u64 (mhi a b c d : Nat)]) ∧ w = w' := by
  obtain ⟨a0, a0_⟩ : ∃ a0 : Nat, a0 = a % 4294967296 := ⟨_, rfl⟩
  obtain ⟨a1, a1_⟩ : ∃ a1 : Nat, a1 = a / 4294967296 := ⟨_, rfl⟩
  have ra0 := w_lo a a0 a0_
  have ra1 := w_hi a a1 a1_
  have ha0 : a0 < 4294967296 := a0_ ▸ ma_lo32 a
  have ha1 : a1 < 4294967296 := a1_ ▸ ma_hi32 a ha
  obtain ⟨b0, b0_⟩ : ∃ b0 : Nat, b0 = b % 4294967296 := ⟨_, rfl⟩
  obtain ⟨b1, b1_⟩ : ∃ b1 : Nat, b1 = b / 4294967296 := ⟨_, rfl⟩
  have rb0 := w_lo b b0 b0_
  have rb1 := w_hi b b1 b1_
  have hb0 : b0 < 4294967296 := b0_ ▸ ma_lo32 b
  have hb1 : b1 < 4294967296 := b1_ ▸ ma_hi32 b hb
  obtain ⟨c0, c0_⟩ : ∃ c0 : Nat, c0 = c % 4294967296 := ⟨_, rfl⟩
  obtain ⟨c1, c1_⟩ : ∃ c1 : Nat, c1 = c / 4294967296 := ⟨_, rfl⟩
  have rc0 := w_lo c c0 c0_
  have rc1 := w_hi c c1 c1_
  have hc0 : c0 < 4294967296 := c0_ ▸ ma_lo32 c
  have hc1 : c1 < 4294967296 := c1_ ▸ ma_hi32 c hc
  obtain ⟨d0, d0_⟩ : ∃ d0 : Nat, d0 = d % 4294967296 := ⟨_, rfl⟩
  obtain ⟨d1, d1_⟩ : ∃ d1 : Nat, d1 = d / 4294967296 := ⟨_, rfl⟩
  have rd0 := w_lo d d0 d0_
  have rd1 := w_hi d d1 d1_
  have hd0 : d0 < 4294967296 := d0_ ▸ ma_lo32 d
  have hd1 : d1 < 4294967296 := d1_ ▸ ma_hi32 d hd
  obtain ⟨p00, p00_⟩ : ∃ p00 : Nat, p00 = a0 * b0 := ⟨_, rfl⟩
  have hp00 : p00 ≤ 18446744065119617025 := p00_ ▸ mul_hb ha0 hb0
  have rp00 := w_mul a0 b0 p00 p00_ hp00
  obtain ⟨p10, p10_⟩ : ∃ p10 : Nat, p10 = a1 * b0 := ⟨_, rfl⟩
  have hp10 : p10 ≤ 18446744065119617025 := p10_ ▸ mul_hb ha1 hb0
  have rp10 := w_mul a1 b0 p10 p10_ hp10
  obtain ⟨p01, p01_⟩ : ∃ p01 : Nat, p01 = a0 * b1 := ⟨_, rfl⟩
  have hp01 : p01 ≤ 18446744065119617025 := p01_ ▸ mul_hb ha0 hb1
  have rp01 := w_mul a0 b1 p01 p01_ hp01
  obtain ⟨p11, p11_⟩ : ∃ p11 : Nat, p11 = a1 * b1 := ⟨_, rfl⟩
  have hp11 : p11 ≤ 18446744065119617025 := p11_ ▸ mul_hb ha1 hb1
  have rp11 := w_mul a1 b1 p11 p11_ hp11
  have hab := mul_parts a b a0 a1 b0 b1 (by rw [a0_, a1_]; exact (Nat.mod_add_div _ _).symm) (by rw [b0_, b1_]; exact (Nat.mod_add_div _ _).symm)
  rw [← p00_, ← p10_, ← p01_, ← p11_] at hab
  obtain ⟨f1, f1_⟩ : ∃ f1 : Nat, f1 = p00 + c0 := ⟨_, rfl⟩
  obtain ⟨f2, f2_⟩ : ∃ f2 : Nat, f2 = f1 + d0 := ⟨_, rfl⟩
  have hs_f1 := ma_sum p00 c0 d0 hp00 hc0 hd0
  have rf1 := w_add p00 c0 f1 f1_ (f1_ ▸ hs_f1.1)
  have hf2 : f2 < 18446744073709551616 := f2_ ▸ f1_ ▸ hs_f1.2
  have rf2 := w_add f1 d0 f2 f2_ hf2
  obtain ⟨fz, fz_⟩ : ∃ fz : Nat, fz = f2 % 4294967296 := ⟨_, rfl⟩
  obtain ⟨fh, fh_⟩ : ∃ fh : Nat, fh = f2 / 4294967296 := ⟨_, rfl⟩
  have rfz := w_lo f2 fz fz_
  have rfh := w_hi f2 fh fh_
  have hfz : fz < 4294967296 := fz_ ▸ ma_lo32 f2
  have hfh : fh < 4294967296 := fh_ ▸ ma_hi32 f2 hf2
  obtain ⟨s1, s1_⟩ : ∃ s1 : Nat, s1 = p10 + c1 := ⟨_, rfl⟩
  obtain ⟨s2, s2_⟩ : ∃ s2 : Nat, s2 = s1 + fh := ⟨_, rfl⟩
  have hs_s1 := ma_sum p10 c1 fh hp10 hc1 hfh
  have rs1 := w_add p10 c1 s1 s1_ (s1_ ▸ hs_s1.1)
  have hs2 : s2 < 18446744073709551616 := s2_ ▸ s1_ ▸ hs_s1.2
  have rs2 := w_add s1 fh s2 s2_ hs2
  obtain ⟨sl, sl_⟩ : ∃ sl : Nat, sl = s2 % 4294967296 := ⟨_, rfl⟩
  obtain ⟨sh, sh_⟩ : ∃ sh : Nat, sh = s2 / 4294967296 := ⟨_, rfl⟩
  have rsl := w_lo s2 sl sl_
  have rsh := w_hi s2 sh sh_
  have hsl : sl < 4294967296 := sl_ ▸ ma_lo32 s2
  have hsh : sh < 4294967296 := sh_ ▸ ma_hi32 s2 hs2
  obtain ⟨t1, t1_⟩ : ∃ t1 : Nat, t1 = p01 + d1 := ⟨_, rfl⟩
  obtain ⟨t2, t2_⟩ : ∃ t2 : Nat, t2 = t1 + sl := ⟨_, rfl⟩
  have hs_t1 := ma_sum p01 d1 sl hp01 hd1 hsl
  have rt1 := w_add p01 d1 t1 t1_ (t1_ ▸ hs_t1.1)
  have ht2 : t2 < 18446744073709551616 := t2_ ▸ t1_ ▸ hs_t1.2
  have rt2 := w_add t1 sl t2 t2_ ht2
  obtain ⟨tl, tl_⟩ : ∃ tl : Nat, tl = t2 % 4294967296 := ⟨_, rfl⟩
  obtain ⟨th, th_⟩ : ∃ th : Nat, th = t2 / 4294967296 := ⟨_, rfl⟩
  have rtl := w_lo t2 tl tl_
  have rth := w_hi t2 th th_
  have htl : tl < 4294967296 := tl_ ▸ ma_lo32 t2
  have hth : th < 4294967296 := th_ ▸ ma_hi32 t2 ht2
  obtain ⟨u1, u1_⟩ : ∃ u1 : Nat, u1 = p11 + sh := ⟨_, rfl⟩
  obtain ⟨u2, u2_⟩ : ∃ u2 : Nat, u2 = u1 + th := ⟨_, rfl⟩
  have hs_u1 := ma_sum p11 sh th hp11 hsh hth
  have ru1 := w_add p11 sh u1 u1_ (u1_ ▸ hs_u1.1)
  have hu2 : u2 < 18446744073709551616 := u2_ ▸ u1_ ▸ hs_u1.2
  have ru2 := w_add u1 th u2 u2_ hu2
  obtain ⟨tw, tw_⟩ : ∃ tw : Nat, tw = 4294967296 * tl := ⟨_, rfl⟩
  have hfin := ma_fin (a * b) c d p00 p10 p01 p11 hab f2 s2 t2 (by rw [f2_, f1_, c0_, d0_]) (by rw [s2_, s1_, c1_, fh_]) (by rw [t2_, t1_, d1_, sl_])
  have hlow : mlo a b c d = 4294967296 * tl + fz := by rw [tl_, fz_]; exact hfin.1
  have hup : u2 = mhi a b c d := by rw [u2_, u1_, sh_, th_]; exact hfin.2.symm
  have rtw := w_up t2 tl tw tl_ tw_
  have row := w_or tl fz tw (mlo a b c d) tw_ htl hfz hlow
  rw [← hup]
  obtain ⟨lw, hlw⟩ : ∃ lw, lw = mlo a b c d := ⟨_, rfl⟩
  rw [← hlw] at row ⊢
  clear hlw hup hab ha hb hc hd hfin hlow
  clear a0_ a1_ b0_ b1_ c0_ c1_ d0_ d1_ p00_ p10_ p01_ p11_ f1_ f2_ fz_ fh_ s1_ s2_ sl_ sh_ t1_ t2_ tl_ th_ u1_ u2_ tw_
  clear hs_f1 hs_s1 hs_t1 hs_u1 rtl hu2
  go_enter Try.func50, Try.ntmps50
  go_wp2_with fail
  go_ret2
  exact ⟨rfl, rfl⟩
end Go.Proofs.Ytfffmoolkgheaaa
