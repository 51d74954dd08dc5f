/- Words of W bits as naturals, and the model's words for them. No condition. -/
import Derived.Laws.BitsAllLaws
namespace Go.Proofs.YtidnlaibfkjgpaaDoor

/-- x turned right by n within W bits -/
def rot (W n x : Nat) : Nat := x / 2 ^ n + (x % 2 ^ n) * 2 ^ (W - n)
def shr (n x : Nat) : Nat := x / 2 ^ n
def add (W x y : Nat) : Nat := (x + y) % 2 ^ W
def bx (W x y : Nat) : Nat := (x % 2 ^ W) ^^^ (y % 2 ^ W)
def ba (W x y : Nat) : Nat := (x % 2 ^ W) &&& (y % 2 ^ W)
def bn (W x : Nat) : Nat := 2 ^ W - 1 - x % 2 ^ W
/-- the number of some bytes, the highest one first -/
def be (l : List Nat) : Nat := l.foldl (fun v x => v * 256 + x) 0

theorem two_pow_pos' (W : Nat) : 0 < 2 ^ W := Nat.two_pow_pos W
theorem add_lt (W x y : Nat) : add W x y < 2 ^ W := Nat.mod_lt _ (two_pow_pos' W)
theorem bx_lt (W x y : Nat) : bx W x y < 2 ^ W := Nat.xor_lt_two_pow (Nat.mod_lt _ (two_pow_pos' W)) (Nat.mod_lt _ (two_pow_pos' W))
theorem ba_lt (W x y : Nat) : ba W x y < 2 ^ W := Nat.and_lt_two_pow _ (Nat.mod_lt _ (two_pow_pos' W))
theorem bn_lt (W x : Nat) : bn W x < 2 ^ W := by have := two_pow_pos' W; unfold bn; omega
theorem be_append (l : List Nat) (x : Nat) : be (l ++ [x]) = be l * 256 + x := by simp [be]
theorem be_lt' (l : List Nat) (h : ∀ x ∈ l, x < 256) : ∀ v, l.foldl (fun v x => v * 256 + x) v < (v + 1) * 256 ^ l.length := by
  induction l with
  | nil => intro v; simp
  | cons x l ih =>
    intro v
    have h1 := ih (fun y hy => h y (by simp [hy])) (v * 256 + x)
    have h2 := h x (by simp)
    rw [List.foldl_cons, List.length_cons, Nat.pow_succ, Nat.mul_comm (256 ^ l.length), ← Nat.mul_assoc]
    exact Nat.lt_of_lt_of_le h1 (Nat.mul_le_mul_right _ (by omega))
theorem be_lt (l : List Nat) (h : ∀ x ∈ l, x < 256) : be l < 256 ^ l.length := by
  have := be_lt' l h 0
  simpa [be] using this
theorem rot_lt {W n x : Nat} (hn : n ≤ W) (hx : x < 2 ^ W) : rot W n x < 2 ^ W := by
  unfold rot
  have e : 2 ^ W = 2 ^ n * 2 ^ (W - n) := by rw [← Nat.pow_add]; congr 1; omega
  have h1 : x / 2 ^ n < 2 ^ (W - n) := by rw [Nat.div_lt_iff_lt_mul (two_pow_pos' n), Nat.mul_comm, ← e]; exact hx
  have h2 : x % 2 ^ n < 2 ^ n := Nat.mod_lt _ (two_pow_pos' n)
  have h3 : (x % 2 ^ n + 1) * 2 ^ (W - n) ≤ 2 ^ n * 2 ^ (W - n) := Nat.mul_le_mul_right _ h2
  rw [Nat.add_mul, Nat.one_mul] at h3
  omega
theorem rot_or {W n x : Nat} (hn : n ≤ W) (hx : x < 2 ^ W) : (x / 2 ^ n) ||| (x * 2 ^ (W - n) % 2 ^ W) = rot W n x := by
  have e : 2 ^ W = 2 ^ n * 2 ^ (W - n) := by rw [← Nat.pow_add]; congr 1; omega
  have h1 : x / 2 ^ n < 2 ^ (W - n) := by rw [Nat.div_lt_iff_lt_mul (two_pow_pos' n), Nat.mul_comm, ← e]; exact hx
  have h2 : x * 2 ^ (W - n) % 2 ^ W = (x % 2 ^ n) * 2 ^ (W - n) := by rw [e, Nat.mul_mod_mul_right]
  rw [h2, Nat.or_comm, Nat.mul_comm, ← Nat.two_pow_add_eq_or_of_lt h1]
  unfold rot
  rw [Nat.mul_comm (x % 2 ^ n)]; omega
theorem shr_lt {W n x : Nat} (hx : x < 2 ^ W) : shr n x < 2 ^ W := Nat.lt_of_le_of_lt (Nat.div_le_self _ _) hx
theorem getD_lt' {l : List Nat} {m : Nat} (h : ∀ x ∈ l, x < m) (hm : 0 < m) (k : Nat) : l.getD k 0 < m := by
  by_cases hk : k < l.length
  · rw [List.getD_eq_getElem?_getD, List.getElem?_eq_getElem hk]; exact h _ (List.getElem_mem hk)
  · rw [List.getD_eq_getElem?_getD, List.getElem?_eq_none (by omega)]; exact hm
theorem u32_add (a b : Nat) : IntKind.u32.wrap ((a : Int) + (b : Int)) = ((add 32 a b : Nat) : Int) := by
  rw [IntKind.wrap_u32']; unfold add; omega
theorem u32_add' (a b : Nat) : ((a : Int) + (b : Int)) % 4294967296 = ((add 32 a b : Nat) : Int) := by
  unfold add; omega
theorem u64_add (a b : Nat) : IntKind.u64.wrap ((a : Int) + (b : Int)) = ((add 64 a b : Nat) : Int) := by
  rw [IntKind.wrap_u64]; unfold add; omega
theorem u32_cut (a : Nat) : IntKind.u32.wrap (a : Int) = ((a % 4294967296 : Nat) : Int) := by
  rw [IntKind.wrap_u32']; omega
theorem u64_cut (a : Nat) : IntKind.u64.wrap (a : Int) = ((a % 18446744073709551616 : Nat) : Int) := by
  rw [IntKind.wrap_u64]; omega
theorem ofInt_mod32 (a : Nat) : BitVec.ofInt 32 (a : Int) = BitVec.ofNat 32 (a % 2 ^ 32) := by
  apply BitVec.eq_of_toNat_eq; simp
theorem ofInt_mod64 (a : Nat) : BitVec.ofInt 64 (a : Int) = BitVec.ofNat 64 (a % 2 ^ 64) := by
  apply BitVec.eq_of_toNat_eq; simp
theorem u32_bx (a b : Nat) : bits .xor .u32 (a : Int) (b : Int) = ((bx 32 a b : Nat) : Int) := by
  have h := u32_xor_nat (a % 2 ^ 32) (b % 2 ^ 32) (Nat.mod_lt _ (by decide)) (Nat.mod_lt _ (by decide))
  have e : bits .xor .u32 (a : Int) (b : Int) = bits .xor .u32 ((a % 2 ^ 32 : Nat) : Int) ((b % 2 ^ 32 : Nat) : Int) := by
    show IntKind.u32.wrap ((BitVec.ofInt 32 (a : Int) ^^^ BitVec.ofInt 32 (b : Int)).toNat : Int) = IntKind.u32.wrap ((BitVec.ofInt 32 ((a % 2 ^ 32 : Nat) : Int) ^^^ BitVec.ofInt 32 ((b % 2 ^ 32 : Nat) : Int)).toNat : Int)
    rw [ofInt_mod32 a, ofInt_mod32 b, ofInt_mod32 (a % 2 ^ 32), ofInt_mod32 (b % 2 ^ 32), Nat.mod_mod, Nat.mod_mod]
  rw [e, h]; rfl
theorem u64_bx (a b : Nat) : bits .xor .u64 (a : Int) (b : Int) = ((bx 64 a b : Nat) : Int) := by
  have h := u64_xor_nat (a % 2 ^ 64) (b % 2 ^ 64) (Nat.mod_lt _ (by decide)) (Nat.mod_lt _ (by decide))
  have e : bits .xor .u64 (a : Int) (b : Int) = bits .xor .u64 ((a % 2 ^ 64 : Nat) : Int) ((b % 2 ^ 64 : Nat) : Int) := by
    show IntKind.u64.wrap ((BitVec.ofInt 64 (a : Int) ^^^ BitVec.ofInt 64 (b : Int)).toNat : Int) = IntKind.u64.wrap ((BitVec.ofInt 64 ((a % 2 ^ 64 : Nat) : Int) ^^^ BitVec.ofInt 64 ((b % 2 ^ 64 : Nat) : Int)).toNat : Int)
    rw [ofInt_mod64 a, ofInt_mod64 b, ofInt_mod64 (a % 2 ^ 64), ofInt_mod64 (b % 2 ^ 64), Nat.mod_mod, Nat.mod_mod]
  rw [e, h]; rfl
theorem u32_ba (a b : Nat) : bits .and .u32 (a : Int) (b : Int) = ((ba 32 a b : Nat) : Int) := by
  have h := u32_and_nat (a % 2 ^ 32) (b % 2 ^ 32) (Nat.mod_lt _ (by decide)) (Nat.mod_lt _ (by decide))
  have e : bits .and .u32 (a : Int) (b : Int) = bits .and .u32 ((a % 2 ^ 32 : Nat) : Int) ((b % 2 ^ 32 : Nat) : Int) := by
    show IntKind.u32.wrap ((BitVec.ofInt 32 (a : Int) &&& BitVec.ofInt 32 (b : Int)).toNat : Int) = IntKind.u32.wrap ((BitVec.ofInt 32 ((a % 2 ^ 32 : Nat) : Int) &&& BitVec.ofInt 32 ((b % 2 ^ 32 : Nat) : Int)).toNat : Int)
    rw [ofInt_mod32 a, ofInt_mod32 b, ofInt_mod32 (a % 2 ^ 32), ofInt_mod32 (b % 2 ^ 32), Nat.mod_mod, Nat.mod_mod]
  rw [e, h]; rfl
theorem u64_ba (a b : Nat) : bits .and .u64 (a : Int) (b : Int) = ((ba 64 a b : Nat) : Int) := by
  have h := u64_and_nat (a % 2 ^ 64) (b % 2 ^ 64) (Nat.mod_lt _ (by decide)) (Nat.mod_lt _ (by decide))
  have e : bits .and .u64 (a : Int) (b : Int) = bits .and .u64 ((a % 2 ^ 64 : Nat) : Int) ((b % 2 ^ 64 : Nat) : Int) := by
    show IntKind.u64.wrap ((BitVec.ofInt 64 (a : Int) &&& BitVec.ofInt 64 (b : Int)).toNat : Int) = IntKind.u64.wrap ((BitVec.ofInt 64 ((a % 2 ^ 64 : Nat) : Int) &&& BitVec.ofInt 64 ((b % 2 ^ 64 : Nat) : Int)).toNat : Int)
    rw [ofInt_mod64 a, ofInt_mod64 b, ofInt_mod64 (a % 2 ^ 64), ofInt_mod64 (b % 2 ^ 64), Nat.mod_mod, Nat.mod_mod]
  rw [e, h]; rfl
theorem flip_xor (W x : Nat) (h : x < 2 ^ W) : (2 ^ W - 1) ^^^ x = 2 ^ W - 1 - x := by
  have h1 : (BitVec.allOnes W ^^^ BitVec.ofNat W x).toNat = (~~~ BitVec.ofNat W x).toNat := by rw [BitVec.allOnes_xor]
  rw [BitVec.toNat_xor, BitVec.toNat_not, BitVec.toNat_allOnes, BitVec.toNat_ofNat, Nat.mod_eq_of_lt h] at h1
  exact h1
theorem u32_bn (a : Nat) : bits .xor .u32 IntKind.u32.max (a : Int) = ((bn 32 a : Nat) : Int) := by
  have h := u32_bx 4294967295 a
  refine Eq.trans h ?_
  congr 1
  unfold bx bn
  rw [Nat.mod_eq_of_lt (show 4294967295 < 2 ^ 32 by decide)]
  have : a % 2 ^ 32 < 2 ^ 32 := Nat.mod_lt _ (by decide)
  exact flip_xor 32 _ this
theorem u64_bn (a : Nat) : bits .xor .u64 IntKind.u64.max (a : Int) = ((bn 64 a : Nat) : Int) := by
  have h := u64_bx 18446744073709551615 a
  refine Eq.trans h ?_
  congr 1
  unfold bx bn
  rw [Nat.mod_eq_of_lt (show 18446744073709551615 < 2 ^ 64 by decide)]
  have : a % 2 ^ 64 < 2 ^ 64 := Nat.mod_lt _ (by decide)
  exact flip_xor 64 _ this
end Go.Proofs.YtidnlaibfkjgpaaDoor
