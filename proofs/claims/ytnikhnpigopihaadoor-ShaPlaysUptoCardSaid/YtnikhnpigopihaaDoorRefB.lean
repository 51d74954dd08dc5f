/- The document's words of a block, reckoned within 64 bits and cut, are M's. Plain mathematics, no condition. -/
import Derived.Test.YtnikhnpigopihaaDoorRefC
namespace Go.Proofs.YtnikhnpigopihaaDoor
theorem bx64_32 {x y : Nat} (hx : x < 2 ^ 32) (hy : y < 2 ^ 32) : bx 64 x y = bx 32 x y := by
  unfold bx
  rw [Nat.mod_eq_of_lt hx, Nat.mod_eq_of_lt hy, Nat.mod_eq_of_lt (show x < 2 ^ 64 by omega), Nat.mod_eq_of_lt (show y < 2 ^ 64 by omega)]
theorem ba64_32 {x y : Nat} (hx : x < 2 ^ 32) (hy : y < 2 ^ 32) : ba 64 x y = ba 32 x y := by
  unfold ba
  rw [Nat.mod_eq_of_lt hx, Nat.mod_eq_of_lt hy, Nat.mod_eq_of_lt (show x < 2 ^ 64 by omega), Nat.mod_eq_of_lt (show y < 2 ^ 64 by omega)]
theorem bn64_cut {W : Nat} (hW : W = 32 ∨ W = 64) (x : Nat) (hx : x < 2 ^ W) : bn 64 x % 2 ^ W = bn W x := by
  rcases hW with rfl | rfl
  · unfold bn; rw [Nat.mod_eq_of_lt hx, Nat.mod_eq_of_lt (show x < 2 ^ 64 by omega)]; omega
  · exact Nat.mod_eq_of_lt (bn_lt 64 x)
theorem tri_turn32 (a b c x : Nat) (ha : a ≤ 32) (hb : b ≤ 32) (hc : c ≤ 32) (hx : x < 2 ^ 32) : bx 64 (bx 64 (rot 32 a x) (rot 32 b x)) (rot 32 c x) = bx 32 (bx 32 (rot 32 a x) (rot 32 b x)) (rot 32 c x) := by
  rw [bx64_32 (rot_lt ha hx) (rot_lt hb hx), bx64_32 (bx_lt 32 _ _) (rot_lt hc hx)]
theorem tri_shift32 (a b c x : Nat) (ha : a ≤ 32) (hb : b ≤ 32) (hx : x < 2 ^ 32) : bx 64 (bx 64 (rot 32 a x) (rot 32 b x)) (shr c x) = bx 32 (bx 32 (rot 32 a x) (rot 32 b x)) (shr c x) := by
  rw [bx64_32 (rot_lt ha hx) (rot_lt hb hx), bx64_32 (bx_lt 32 _ _) (shr_lt hx)]
theorem ref_smE32 (x : Nat) (hx : x < 2 ^ 32) : bx 64 (bx 64 (rot 32 17 x) (rot 32 19 x)) (shr 10 x) = smE 32 x := (tri_shift32 17 19 10 x (by omega) (by omega) hx).trans (by unfold smE; rw [if_pos rfl])
theorem ref_smA32 (x : Nat) (hx : x < 2 ^ 32) : bx 64 (bx 64 (rot 32 7 x) (rot 32 18 x)) (shr 3 x) = smA 32 x := (tri_shift32 7 18 3 x (by omega) (by omega) hx).trans (by unfold smA; rw [if_pos rfl])
theorem ref_bigE32 (x : Nat) (hx : x < 2 ^ 32) : bx 64 (bx 64 (rot 32 6 x) (rot 32 11 x)) (rot 32 25 x) = bigE 32 x := (tri_turn32 6 11 25 x (by omega) (by omega) (by omega) hx).trans (by unfold bigE; rw [if_pos rfl])
theorem ref_bigA32 (x : Nat) (hx : x < 2 ^ 32) : bx 64 (bx 64 (rot 32 2 x) (rot 32 13 x)) (rot 32 22 x) = bigA 32 x := (tri_turn32 2 13 22 x (by omega) (by omega) (by omega) hx).trans (by unfold bigA; rw [if_pos rfl])
theorem ref_smE64 (x : Nat) : bx 64 (bx 64 (rot 64 19 x) (rot 64 61 x)) (shr 6 x) = smE 64 x := (by unfold smE; rw [if_neg (by decide)])
theorem ref_smA64 (x : Nat) : bx 64 (bx 64 (rot 64 1 x) (rot 64 8 x)) (shr 7 x) = smA 64 x := (by unfold smA; rw [if_neg (by decide)])
theorem ref_bigE64 (x : Nat) : bx 64 (bx 64 (rot 64 14 x) (rot 64 18 x)) (rot 64 41 x) = bigE 64 x := (by unfold bigE; rw [if_neg (by decide)])
theorem ref_bigA64 (x : Nat) : bx 64 (bx 64 (rot 64 28 x) (rot 64 34 x)) (rot 64 39 x) = bigA 64 x := (by unfold bigA; rw [if_neg (by decide)])
theorem ref_ch {W : Nat} (hW : W = 32 ∨ W = 64) (e f g : Nat) (he : e < 2 ^ W) (hf : f < 2 ^ W) (hg : g < 2 ^ W) : bx 64 (ba 64 e f) (ba 64 (bn 64 e % 2 ^ W) g) = ch W e f g := by
  rw [bn64_cut hW e he]
  rcases hW with rfl | rfl
  · rw [ba64_32 he hf, ba64_32 (bn_lt 32 e) hg, bx64_32 (ba_lt 32 _ _) (ba_lt 32 _ _)]; unfold ch; exact Eq.refl _
  · unfold ch; exact Eq.refl _
theorem ref_maj {W : Nat} (hW : W = 32 ∨ W = 64) (a b c : Nat) (ha : a < 2 ^ W) (hb : b < 2 ^ W) (hc : c < 2 ^ W) : bx 64 (bx 64 (ba 64 a b) (ba 64 a c)) (ba 64 b c) = maj W a b c := by
  rcases hW with rfl | rfl
  · rw [ba64_32 ha hb, ba64_32 ha hc, ba64_32 hb hc, bx64_32 (ba_lt 32 _ _) (ba_lt 32 _ _), bx64_32 (bx_lt 32 _ _) (ba_lt 32 _ _)]; unfold maj; exact Eq.refl _
  · unfold maj; exact Eq.refl _
theorem m64 {W : Nat} (hW : W = 32 ∨ W = 64) (x : Nat) : x % 2 ^ 64 % 2 ^ W = x % 2 ^ W :=
  Nat.mod_mod_of_dvd _ (Nat.pow_dvd_pow 2 (by rcases hW with h | h <;> rw [h] <;> decide))
theorem cutadd {W : Nat} (hW : W = 32 ∨ W = 64) (u b : Nat) : (u % 2 ^ 64 + b) % 2 ^ W = (u % 2 ^ W + b) % 2 ^ W := by
  rw [Nat.add_mod, m64 hW]; exact Nat.add_mod_mod _ _ _
theorem ref_next {W : Nat} (hW : W = 32 ∨ W = 64) (x a y b : Nat) : (((x + a) % 2 ^ 64 + y) % 2 ^ 64 + b) % 2 ^ 64 % 2 ^ W = add W (add W (add W x a) y) b := by
  unfold add; rw [m64 hW, cutadd hW, cutadd hW]
theorem ref_one {W : Nat} (hW : W = 32 ∨ W = 64) (h x c k l : Nat) : ((((h + x) % 2 ^ 64 + c) % 2 ^ 64 + k) % 2 ^ 64 + l) % 2 ^ 64 % 2 ^ W = add W (add W (add W (add W h x) c) k) l := by
  unfold add; rw [m64 hW, cutadd hW, cutadd hW, cutadd hW]
theorem ref_two {W : Nat} (hW : W = 32 ∨ W = 64) (x y : Nat) : (x + y) % 2 ^ 64 % 2 ^ W = add W x y := m64 hW _
theorem add_swap (W x y : Nat) : add W x y = add W y x := by unfold add; rw [Nat.add_comm]
end Go.Proofs.YtnikhnpigopihaaDoor
