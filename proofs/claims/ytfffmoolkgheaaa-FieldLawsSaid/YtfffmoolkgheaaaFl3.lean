/- FieldLaws answers true for any three numbers, modulo either prime: the calls' answers by plain arithmetic. No condition but 256 bits. -/
import Derived.Test.YtfffmoolkgheaaaFl1
import Derived.Test.YtfffmoolkgheaaaFl2
import Derived.Test.YtfffmoolkgheaaaFLa
import Derived.Test.YtfffmoolkgheaaaWa
namespace Go.Proofs.Ytfffmoolkgheaaa
open Go.RowKit
set_option linter.unusedVariables false
theorem laws5_any (k j : Int) (m f v x y z : Nat) (w : World) (hx : x < 2 ^ 256) (hy : y < 2 ^ 256) (hz : z < 2 ^ 256) (h : Wh j m f v) (HPR_ : ∀ w, Calls Try.prog 16 #[.int .i64 k] w fun e w' => e = .returned (.tuple #[.int .i64 j, .agg (natsV .u64 (wds 4 m)).toArray]) ∧ Below w.heap.size w w') :
    Calls Try.prog 4 #[.int .i64 k, .agg (tv (wds 4 x) (wds 4 y) (wds 4 z)).toArray] w fun e w' => e = .returned (.bool true) ∧ Below w.heap.size w w' := by
  have H := h.fld
  have hm := H.lt
  have I1 := fun w => In_ok j m f v x w h hx
  have I2 := fun w => In_ok j m f v y w h hy
  have I3 := fun w => In_ok j m f v z w h hz
  have IU := fun w => In_ok j m f v 1 w h (by decide)
  rw [← num_lit1] at IU
  have ha := toF_lt H x
  have hb := toF_lt H y
  have hc := toF_lt H z
  have hu := toF_lt H 1
  generalize toF m x = A at *
  generalize toF m y = B at *
  generalize toF m z = C at *
  have md : ∀ t : Nat, t % m < m := fun t => Nat.mod_lt _ H.pos
  have fd : ∀ t : Nat, ofF m v t < m := fun t => ofF_lt H t
  have AD := fun (a b : Nat) (ha : a < m) (hb : b < m) w => FAdd_ok j m f v a b w H ha hb (pok_2 j m f v a b h ha hb)
  have MU := fun (a b : Nat) (ha : a < m) (hb : b < m) w => Mul_ok j m f v a b w H ha hb (pok_2 j m f v a b h ha hb)
  have H1 := AD A B ha hb
  have H2 := AD B A hb ha
  rw [Nat.add_comm B A] at H2
  have H3 := AD B C hb hc
  have H4 := AD ((A + B) % m) C (md _) hc
  have H5 := AD A ((B + C) % m) ha (md _)
  rw [show (A + (B + C) % m) % m = ((A + B) % m + C) % m by rw [Nat.add_mod_mod, Nat.mod_add_mod, Nat.add_assoc]] at H5
  have H6 := fun w => Sub_ok j m f v ((A + B) % m) B w H (md _) hb (pok_2 j m f v _ _ h (md _) hb)
  rw [add_back m A B ha hb] at H6
  have H7 := MU A B ha hb
  have H8 := MU B A hb ha
  rw [ofF_comm m v B A] at H8
  have H9 := MU B C hb hc
  have H10 := MU (ofF m v (A * B)) C (fd _) hc
  have H11 := MU A (ofF m v (B * C)) ha (fd _)
  rw [← ofF_assoc m v A B C] at H11
  have H12 := MU A ((B + C) % m) ha (md _)
  have H13 := MU A C ha hc
  have H14 := AD (ofF m v (A * B)) (ofF m v (A * C)) (fd _) (fd _)
  rw [← ofF_add m v A B C] at H14
  have H15 := MU A (toF m 1) ha hu
  rw [ofF_unit H ha] at H15
  obtain ⟨d0, d1, d2, d3, hw1, hw2, hd1, hd64⟩ := less1 h
  rw [hw1] at HPR_
  have he : d0 = (d0 - 1) + 1 := by omega
  by_cases h0 : A = 0
  · exact laws_zero w (wds_len 4 x) (wds_len 4 y) (wds_len 4 z) (wds_len 4 A) (wds_len 4 B) (wds_len 4 C) (wds_len 4 _) (wds_len 4 _) (wds_len 4 _) (wds_len 4 _) (wds_len 4 _) (wds_len 4 _) (wds_len 4 _) (wds_len 4 _) (wds_len 4 _)
      (by rw [h0]; exact num_zero) he hd64 HPR_ I1 I2 I3 fawake_any H1 H2 H3 H4 H5 H6 H7 H8 H9 H10 H11 H12 H13 H14 IU H15
  · have H16 := fun w => Inv_ok j m f v A w H ha h0 (pok_1 j m f v A h ha)
    have H17 := MU A (toF m (ofF m v A ^ (m - 2))) ha (toF_lt H _)
    rw [ofF_inv H ha h0] at H17
    have H18 := fun w => Pow_ok j m f v A (m - 1) w H ha (Nat.lt_of_le_of_lt (Nat.sub_le _ _) hm) (pok_1 j m f v A h ha)
    rw [pow_less H ha h0, hw2] at H18
    have hz : ¬ wds 4 A = zeros 4 := by
      intro e
      rw [← num_zero] at e
      have k := wds_inj 4 A 0 (show A < 2 ^ (64 * 4) from Nat.lt_trans ha hm) (by decide)
      rw [decide_eq_true e] at k
      exact h0 (of_decide_eq_true k.symm)
    exact laws_ok w (wds_len 4 x) (wds_len 4 y) (wds_len 4 z) (wds_len 4 A) (wds_len 4 B) (wds_len 4 C) (wds_len 4 _) (wds_len 4 _) (wds_len 4 _) (wds_len 4 _) (wds_len 4 _) (wds_len 4 _) (wds_len 4 _) (wds_len 4 _) (wds_len 4 _) (wds_len 4 _)
      hz he hd64 HPR_ I1 I2 I3 fawake_any H1 H2 H3 H4 H5 H6 H7 H8 H9 H10 H11 H12 H13 H14 IU H15 H16 H17 H18
theorem laws5_walk (k : Int) (x y z : Nat) (w : World) (hx : x < 2 ^ 256) (hy : y < 2 ^ 256) (hz : z < 2 ^ 256) :
    Calls Try.prog 4 #[.int .i64 k, .agg (natsV .u64 (wds 4 x ++ wds 4 y ++ wds 4 z)).toArray] w fun e w' => e = .returned (.bool true) ∧ Below w.heap.size w w' := by
  have e : natsV .u64 (wds 4 x ++ wds 4 y ++ wds 4 z) = tv (wds 4 x) (wds 4 y) (wds 4 z) := by unfold tv; rw [natsV_append, natsV_append, List.append_assoc]
  rw [e]
  by_cases hk : k.tmod 2 = 0
  · exact laws5_any k 1 mP 1 vP x y z w hx hy hz .p (fun w => prime_even k w hk)
  · exact laws5_any k 2 mN fN vN x y z w hx hy hz .n (fun w => prime_odd k w hk)
end Go.Proofs.Ytfffmoolkgheaaa
