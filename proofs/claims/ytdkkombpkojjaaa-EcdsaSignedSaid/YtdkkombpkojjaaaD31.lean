/- Parts of proofs of statements, each text behind those that it stands on. No condition of its own. -/
import Derived.Test.YtdkkombpkojjaaaD30
namespace Go.Proofs.Ytdkkombpkojjaaa
set_option maxRecDepth 100000
set_option maxHeartbeats 1600000
open Go.RowKit
set_option linter.unusedVariables false
noncomputable def rE (k : Nat) : Nat := xN (EC.mul k gP) % mN
noncomputable def sE (z d k : Nat) : Nat := (z + rE k * d % mN) % mN * wN k % mN
theorem rE_lt (k : Nat) : rE k < mN := Nat.mod_lt _ mNpos
theorem sE_lt (z d k : Nat) : sE z d k < mN := Nat.mod_lt _ mNpos
theorem sE_k {z d k : Nat} (hk : k % mN ≠ 0) : sE z d k * k % mN = (z + rE k * d) % mN := by
 unfold sE
 rw [sk_eq hk, Nat.mod_mod, Nat.add_mod, Nat.mod_mod, ← Nat.add_mod]
theorem lt_ne {s : Nat} (h0 : s ≠ 0) (h : s < mN) : s % mN ≠ 0 := by rw [Nat.mod_eq_of_lt h]; exact h0
theorem sum_at {d z r s k : Nat} (hs0 : s ≠ 0) (hs : s < mN) (h : s * k % mN = (z + r * d) % mN) : sumE (EC.mul d gP) z r s = EC.mul k gP := by
 unfold sumE
 rw [sum_G]
 exact mulG_congr (key_eq (e := z) (r := r) (d := d) (s := s) (k := k) (wN_mul (lt_ne hs0 hs)) (Nat.mod_mod _ _) (Nat.mod_mod _ _) h)
theorem verP_at {Q : EC.Pt mP} {z r s k : Nat} (hr0 : r ≠ 0) (hr : r = rE k) (hx : xN (sumE Q z r s) = xN (EC.mul k gP)) : verP Q z r s = 0 := by
 have h1 : xN (sumE Q z r s) % mN = r := by rw [hx, hr]; rfl
 unfold verP
 rw [if_neg (fun h => hr0 (by rw [← h1, h]; rfl)), if_pos h1]
theorem sign_ok {z d k : Nat} (hk : k % mN ≠ 0) (hr0 : rE k ≠ 0) (hs0 : sE z d k ≠ 0) : verP (EC.mul d gP) z (rE k) (sE z d k) = 0 :=
 verP_at hr0 rfl (by rw [sum_at hs0 (sE_lt z d k) (sE_k hk)])
theorem xN_neg (P : EC.Pt mP) : xN (EC.neg P) = xN P := by cases P <;> rfl
theorem neg_k {k : Nat} : (k + (mN - k % mN)) % mN = 0 := by
 have h : k % mN < mN := Nat.mod_lt _ mNpos
 rw [Nat.add_mod]
 by_cases h0 : k % mN = 0
 · rw [h0]; simp
 · rw [Nat.mod_eq_of_lt (show mN - k % mN < mN by omega), show k % mN + (mN - k % mN) = mN by omega, Nat.mod_self]
theorem sign_neg {z d k : Nat} (hk : k % mN ≠ 0) (hr0 : rE k ≠ 0) (hs0 : sE z d k ≠ 0) : verP (EC.mul d gP) z (rE k) (mN - sE z d k) = 0 := by
 have hl := sE_lt z d k
 refine verP_at hr0 rfl ?_
 rw [sum_at (k := mN - k % mN) (by omega) (by omega) (negs (Nat.le_of_lt hl) (sE_k hk)), mulG_neg neg_k, xN_neg]
theorem key_aff {d : Nat} (hd : d % mN ≠ 0) : ∃ x y, EC.mul d gP = .aff x y := by
 cases h : EC.mul d gP with
 | inf => exact absurd h (dG_ne hd)
 | aff x y => exact ⟨x, y, rfl⟩
def sigL (r s : Nat) : List Nat := bytesOf_ r ++ bytesOf_ s
theorem sigL_lt (r s : Nat) : ∀ x ∈ sigL r s, x < 256 := fun x hx => by
 rcases List.mem_append.1 hx with h | h
 · exact bytesOf_lt r x h
 · exact bytesOf_lt s x h
theorem sigL_R {r s : Nat} (hr : r < 2 ^ 256) : sigR (sigL r s) = r := by
 unfold sigR sigL
 rw [List.take_append_of_le_length (by rw [bytesOf_len]; exact Nat.le_refl _), List.take_of_length_le (by rw [bytesOf_len]; exact Nat.le_refl _)]
 exact be_bytesOf r hr
theorem sigL_S {r s : Nat} (hs : s < 2 ^ 256) : sigS (sigL r s) = s := by
 unfold sigS sigL
 rw [List.drop_append_of_le_length (by rw [bytesOf_len]; exact Nat.le_refl _), List.drop_of_length_le (by rw [bytesOf_len]; exact Nat.le_refl _), List.nil_append, List.take_of_length_le (by rw [bytesOf_len]; exact Nat.le_refl _)]
 exact be_bytesOf s hs
theorem sigL_A {r s : Nat} (hr0 : r ≠ 0) (hr : r < mN) (hs0 : s ≠ 0) (hs : s < mN) : sigA 64 (sigL r s) = (r, s, 0) := by
 have e1 := sigL_R (r := r) (s := s) (Nat.lt_trans hr mN256)
 have e2 := sigL_S (r := r) (s := s) (Nat.lt_trans hs mN256)
 have h : sigOk 64 (sigL r s) := by
   refine ⟨rfl, ?_, ?_⟩
   · rw [e1]; exact ⟨hr0, hr⟩
   · rw [e2]; exact ⟨hs0, hs⟩
 unfold sigA
 rw [if_pos rfl, if_pos h, e1, e2]
theorem verE_sig {d r s : Nat} {x y : FP} (hQ : EC.mul d gP = .aff x y) (hr0 : r ≠ 0) (hr : r < mN) (hs0 : s ≠ 0) (hs : s < mN) (nd : Nat) (ld : List Nat) :
   verE 65 (encL x y) nd ld 64 (sigL r s) = verP (EC.mul d gP) (scE nd ld) r s := by
 have hon : EC.On bP (.aff x y) := hQ ▸ on_mulG d
 rw [verE_enc hon, sigL_A hr0 hr hs0 hs, if_pos rfl, hQ, sigL_R (Nat.lt_trans hr mN256), sigL_S (Nat.lt_trans hs mN256)]
theorem verE_long {x y : FP} (hon : EC.On bP (.aff x y)) (nd : Nat) (ld : List Nat) (ls : List Nat) : verE 65 (encL x y) nd ld 65 ls = 72 := by
 rw [verE_enc hon]
 have e : sigA 65 ls = (0, 0, 72) := by unfold sigA; rw [if_neg (by decide)]
 rw [e, if_neg (by decide)]
set_option linter.unusedSimpArgs false
def OwnL (n : Nat) (l : List Nat) (w : World) (e : Ending) (w' : World) : Prop := ∃ g c, e = .returned (.slice (some ⟨g, 0, none⟩) n c) ∧ w'.ownsRow w.heap.size 5 1 (.slice (some ⟨g, 0, none⟩) n c) n (bytesV l) ∧ Below w.heap.size w w'
theorem wjoin {lx ly B1 B2 : List Nat} (w : World) (hlx : lx.length = 4) (hly : ly.length = 4) (hB1 : B1.length = 32) (hB2 : B2.length = 32)
   (hb1 : ∀ x ∈ B1, x < 256)
   (hb2 : ∀ x ∈ B2, x < 256)
   (c1 : Ans 30 #[.agg (natsV .u64 lx).toArray] (.agg (natsV .u8 B1).toArray))
   (c2 : Ans 30 #[.agg (natsV .u64 ly).toArray] (.agg (natsV .u8 B2).toArray)) :
   Calls Try.prog 14 #[.agg (natsV .u64 lx).toArray, .agg (natsV .u64 ly).toArray] w (OwnL 64 (B1 ++ B2) w) := by
 have L_lx := Hd hlx
 have L_ly := Hd hly
 have L_B1 := Hd hB1
 have L_B2 := Hd hB2
 have Hc1 := Hd c1
 have Hc2 := Hd c2
 have HB1 := Hd hb1
 have HB2 := Hd hb2
 have B0_ := Hd ((Blk.new w  24 (natsV .u64 lx)).alloc (.cells (natsV .u64 ly).toArray 24))
 have B1_ := Hd (Blk.new2 w (.cells (natsV .u64 lx).toArray 24) 24 (natsV .u64 ly))
 have bel_ := (((Below.refl w.heap.size w).alloc (Nat.le_refl _) (.cells (natsV .u64 lx).toArray 24)).alloc (by simp) (.cells (natsV .u64 ly).toArray 24))
 clear hlx hly hB1 hB2 c1 c2 hb1 hb2
 go_enter Try.func14, Try.ntmps14
 go_wp2_with (first | (refine lm' (blk_all (B0_.out)) Try.underlying24 (i24 L_lx.out) ?_))
 refine (Hc1.out _).mono ?_
 rintro e w1 ⟨rfl, hbw1⟩
 have C2 := gq' B0_ hbw1
 have C3 := gq' B1_ hbw1
 have hbel4 := bel_.trans (Below.mono hbw1 bel_.size)
 clear B0_ B1_ bel_ hbw1
 go_wp2_with (first | (refine stN rfl 49 (.tmp 5) (.tmp 9) rfl w1 rfl (natsV .u8 B1) rfl 49 (natsV .u8 (zeros 32)) (i90 L_B1.out) (lenEq (show (natsV .u8 (zeros 32)).length = 32 from rfl) (nl' L_B1.out)) n1' ?_; intro w5 hgw5 hnw5; have C8 := gq' C2 hgw5; clear C2; have C9 := gq' C3 hgw5; clear C3; have hbel10 := hbel4.trans (Below.mono hgw5 hbel4.size); clear hbel4; have D7 := Hd hnw5; clear hnw5 hgw5; generalize w1.heap.size = G6 at *) | (refine lm' (blk_all (C9.out)) Try.underlying24 (i24 L_ly.out) ?_))
 refine (Hc2.out _).mono ?_
 rintro e w11 ⟨rfl, hbw11⟩
 have C12 := gq' C8 hbw11
 have C13 := gq' C9 hbw11
 have C14 := gq' D7 hbw11
 have hbel15 := hbel10.trans (Below.mono hbw11 hbel10.size)
 clear C8 C9 D7 hbel10 hbw11
 go_upto_region 3 with (first | (refine stN rfl 49 (.tmp 6) (.tmp 11) rfl w11 rfl (natsV .u8 B2) rfl 49 (natsV .u8 (zeros 32)) (i90 L_B2.out) (lenEq (show (natsV .u8 (zeros 32)).length = 32 from rfl) (nl' L_B2.out)) n1' ?_; intro w16 hgw16 hnw16; have C19 := gq' C12 hgw16; clear C12; have C20 := gq' C13 hgw16; clear C13; have C21 := gq' C14 hgw16; clear C14; have hbel22 := hbel15.trans (Below.mono hgw16 hbel15.size); clear hbel15; have D18 := Hd hnw16; clear hnw16 hgw16; generalize w11.heap.size = G17 at *))
 try simp only [Act.put, zq]
 have HX1 := Hd (bin_blk (C21.out.alloc (.cells #[] 5)) L_B1.out HB1.out)
 have HX2 := Hd (bin_blk (D18.out) L_B2.out HB2.out)
 have HZ := Hd (zero_row w16)
 have hz0 := (hbel22).alloc (hbel22).size (.cells #[] 5)
 go_wp2_with (at_builtin; refine wpList_append_bytes _ rfl _ _ rfl w16.heap.size (.slice (some ⟨w16.heap.size, 0, none⟩) 0 0) 0 [] rfl HZ.out (some ⟨G6, 0, none⟩) 32 32 B1 rfl HX1.out ?c1 ?c2 ?_)
 case c1 => omega
 case c2 => simp
 intro v1 u1 o1 g1
 have hb1 := ((Below.refl w16.heap.size w16).alloc (Nat.le_refl _) (.cells #[] 5)).grown g1 (by simp) (fun j hj => (HZ.out.lt j hj).1)
 have O1 := Hd (show u1.ownsRow w16.heap.size 5 1 v1 32 (bytesV B1) from by simpa [bytesV] using o1)
 have HX3 := Hd (HX2.out.below hb1)
 clear o1 g1 HX1 HX2
 go_wp2_with (at_builtin; refine wpList_append_bytes _ rfl _ _ rfl w16.heap.size v1 32 B1 rfl O1.out (some ⟨G17, 0, none⟩) 32 32 B2 rfl HX3.out ?d1 ?d2 ?_)
 case d1 => omega
 case d2 => exact hb1.size
 intro v2 u2 o2 g2
 have hb2 := hb1.grown g2 hb1.size (fun j hj => (O1.out.lt j hj).1)
 obtain ⟨G, cap, rfl, _⟩ := own_form o2 (by decide)
 have O2 := Hd (own_base o2 (show w.heap.size ≤ w16.heap.size from (hbel22).size))
 have hbw := (hbel22).trans (hb2.mono (hbel22).size)
 clear o2 g2
 go_wp2_with fail
 go_ret
 exact ⟨G, cap, rfl, O2.out, hbw⟩
theorem d_join (r s : Nat) (w : World) : Calls Try.prog 14 #[.agg (natsV .u64 (wds 4 r)).toArray, .agg (natsV .u64 (wds 4 s)).toArray] w (OwnL 64 (sigL r s) w) :=
 wjoin w (wds_len 4 r) (wds_len 4 s) (bytesOf_len r) (bytesOf_len s) (bytesOf_lt r) (bytesOf_lt s) (refBytes_any r) (refBytes_any s)
end Go.Proofs.Ytdkkombpkojjaaa
