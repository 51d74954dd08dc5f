/- Parts of proofs of statements, each text behind those that it stands on. No condition of its own. -/
import Derived.Test.YtdkkombpkojjaaaGreatC30
namespace Go.Proofs.YtdkkombpkojjaaaGreat
set_option maxRecDepth 100000
set_option maxHeartbeats 3200000
open Go.RowKit
set_option linter.unusedVariables false
noncomputable def rE (k : Nat) : Nat := xN (EC.mul k gP) % mN
noncomputable def sE (z d k : Nat) : Nat := (z + rE k * d % mN) % mN * wN k % mN
theorem rE_lt (k : Nat) : rE k < mN := Nat.mod_lt _ mNpos
theorem sE_lt (z d k : Nat) : sE z d k < mN := Nat.mod_lt _ mNpos
theorem sE_k {z d k : Nat} (hk : k % mN ≠ 0) : sE z d k * k % mN = (z + rE k * d) % mN := by
 unfold sE
 rw [sk_eq hk, Nat.mod_mod, Nat.add_mod, Nat.mod_mod, ← Nat.add_mod]
theorem lt_ne {s : Nat} (h0 : s ≠ 0) (h : s < mN) : s % mN ≠ 0 := by rw [Nat.mod_eq_of_lt h]; exact h0
theorem sum_at {d z r s k : Nat} (hs0 : s ≠ 0) (hs : s < mN) (h : s * k % mN = (z + r * d) % mN) : sumE (EC.mul d gP) z r s = EC.mul k gP := by
 unfold sumE
 rw [sum_G]
 exact mulG_congr (key_eq (e := z) (r := r) (d := d) (s := s) (k := k) (wN_mul (lt_ne hs0 hs)) (Nat.mod_mod _ _) (Nat.mod_mod _ _) h)
theorem verP_at {Q : EC.Pt mP} {z r s k : Nat} (hr0 : r ≠ 0) (hr : r = rE k) (hx : xN (sumE Q z r s) = xN (EC.mul k gP)) : verP Q z r s = 0 := by
 have h1 : xN (sumE Q z r s) % mN = r := by rw [hx, hr]; rfl
 unfold verP
 rw [if_neg (fun h => hr0 (by rw [← h1, h]; rfl)), if_pos h1]
theorem sign_ok {z d k : Nat} (hk : k % mN ≠ 0) (hr0 : rE k ≠ 0) (hs0 : sE z d k ≠ 0) : verP (EC.mul d gP) z (rE k) (sE z d k) = 0 :=
 verP_at hr0 rfl (by rw [sum_at hs0 (sE_lt z d k) (sE_k hk)])
theorem key_aff {d : Nat} (hd : d % mN ≠ 0) : ∃ x y, EC.mul d gP = .aff x y := by
 cases h : EC.mul d gP with
 | inf => exact absurd h (dG_ne hd)
 | aff x y => exact ⟨x, y, rfl⟩
def sigL (r s : Nat) : List Nat := bytesOf_ r ++ bytesOf_ s
theorem sigL_lt (r s : Nat) : ∀ x ∈ sigL r s, x < 256 := fun x hx => by
 rcases List.mem_append.1 hx with h | h
 · exact bytesOf_lt r x h
 · exact bytesOf_lt s x h
theorem sigL_R {r s : Nat} (hr : r < 2 ^ 256) : sigR (sigL r s) = r := by
 unfold sigR sigL
 rw [List.take_append_of_le_length (by rw [bytesOf_len]; exact Nat.le_refl _), List.take_of_length_le (by rw [bytesOf_len]; exact Nat.le_refl _)]
 exact be_bytesOf r hr
theorem sigL_S {r s : Nat} (hs : s < 2 ^ 256) : sigS (sigL r s) = s := by
 unfold sigS sigL
 rw [List.drop_append_of_le_length (by rw [bytesOf_len]; exact Nat.le_refl _), List.drop_of_length_le (by rw [bytesOf_len]; exact Nat.le_refl _), List.nil_append, List.take_of_length_le (by rw [bytesOf_len]; exact Nat.le_refl _)]
 exact be_bytesOf s hs
theorem sigL_A {r s : Nat} (hr0 : r ≠ 0) (hr : r < mN) (hs0 : s ≠ 0) (hs : s < mN) : sigA 64 (sigL r s) = (r, s, 0) := by
 have e1 := sigL_R (r := r) (s := s) (Nat.lt_trans hr mN256)
 have e2 := sigL_S (r := r) (s := s) (Nat.lt_trans hs mN256)
 have h : sigOk 64 (sigL r s) := by
   refine ⟨rfl, ?_, ?_⟩
   · rw [e1]; exact ⟨hr0, hr⟩
   · rw [e2]; exact ⟨hs0, hs⟩
 unfold sigA
 rw [if_pos rfl, if_pos h, e1, e2]
theorem verE_sig {d r s : Nat} {x y : FP} (hQ : EC.mul d gP = .aff x y) (hr0 : r ≠ 0) (hr : r < mN) (hs0 : s ≠ 0) (hs : s < mN) (nd : Nat) (ld : List Nat) :
   verE 65 (encL x y) nd ld 64 (sigL r s) = verP (EC.mul d gP) (scE nd ld) r s := by
 have hon : EC.On bP (.aff x y) := hQ ▸ on_mulG d
 rw [verE_enc hon, sigL_A hr0 hr hs0 hs, if_pos rfl, hQ, sigL_R (Nat.lt_trans hr mN256), sigL_S (Nat.lt_trans hs mN256)]
theorem scE_32 {l : List Nat} (hl : l.length = 32) : scE 32 l = be l % mN := by
 unfold scE
 rw [show min 32 32 = 32 from rfl, List.take_of_length_le (by omega)]
 rfl
theorem scE_more {l m : List Nat} (hl : l.length = 32) : scE (32 + m.length) (l ++ m) = scE 32 l := by
 unfold scE
 rw [show min (32 + m.length) 32 = 32 by omega, show min 32 32 = 32 from rfl, List.take_append_of_le_length (by omega)]
set_option linter.unusedSimpArgs false
def OwnL (n : Nat) (l : List Nat) (w : World) (e : Ending) (w' : World) : Prop := ∃ g c, e = .returned (.slice (some ⟨g, 0, none⟩) n c) ∧ w'.ownsRow w.heap.size 5 1 (.slice (some ⟨g, 0, none⟩) n c) n (bytesV l) ∧ Below w.heap.size w w'
theorem wjoin {lx ly B1 B2 : List Nat} (w : World) (hlx : lx.length = 4) (hly : ly.length = 4) (hB1 : B1.length = 32) (hB2 : B2.length = 32)
   (hb1 : ∀ x ∈ B1, x < 256)
   (hb2 : ∀ x ∈ B2, x < 256)
   (c1 : Ans 25 #[.agg (natsV .u64 lx).toArray] (.agg (natsV .u8 B1).toArray))
   (c2 : Ans 25 #[.agg (natsV .u64 ly).toArray] (.agg (natsV .u8 B2).toArray)) :
   Calls Tryz.prog 46 #[.agg (natsV .u64 lx).toArray, .agg (natsV .u64 ly).toArray] w (OwnL 64 (B1 ++ B2) w) := by
 have L_lx := Hd hlx
 have L_ly := Hd hly
 have L_B1 := Hd hB1
 have L_B2 := Hd hB2
 have Hc1 := Hd c1
 have Hc2 := Hd c2
 have HB1 := Hd hb1
 have HB2 := Hd hb2
 have B0_ := Hd ((Blk.new w  26 (natsV .u64 lx)).alloc (.cells (natsV .u64 ly).toArray 26))
 have B1_ := Hd (Blk.new2 w (.cells (natsV .u64 lx).toArray 26) 26 (natsV .u64 ly))
 have bel_ := (((Below.refl w.heap.size w).alloc (Nat.le_refl _) (.cells (natsV .u64 lx).toArray 26)).alloc (by simp) (.cells (natsV .u64 ly).toArray 26))
 clear hlx hly hB1 hB2 c1 c2 hb1 hb2
 go_enter Tryz.func46, Tryz.ntmps46
 go_wp2_with (first | (refine lm' (blk_all (B0_.out)) Tryz.underlying26 (i24 L_lx.out) ?_))
 refine (Hc1.out _).mono ?_
 rintro e w1 ⟨rfl, hbw1⟩
 have C2 := gq' B0_ hbw1
 have C3 := gq' B1_ hbw1
 have hbel4 := bel_.trans (Below.mono hbw1 bel_.size)
 clear B0_ B1_ bel_ hbw1
 go_wp2_with (first | (refine stN rfl 53 (.tmp 5) (.tmp 9) rfl w1 rfl (natsV .u8 B1) rfl 53 (natsV .u8 (zeros 32)) (i90 L_B1.out) (lenEq (show (natsV .u8 (zeros 32)).length = 32 from rfl) (nl' L_B1.out)) n1' ?_; intro w5 hgw5 hnw5; have C8 := gq' C2 hgw5; clear C2; have C9 := gq' C3 hgw5; clear C3; have hbel10 := hbel4.trans (Below.mono hgw5 hbel4.size); clear hbel4; have D7 := Hd hnw5; clear hnw5 hgw5; generalize w1.heap.size = G6 at *) | (refine lm' (blk_all (C9.out)) Tryz.underlying26 (i24 L_ly.out) ?_))
 refine (Hc2.out _).mono ?_
 rintro e w11 ⟨rfl, hbw11⟩
 have C12 := gq' C8 hbw11
 have C13 := gq' C9 hbw11
 have C14 := gq' D7 hbw11
 have hbel15 := hbel10.trans (Below.mono hbw11 hbel10.size)
 clear C8 C9 D7 hbel10 hbw11
 go_upto_region 3 with (first | (refine stN rfl 53 (.tmp 6) (.tmp 11) rfl w11 rfl (natsV .u8 B2) rfl 53 (natsV .u8 (zeros 32)) (i90 L_B2.out) (lenEq (show (natsV .u8 (zeros 32)).length = 32 from rfl) (nl' L_B2.out)) n1' ?_; intro w16 hgw16 hnw16; have C19 := gq' C12 hgw16; clear C12; have C20 := gq' C13 hgw16; clear C13; have C21 := gq' C14 hgw16; clear C14; have hbel22 := hbel15.trans (Below.mono hgw16 hbel15.size); clear hbel15; have D18 := Hd hnw16; clear hnw16 hgw16; generalize w11.heap.size = G17 at *))
 try simp only [Act.put, zq]
 have HX1 := Hd (bin_blk (C21.out.alloc (.cells #[] 5)) L_B1.out HB1.out)
 have HX2 := Hd (bin_blk (D18.out) L_B2.out HB2.out)
 have HZ := Hd (zero_row w16)
 have hz0 := (hbel22).alloc (hbel22).size (.cells #[] 5)
 go_wp2_with (at_builtin; refine wpList_append_bytes _ rfl _ _ rfl w16.heap.size (.slice (some ⟨w16.heap.size, 0, none⟩) 0 0) 0 [] rfl HZ.out (some ⟨G6, 0, none⟩) 32 32 B1 rfl HX1.out ?c1 ?c2 ?_)
 case c1 => omega
 case c2 => simp
 intro v1 u1 o1 g1
 have hb1 := ((Below.refl w16.heap.size w16).alloc (Nat.le_refl _) (.cells #[] 5)).grown g1 (by simp) (fun j hj => (HZ.out.lt j hj).1)
 have O1 := Hd (show u1.ownsRow w16.heap.size 5 1 v1 32 (bytesV B1) from by simpa [bytesV] using o1)
 have HX3 := Hd (HX2.out.below hb1)
 clear o1 g1 HX1 HX2
 go_wp2_with (at_builtin; refine wpList_append_bytes _ rfl _ _ rfl w16.heap.size v1 32 B1 rfl O1.out (some ⟨G17, 0, none⟩) 32 32 B2 rfl HX3.out ?d1 ?d2 ?_)
 case d1 => omega
 case d2 => exact hb1.size
 intro v2 u2 o2 g2
 have hb2 := hb1.grown g2 hb1.size (fun j hj => (O1.out.lt j hj).1)
 obtain ⟨G, cap, rfl, _⟩ := own_form o2 (by decide)
 have O2 := Hd (own_base o2 (show w.heap.size ≤ w16.heap.size from (hbel22).size))
 have hbw := (hbel22).trans (hb2.mono (hbel22).size)
 clear o2 g2
 go_wp2_with fail
 go_ret
 exact ⟨G, cap, rfl, O2.out, hbw⟩
theorem d_join (r s : Nat) (w : World) : Calls Tryz.prog 46 #[.agg (natsV .u64 (wds 4 r)).toArray, .agg (natsV .u64 (wds 4 s)).toArray] w (OwnL 64 (sigL r s) w) :=
 wjoin w (wds_len 4 r) (wds_len 4 s) (bytesOf_len r) (bytesOf_len s) (bytesOf_lt r) (bytesOf_lt s) (refBytes_any r) (refBytes_any s)
theorem zeros_256 (i : Nat) : ∀ x ∈ zeros i, x < 256 := fun x hx => by rw [List.eq_of_mem_replicate hx]; decide
theorem take_lt256 {l : List Nat} (h : ∀ x ∈ l, x < 256) (m : Nat) : ∀ x ∈ l.take m, x < 256 := fun x hx => h x (List.mem_of_mem_take hx)
theorem bin_take {w : World} {A : Option Addr} {n c m : Nat} {l : List Nat} (h : BIn w A n c l) (hm : m ≤ n) : BIn w A m c (l.take m) := by
 by_cases h0 : m = 0
 · subst h0
   exact ⟨⟨by simp, Nat.zero_le _, by simp, .inl rfl⟩, Nat.zero_le _, h.2.2.1, by have := h.2.2.2.1; omega, h.2.2.2.2⟩
 · obtain ⟨b, o, rfl, _⟩ := h.1.2.2.2.resolve_left (by omega)
   exact bin_pre h hm (by omega)
theorem dscal_le {lx ln ly : List Nat} {A : Option Addr} {n c m k : Nat} {l : List Nat} (w : World) (hlx : lx.length = 4) (hln : ln.length = 4) (hly : ly.length = 4)
   (hB : BIn w A n c l)
   (hm : m = n ∧ n ≤ 32)
   (hk : k + m = 32)
   (hof : ∀ A c W, BIn W A 32 c (zeros k ++ l.take m) → Calls Tryz.prog 23 #[.slice A 32 c] W fun e w' => e = .returned (.agg (natsV .u64 lx).toArray) ∧ Below W.heap.size W w')
   (c1 : Ans 17 #[] (.agg (natsV .u64 ln).toArray))
   (c2 : Ans 18 #[.agg (natsV .u64 lx).toArray, .bool false, .agg (natsV .u64 ln).toArray] (.agg (natsV .u64 ly).toArray)) :
   Calls Tryz.prog 12 #[.slice A n c] w fun e w' => e = .returned (.agg (natsV .u64 ly).toArray) ∧ Below w.heap.size w w' := by
 have L_lx := Hd hlx
 have L_ln := Hd hln
 have L_ly := Hd hly
 have Hc1 := Hd c1
 have Hc2 := Hd c2
 clear hlx hln hly c1 c2
 have LT := Hd (show (l.take m).length = m by rw [List.length_take, hB.1.1]; omega)
 have LB := Hd (show ∀ x ∈ zeros k ++ l.take m, x < 256 from fun x hx => by rcases List.mem_append.1 hx with h | h; exact zeros_256 k x h; exact take_lt256 hB.1.2.2.1 m x h)
 have HOF := Hd hof
 have hc := hB.2.1
 have hcm := hB.2.2.1
 clear hof
 unfold maxLen at hcm
 have HBI := Hd (bin_take hB (show m ≤ n by omega))
 clear hB
 obtain ⟨rfl, hn32⟩ := hm
 have i1 : ¬ ((32 : Int) < (m : Int)) := by omega
 have B0_ := Hd (Blk.new w  26 (natsV .u64 (zeros 4)))
 have bel_ := ((Below.refl w.heap.size w).alloc (Nat.le_refl _) (.cells (natsV .u64 (zeros 4)).toArray 26))
 go_enter Tryz.func12, Tryz.ntmps12
 go_wp2_with fail
 have hrw := bel_.size
 go_loopw [4, 5] (fun v4 v5 wr => ∃ i q : Nat, i ≤ k ∧ q = m + i ∧ v5 = .int .i64 (q : Nat) ∧ wr.ownsRow w.heap.size.succ 5 1 v4 i (bytesV (zeros i)) ∧ Blk wr w.heap.size 26 (natsV .u64 (zeros 4)) ∧ w.heap.size.succ ≤ wr.heap.size ∧ Below w.heap.size w wr) (fun _ v5 _ => 32 - (intOf v5).toNat)
 case atStart => exact ⟨0, _, by omega, rfl, rfl, ⟨rfl, .inl ⟨rfl, rfl⟩⟩, B0_.out, by simp, bel_⟩
 case round =>
   clear B0_ bel_ hrw
   obtain ⟨i, q, hi, hq, rfl, ho, k2, hsz, hbq⟩ := hrel
   have HO := Hd ho
   have K2 := Hd k2
   clear ho k2
   by_cases hik : i < k
   · as_aux_lemma =>
     have j1 : (q : Int) < 32 := by omega
     have j2 : IntKind.i64.wrap ((q : Int) + 1) = ((q + 1 : Nat) : Int) := by rw [IntWalk.i64_in _ (by omega)]; omega
     have j3 : (q : Int) + 1 = ((q + 1 : Nat) : Int) := by omega
     have HO1 := Hd (World.ownsRow.alloc HO.out (.cells #[.int .u8 (0 : Nat)] 5))
     have HN := Hd (bin_one wr 0 (by decide))
     have HBE1 := Hd (hbq.alloc hbq.size (.cells #[.int .u8 (0 : Nat)] 5))
     have K21 := Hd (K2.out.alloc (.cells #[.int .u8 (0 : Nat)] 5))
     go_wp2_with (at_builtin; refine wpList_append_bytes _ rfl _ _ rfl w.heap.size.succ _ i _ rfl HO1.out (some ⟨wr.heap.size, 0, none⟩) 1 1 [0] rfl HN.out ?d1 ?d2 ?_)
     case d1 => omega
     case d2 => simp; omega
     intro v3 w3 h1 h2
     have hb3 := HBE1.out.grown h2 (by simp; omega) (fun j hj => by have := (HO1.out.lt j hj).1; omega)
     have k3 := K21.out.grown h2 (fun e => by have := (HO1.out.lt _ e.symm).1; omega)
     have ho3 : w3.ownsRow w.heap.size.succ 5 1 v3 (i + 1) (bytesV (zeros (i + 1))) := by
       have e : zeros (i + 1) = zeros i ++ [0] := by simp [zeros, List.replicate_succ']
       rw [e]; simpa using h1
     have hs3 : w.heap.size.succ ≤ w3.heap.size := Nat.le_trans (by simp; omega) h2.size
     go_wp2_with fail
     go_roundw
     case rel => exact ⟨i + 1, q + 1, by omega, by omega, by first | rfl | go_num, ho3, k3, hs3, hb3⟩
     case measure => simp [intOf] <;> omega
   · as_aux_lemma =>
     obtain rfl : i = k := by omega
     obtain rfl : q = 32 := by omega
     clear hq
     rw [show ((32 : Nat) : Int) = 32 from rfl]
     have HBX := Hd (HBI.out.below hbq)
     go_wp2_with (at_builtin; refine wpList_append_bytes _ rfl _ _ rfl w.heap.size.succ _ i _ rfl HO.out A m c (l.take m) rfl HBX.out ?e1 ?e2 ?_)
     case e1 => omega
     case e2 => exact hsz
     intro v5 w5 g1 g2
     have g3 : w5.ownsRow w.heap.size.succ 5 1 v5 32 (bytesV (zeros i ++ l.take m)) := by
       first | exact g1 | (rw [show m + i = 32 by omega] at g1; exact g1) | (rw [show i + m = 32 by omega] at g1; exact g1)
     have k5 := K2.out.grown g2 (fun e => by have := (HO.out.lt _ e.symm).1; omega)
     have hb5 := hbq.grown g2 hbq.size (fun j hj => by have := (HO.out.lt j hj).1; omega)
     obtain ⟨aL, cL, rfl, HI0, _⟩ := own_in g3 LB.out (by omega)
     have HI := Hd HI0
     have K5 := Hd k5
     clear k5 HI0 g1 g2 g3 HO K2 hsz hbq HBX
     go_wp2_with fail
     refine (HOF.out _ _ _ HI.out).mono ?_
     rintro e w1 ⟨rfl, hbw1⟩
     have C2 := Hd (K5.out.gr hbw1)
     have hbel3 := hb5.trans (Below.mono hbw1 hb5.size)
     clear K5 hb5 hbw1
     go_wp2_with fail
     refine (Hc1.out _).mono ?_
     rintro e w4 ⟨rfl, hbw4⟩
     have C5 := gq' C2 hbw4
     have hbel6 := hbel3.trans (Below.mono hbw4 hbel3.size)
     clear C2 hbel3 hbw4
     go_wp2_with fail
     refine (Hc2.out _).mono ?_
     rintro e w7 ⟨rfl, hbw7⟩
     have C8 := gq' C5 hbw7
     have hbel9 := hbel6.trans (Below.mono hbw7 hbel6.size)
     clear C5 hbel6 hbw7
     go_wp2_with (first | (refine stB rfl 26 (.tmp 2) (.tmp 27) rfl w.heap.size rfl (natsV .u64 ly) rfl 26 (natsV .u64 (zeros 4)) C8.out (i24 L_ly.out) (lz4 L_ly.out) n1' ?_))
     refine bodyPost_ret (v := .agg (natsV .u64 ly).toArray) ?_ rfl ⟨rfl, below_setRow' hbel9 (by first | exact Nat.le_refl _ | omega) _⟩
     exact results_cell_row Tryz.results12 _ _ w.heap.size 26 _ (0, 0) _ rfl (C8.out.setRow _) Tryz.underlying26 rfl (by simpa using (i24 L_ly.out))
theorem dscal_gt {lx ln ly : List Nat} {A : Option Addr} {n c m k : Nat} {l : List Nat} (w : World) (hlx : lx.length = 4) (hln : ln.length = 4) (hly : ly.length = 4)
   (hB : BIn w A n c l)
   (hm : m = 32 ∧ 32 < n)
   (hk : k + m = 32)
   (hof : ∀ A c W, BIn W A 32 c (zeros k ++ l.take m) → Calls Tryz.prog 23 #[.slice A 32 c] W fun e w' => e = .returned (.agg (natsV .u64 lx).toArray) ∧ Below W.heap.size W w')
   (c1 : Ans 17 #[] (.agg (natsV .u64 ln).toArray))
   (c2 : Ans 18 #[.agg (natsV .u64 lx).toArray, .bool false, .agg (natsV .u64 ln).toArray] (.agg (natsV .u64 ly).toArray)) :
   Calls Tryz.prog 12 #[.slice A n c] w fun e w' => e = .returned (.agg (natsV .u64 ly).toArray) ∧ Below w.heap.size w w' := by
 have L_lx := Hd hlx
 have L_ln := Hd hln
 have L_ly := Hd hly
 have Hc1 := Hd c1
 have Hc2 := Hd c2
 clear hlx hln hly c1 c2
 have LT := Hd (show (l.take m).length = m by rw [List.length_take, hB.1.1]; omega)
 have LB := Hd (show ∀ x ∈ zeros k ++ l.take m, x < 256 from fun x hx => by rcases List.mem_append.1 hx with h | h; exact zeros_256 k x h; exact take_lt256 hB.1.2.2.1 m x h)
 have HOF := Hd hof
 have hc := hB.2.1
 have hcm := hB.2.2.1
 clear hof
 unfold maxLen at hcm
 have HBI := Hd (bin_take hB (show m ≤ n by omega))
 clear hB
 obtain ⟨rfl, hn32⟩ := hm
 have i1 : (32 : Int) < (n : Int) := by omega
 obtain rfl : k = 0 := by omega
 have i3 : (32 : Int) ≤ (c : Int) := by omega
 have B0_ := Hd (Blk.new w  26 (natsV .u64 (zeros 4)))
 have bel_ := ((Below.refl w.heap.size w).alloc (Nat.le_refl _) (.cells (natsV .u64 (zeros 4)).toArray 26))
 go_enter Tryz.func12, Tryz.ntmps12
 go_wp2_with fail
 have hrw := bel_.size
 go_loopw [4, 5] (fun v4 v5 wr => ∃ i q : Nat, i ≤ 0 ∧ q = 32 + i ∧ v5 = .int .i64 (q : Nat) ∧ wr.ownsRow w.heap.size.succ 5 1 v4 i (bytesV (zeros i)) ∧ Blk wr w.heap.size 26 (natsV .u64 (zeros 4)) ∧ w.heap.size.succ ≤ wr.heap.size ∧ Below w.heap.size w wr) (fun _ v5 _ => 32 - (intOf v5).toNat)
 case atStart => exact ⟨0, _, by omega, rfl, rfl, ⟨rfl, .inl ⟨rfl, rfl⟩⟩, B0_.out, by simp, bel_⟩
 case round =>
   clear B0_ bel_ hrw
   obtain ⟨i, q, hi, hq, rfl, ho, k2, hsz, hbq⟩ := hrel
   have HO := Hd ho
   have K2 := Hd k2
   clear ho k2
   obtain rfl : i = 0 := by omega
   obtain rfl : q = 32 := by omega
   clear hq hi hk
   rw [show ((32 : Nat) : Int) = 32 from rfl]
   have HBX := Hd (HBI.out.below hbq)
   go_wp2_with (at_builtin; refine wpList_append_bytes _ rfl _ _ rfl w.heap.size.succ _ 0 _ rfl HO.out A 32 c (l.take 32) rfl HBX.out ?e1 ?e2 ?_)
   case e1 => omega
   case e2 => exact hsz
   intro v5 w5 g1 g2
   have g3 : w5.ownsRow w.heap.size.succ 5 1 v5 32 (bytesV (zeros 0 ++ l.take 32)) := by
     first | exact g1 | (simpa [bytesV] using g1)
   have k5 := K2.out.grown g2 (fun e => by have := (HO.out.lt _ e.symm).1; omega)
   have hb5 := hbq.grown g2 hbq.size (fun j hj => by have := (HO.out.lt j hj).1; omega)
   obtain ⟨aL, cL, rfl, HI0, _⟩ := own_in g3 LB.out (by omega)
   have HI := Hd HI0
   have K5 := Hd k5
   clear k5 HI0 g1 g2 g3 HO K2 hsz hbq HBX
   go_wp2_with fail
   refine (HOF.out _ _ _ HI.out).mono ?_
   rintro e w1 ⟨rfl, hbw1⟩
   have C2 := Hd (K5.out.gr hbw1)
   have hbel3 := hb5.trans (Below.mono hbw1 hb5.size)
   clear K5 hb5 hbw1
   go_wp2_with fail
   refine (Hc1.out _).mono ?_
   rintro e w4 ⟨rfl, hbw4⟩
   have C5 := gq' C2 hbw4
   have hbel6 := hbel3.trans (Below.mono hbw4 hbel3.size)
   clear C2 hbel3 hbw4
   go_wp2_with fail
   refine (Hc2.out _).mono ?_
   rintro e w7 ⟨rfl, hbw7⟩
   have C8 := gq' C5 hbw7
   have hbel9 := hbel6.trans (Below.mono hbw7 hbel6.size)
   clear C5 hbel6 hbw7
   go_wp2_with (first | (refine stB rfl 26 (.tmp 2) (.tmp 27) rfl w.heap.size rfl (natsV .u64 ly) rfl 26 (natsV .u64 (zeros 4)) C8.out (i24 L_ly.out) (lz4 L_ly.out) n1' ?_))
   refine bodyPost_ret (v := .agg (natsV .u64 ly).toArray) ?_ rfl ⟨rfl, below_setRow' hbel9 (by first | exact Nat.le_refl _ | omega) _⟩
   exact results_cell_row Tryz.results12 _ _ w.heap.size 26 _ (0, 0) _ rfl (C8.out.setRow _) Tryz.underlying26 rfl (by simpa using (i24 L_ly.out))
theorem info122 : (Tryz.prog.info? 93).map (·.size) = some 16 := by kernel_rfl
section
variable {w : World} {ops : Array Oper} {rest : List Oper} {o : Oper} {a : Act} {Q : Exit → Act → World → Prop}
theorem ld122 (hgd : o.guard = none) (x : Operand) (ho : o.op = .load 93 x) (g : Nat) (hx : a.eval x = .pointer (some ⟨g, 0, none⟩)) (l : List Nat) (hg : Blk w g 93 (natsV .u64 l)) (hl : l.length = 16)
   (h : wpList Tryz.prog ops Q rest (a.put o.dst (.agg (natsV .u64 l).toArray)) w) : wpList Tryz.prog ops Q (o :: rest) a w :=
 wpList_load_row hgd 93 x ho g hx 93 (natsV .u64 l).toArray (0, 0) _ hg Tryz.underlying93 rfl (by rw [info122, size_nats, hl]) h
theorem st122 (hgd : o.guard = none) (x y : Operand) (ho : o.op = .store 93 x y) (g : Nat) (hx : a.eval x = .pointer (some ⟨g, 0, none⟩)) (l : List Nat) (hy : a.eval y = .agg (natsV .u64 l).toArray) (hl : l.length = 16) (old : List Nat) (hg : Blk w g 93 (natsV .u64 old)) (ho4 : old.length = 16)
   (h : wpList Tryz.prog ops Q rest (a.put o.dst undef) (w.setRow g (natsV .u64 l).toArray)) : wpList Tryz.prog ops Q (o :: rest) a w :=
 wpList_store_row hgd 93 x y ho g (natsV .u64 l).toArray hx hy 93 (natsV .u64 old).toArray hg (by rw [info122, size_nats, hl]) (by rw [size_nats, size_nats, hl, ho4]) (all_nats _ _) h
end
theorem ret122 {fn : Func} {p : Tmp} (h : fn.results = #[.cell p 93]) (tmps : Array Value) (w : World) (g : Nat) (l : List Nat) (hp : tmps.getD p undef = .pointer (some ⟨g, 0, none⟩)) (hg : Blk w g 93 (natsV .u64 l)) (hl : l.length = 16) :
   (results fn tmps).run Tryz.prog w = .ok (.agg (natsV .u64 l).toArray) w :=
 results_cell_row h tmps w g 93 _ (0, 0) _ hp hg Tryz.underlying93 rfl (by rw [info122, size_nats, hl])
theorem ret26 {fn : Func} {p : Tmp} (h : fn.results = #[.cell p 122]) (tmps : Array Value) (w : World) (g : Nat) (l : List Nat) (hp : tmps.getD p undef = .pointer (some ⟨g, 0, none⟩)) (hg : Blk w g 122 (natsV .u64 l)) (hl : l.length = 8) :
   (results fn tmps).run Tryz.prog w = .ok (.agg (natsV .u64 l).toArray) w :=
 results_cell_row h tmps w g 122 _ (0, 0) _ hp hg Tryz.underlying122 rfl (by rw [info26, size_nats, hl])
def hds (n v : Nat) : List Nat := tell (dgt (2 ^ 32) v) n
theorem hds_len (n v : Nat) : (hds n v).length = n := tell_length _ _
theorem hds_at (n v i : Nat) (h : i < n) : (hds n v).getD i 0 = dgt (2 ^ 32) v i := tell_getD _ _ _ h
theorem r_lo (x p : Nat) (h : p = x % 4294967296) : (x : Int) % 4294967296 = (p : Int) := by omega
theorem r_hi (x p : Nat) (h : p = x / 4294967296) : (x : Int) / 4294967296 = (p : Int) := by omega
theorem digits_any5 (X : Nat) (w : World) : Calls Tryz.prog 101 #[.agg (natsV .u64 (wds 4 X)).toArray] w fun e w' => e = .returned (.agg (natsV .u64 (hds 8 X)).toArray) ∧ Below w.heap.size w w' := by
 have LX := Hd (wds_len 4 X)
 have AX := Hd (wds_at 4 X)
 have LH := Hd (hds_len 8 X)
 have HE := Hd (show tell (dgt (2 ^ 32) X) (2 * 4) ++ zeros (8 - 2 * 4) = hds 8 X by simp [zeros, hds])
 generalize hds 8 X = lh at *
 generalize wds 4 X = lx at *
 have B1 := Hd (((Blk.new w 26 (natsV .u64 lx)).alloc (.cells (natsV .u64 (zeros 8)).toArray 122)).alloc (.cells (natsV .u64 (zeros 8)).toArray 122))
 have B2 := Hd ((Blk.new2 w (.cells (natsV .u64 lx).toArray 26) 122 (natsV .u64 (zeros 8))).alloc (.cells (natsV .u64 (zeros 8)).toArray 122))
 have B3 := Hd (Blk.new3 w (.cells (natsV .u64 lx).toArray 26) (.cells (natsV .u64 (zeros 8)).toArray 122) 122 (natsV .u64 (zeros 8)))
 have BEL := Hd ((((Below.refl w.heap.size w).alloc (Nat.le_refl _) (.cells (natsV .u64 lx).toArray 26)).alloc (by simp) (.cells (natsV .u64 (zeros 8)).toArray 122)).alloc (by simp; omega) (.cells (natsV .u64 (zeros 8)).toArray 122))
 go_enter Tryz.func101, Tryz.ntmps101
 go_wp2_with fail
 go_loopw [4] (fun i wr => ∃ t : Nat, t ≤ 4 ∧ i = .int .i64 t ∧ Blk wr w.heap.size 26 (natsV .u64 lx) ∧ Blk wr (w.heap.size + 1) 122 (natsV .u64 (zeros 8)) ∧ Blk wr (w.heap.size + 1 + 1) 122 (natsV .u64 (tell (dgt (2 ^ 32) X) (2 * t) ++ zeros (8 - 2 * t))) ∧ Below w.heap.size w wr) (fun i _ => 4 - (intOf i).toNat)
 case atStart => exact ⟨0, by omega, rfl, B1.out, B2.out, B3.out, BEL.out⟩
 case round =>
   clear B1 B2 B3 BEL
   obtain ⟨t, ht, rfl, k1, k2, k3, hbel⟩ := hrel
   have K1 := Hd k1
   have K2 := Hd k2
   have K3 := Hd k3
   clear k1 k2 k3
   by_cases hs : t < 4
   · as_aux_lemma =>
     have hti : (t : Int) < 4 := by omega
     have xt := AX.out t hs
     have c0 := K1.out.nat t (by rw [LX.out]; exact hs)
     rw [xt] at c0
     have hlo := half_lo X t
     have hhi := half_hi X t
     have hset : ((tell (dgt (2 ^ 32) X) (2 * t) ++ zeros (8 - 2 * t)).set (2 * t) (dgt (2 ^ 32) X (2 * t))).set (2 * t + 1) (dgt (2 ^ 32) X (2 * t + 1)) = tell (dgt (2 ^ 32) X) (2 * (t + 1)) ++ zeros (8 - 2 * (t + 1)) := by
       rw [fill_tell _ 8 (2 * t) (by omega), fill_tell _ 8 (2 * t + 1) (by omega)]
       rfl
     have hlen : (tell (dgt (2 ^ 32) X) (2 * t) ++ zeros (8 - 2 * t)).length = 8 := by simp [tell_length, zeros]; omega
     have e1 := r_lo (dgt (2 ^ 64) X t) _ hlo.symm
     have e2 := r_hi (dgt (2 ^ 64) X t) _ hhi.symm
     have e3 := u64_in (dgt (2 ^ 32) X (2 * t + 1)) (Nat.lt_trans (dgt_lt (B := 2 ^ 32) (by decide) X (2 * t + 1)) (by decide))
     have HSET := Hd hset
     have LXo := LX.out
     clear hset hlo hhi AX
     generalize dgt (2 ^ 32) X (2 * t + 1) = hi at *
     generalize dgt (2 ^ 32) X (2 * t) = lo at *
     generalize dgt (2 ^ 64) X t = x at *
     obtain ⟨p, hp⟩ : ∃ p, p = 2 * t := ⟨_, rfl⟩
     rw [← hp] at HSET K3 hlen
     obtain ⟨q, hq⟩ : ∃ q, q = p + 1 := ⟨_, rfl⟩
     rw [← hq] at HSET
     generalize tell (dgt (2 ^ 32) X) p ++ zeros (8 - p) = lc at *
     have i1 : 2 * (t : Int) = (p : Int) := by omega
     have i2 : (p : Int) + 1 = (q : Int) := by omega
     have hp0 : (p : Int) < 8 := by omega
     have hq0 : (q : Int) < 8 := by omega
     have hpi : (p : Nat) < 8 := by omega
     have hqi : (q : Nat) < 8 := by omega
     have d0 := K3.out.nat p (by rw [hlen]; exact hpi)
     have f0 := K3.out.free p
     have k3 := Hd (K3.out.natSet p lo)
     have d1 := k3.out.nat q (by rw [List.length_set, hlen]; exact hqi)
     have f1 := k3.out.free q
     have m3 := Hd (k3.out.natSet q hi)
     rw [HSET.out] at m3
     have k1 := Hd (K1.out.other ⟨w.heap.size + 1 + 1, p, none⟩ (.int .u64 (lo : Nat)) (by simp; omega))
     have c1 := k1.out.nat t (by rw [LXo]; exact hs)
     rw [xt] at c1
     have k2 := Hd (K2.out.other ⟨w.heap.size + 1 + 1, p, none⟩ (.int .u64 (lo : Nat)) (by simp))
     have m1 := Hd (k1.out.other ⟨w.heap.size + 1 + 1, q, none⟩ (.int .u64 (hi : Nat)) (by simp; omega))
     have m2 := Hd (k2.out.other ⟨w.heap.size + 1 + 1, q, none⟩ (.int .u64 (hi : Nat)) (by simp))
     have hb1 := hbel.setCell (p := ⟨w.heap.size + 1 + 1, p, none⟩) (by simp; omega) (.int .u64 (lo : Nat))
     have hb2 := hb1.setCell (p := ⟨w.heap.size + 1 + 1, q, none⟩) (by simp; omega) (.int .u64 (hi : Nat))
     clear hp hq HSET LXo
     go_wp2_with fail
     go_roundw
     case rel => exact ⟨t + 1, by omega, by go_num, m1.out, m2.out, m3.out, hb2⟩
     case measure => simp [intOf] <;> omega
   · obtain rfl : t = 4 := by omega
     rw [show ((4 : Nat) : Int) = 4 from rfl]
     rw [HE.out] at K3
     have j2 := K2.out.setRow (natsV .u64 lh)
     have hb2 := below_setRow' hbel (show w.heap.size ≤ w.heap.size + 1 by omega) (natsV .u64 lh).toArray
     go_wp2_with (first | (refine ld26 rfl (.tmp 3) rfl (w.heap.size + 1 + 1) rfl lh K3.out LH.out ?_) | (refine st26 rfl (.tmp 2) (.tmp 24) rfl (w.heap.size + 1) rfl lh rfl LH.out (zeros 8) K2.out rfl ?_))
     refine bodyPost_ret (v := .agg (natsV .u64 lh).toArray) ?_ rfl ⟨rfl, hb2⟩
     exact ret26 Tryz.results101 _ _ (w.heap.size + 1) lh rfl j2 LH.out
theorem hdg_div (V f i : Nat) : dgt (2 ^ 32) (V / (2 ^ 32) ^ f) i = dgt (2 ^ 32) V (f + i) := by
 unfold dgt; rw [Nat.div_div_eq_div_mul, Nat.pow_add]
theorem number_any5 (V f : Nat) (w : World) (hf : f ≤ 8) : Calls Tryz.prog 72 #[.agg (natsV .u64 (hds 16 V)).toArray, .int .i64 (f : Nat)] w fun e w' => e = .returned (.agg (natsV .u64 (wds 4 (V / (2 ^ 32) ^ f))).toArray) ∧ Below w.heap.size w w' := by
 have LV := Hd (hds_len 16 V)
 have AV := Hd (hds_at 16 V)
 have HD := Hd (fun i => hdg_div V f i)
 have LW := Hd (wds_len 4 (V / (2 ^ 32) ^ f))
 have HLV := Hd (show tell (dgt (2 ^ 64) (V / (2 ^ 32) ^ f)) 4 ++ zeros (4 - 4) = wds 4 (V / (2 ^ 32) ^ f) by simp [zeros, wds])
 generalize wds 4 (V / (2 ^ 32) ^ f) = lv at *
 generalize V / (2 ^ 32) ^ f = U at *
 generalize hds 16 V = lV at *
 have B1 := Hd (((Blk.new w 93 (natsV .u64 lV)).alloc (.cells (natsV .u64 (zeros 4)).toArray 26)).alloc (.cells (natsV .u64 (zeros 4)).toArray 26))
 have B2 := Hd ((Blk.new2 w (.cells (natsV .u64 lV).toArray 93) 26 (natsV .u64 (zeros 4))).alloc (.cells (natsV .u64 (zeros 4)).toArray 26))
 have B3 := Hd (Blk.new3 w (.cells (natsV .u64 lV).toArray 93) (.cells (natsV .u64 (zeros 4)).toArray 26) 26 (natsV .u64 (zeros 4)))
 have BEL := Hd ((((Below.refl w.heap.size w).alloc (Nat.le_refl _) (.cells (natsV .u64 lV).toArray 93)).alloc (by simp) (.cells (natsV .u64 (zeros 4)).toArray 26)).alloc (by simp; omega) (.cells (natsV .u64 (zeros 4)).toArray 26))
 go_enter Tryz.func72, Tryz.ntmps72
 go_wp2_with fail
 go_loopw [6] (fun i wr => ∃ t : Nat, t ≤ 4 ∧ i = .int .i64 t ∧ Blk wr w.heap.size 93 (natsV .u64 lV) ∧ Blk wr (w.heap.size + 1) 26 (natsV .u64 (zeros 4)) ∧ Blk wr (w.heap.size + 1 + 1) 26 (natsV .u64 (tell (dgt (2 ^ 64) U) t ++ zeros (4 - t))) ∧ Below w.heap.size w wr) (fun i _ => 4 - (intOf i).toNat)
 case atStart => exact ⟨0, by omega, rfl, B1.out, B2.out, B3.out, BEL.out⟩
 case round =>
   clear B1 B2 B3 BEL
   obtain ⟨t, ht, rfl, k1, k2, k3, hbel⟩ := hrel
   have K1 := Hd k1
   have K2 := Hd k2
   have K3 := Hd k3
   clear k1 k2 k3
   by_cases hs : t < 4
   · as_aux_lemma =>
     have hti : (t : Int) < 4 := by omega
     have c0 := K1.out.nat (f + 2 * t) (by rw [LV.out]; omega)
     have c1 := K1.out.nat (f + (2 * t + 1)) (by rw [LV.out]; omega)
     rw [AV.out _ (by omega), ← HD.out] at c0 c1
     have h0 := dgt_lt (B := 2 ^ 32) (by decide) U (2 * t)
     have h1 := dgt_lt (B := 2 ^ 32) (by decide) U (2 * t + 1)
     have hof := half_of U t
     have hset := fill_tell (dgt (2 ^ 64) U) 4 t hs
     have hlen : (tell (dgt (2 ^ 64) U) t ++ zeros (4 - t)).length = 4 := by simp [tell_length, zeros]; omega
     have HSET := Hd hset
     clear hset HD AV HLV
     generalize dgt (2 ^ 32) U (2 * t) = lo at *
     generalize dgt (2 ^ 32) U (2 * t + 1) = hi at *
     generalize dgt (2 ^ 64) U t = x at *
     generalize tell (dgt (2 ^ 64) U) t ++ zeros (4 - t) = lc at *
     obtain ⟨r, hr⟩ : ∃ r, r = 2 * t := ⟨_, rfl⟩
     obtain ⟨p, hp⟩ : ∃ p, p = f + 2 * t := ⟨_, rfl⟩
     obtain ⟨q, hq⟩ : ∃ q, q = f + (2 * t + 1) := ⟨_, rfl⟩
     rw [← hp] at c0
     rw [← hq] at c1
     have i0 : 2 * (t : Int) = (r : Int) := by omega
     have i1 : (f : Int) + (r : Int) = (p : Int) := by omega
     have i2 : (p : Int) + 1 = (q : Int) := by omega
     have hp8 : (p : Int) < 16 := by omega
     have hq8 : (q : Int) < 16 := by omega
     obtain ⟨tw, htw⟩ : ∃ t, t = 4294967296 * hi := ⟨_, rfl⟩
     have etw : IntKind.u64.wrap ((hi : Int) * 4294967296) = (tw : Int) := by rw [IntKind.wrap_u64]; omega
     have eor : IntKind.u64.wrap ((lo : Int) + (tw : Int)) = (x : Int) := by rw [IntKind.wrap_u64]; omega
     have d0 := K3.out.nat t (by rw [hlen]; exact hs)
     have f0 := K3.out.free t
     have n3 := Hd (K3.out.natSet t x)
     rw [HSET.out] at n3
     have n1 := Hd (K1.out.other ⟨w.heap.size + 1 + 1, t, none⟩ (.int .u64 (x : Nat)) (by simp; omega))
     have n2 := Hd (K2.out.other ⟨w.heap.size + 1 + 1, t, none⟩ (.int .u64 (x : Nat)) (by simp))
     have hb2 := hbel.setCell (p := ⟨w.heap.size + 1 + 1, t, none⟩) (by simp; omega) (.int .u64 (x : Nat))
     clear hp hq hr htw HSET
     go_wp2_with fail
     go_region
     go_wp2_with fail
     go_roundw
     case rel => exact ⟨t + 1, by omega, by go_num, n1.out, n2.out, n3.out, hb2.drew⟩
     case measure => simp [intOf] <;> omega
   · obtain rfl : t = 4 := by omega
     rw [show ((4 : Nat) : Int) = 4 from rfl]
     rw [HLV.out] at K3
     have j2 := K2.out.setRow (natsV .u64 lv)
     have hb2 := below_setRow' hbel (show w.heap.size ≤ w.heap.size + 1 by omega) (natsV .u64 lv).toArray
     go_wp2_with (first | (refine ld24 rfl (.tmp 5) rfl (w.heap.size + 1 + 1) rfl lv K3.out LW.out ?_) | (refine st24 rfl (.tmp 4) (.tmp 28) rfl (w.heap.size + 1) rfl lv rfl LW.out (zeros 4) K2.out rfl ?_))
     refine bodyPost_ret (v := .agg (natsV .u64 lv).toArray) ?_ rfl ⟨rfl, hb2⟩
     exact ret24 Tryz.results72 _ _ (w.heap.size + 1) lv rfl j2 LW.out
def CarAt (T k cy : Nat) (l : List Nat) : Prop := l.length = 16 ∧ (∀ y ∈ l, y < 2 ^ 32) ∧ cy < 2 ^ 32 ∧ val (2 ^ 32) l + (2 ^ 32) ^ k * cy = T
theorem CarAt.next {T k cy : Nat} {l : List Nat} (h : CarAt T k cy l) (hk : k < 16) (s : Nat) (hs : s = l.getD k 0 + cy) :
   s < 8589934592 ∧ CarAt T (k + 1) (s / 4294967296) (l.set k (s % 4294967296)) := by
 obtain ⟨h1, h2, h3, h4⟩ := h
 have hp := getD_lt' h2 (by decide) k
 refine ⟨by omega, by rw [List.length_set]; exact h1, set_lt h2 (Nat.mod_lt _ (by decide)), by omega, ?_⟩
 have hset := val_set (2 ^ 32) l k (s % 4294967296) (by rw [h1]; exact hk)
 have hmd := Nat.mod_add_div s 4294967296
 have e1 : (2 ^ 32) ^ (k + 1) * (s / 4294967296) = (2 ^ 32) ^ k * (4294967296 * (s / 4294967296)) := by
   have ep : (2 ^ 32) ^ (k + 1) = (2 ^ 32) ^ k * 4294967296 := Nat.pow_succ _ _
   rw [ep, Nat.mul_assoc]
 have h5 : (2 ^ 32) ^ k * (s % 4294967296 + 4294967296 * (s / 4294967296)) = (2 ^ 32) ^ k * (l.getD k 0 + cy) := by rw [hmd, hs]
 rw [Nat.mul_add, Nat.mul_add] at h5
 rw [e1]
 omega
theorem CarAt.done {T k cy : Nat} {l : List Nat} (h : CarAt T k cy l) (hT : T < (2 ^ 32) ^ 16) (hk : k = 16 ∨ cy = 0) : l.length = 16 ∧ (∀ y ∈ l, y < 2 ^ 32) ∧ val (2 ^ 32) l = T := by
 obtain ⟨h1, h2, h3, h4⟩ := h
 refine ⟨h1, h2, ?_⟩
 rcases hk with rfl | rfl
 · rcases Nat.eq_zero_or_pos cy with h0 | h0
   · rw [h0, Nat.mul_zero, Nat.add_zero] at h4; exact h4
   · exfalso
     have := Nat.le_mul_of_pos_right ((2 ^ 32) ^ 16) h0
     omega
 · rw [Nat.mul_zero, Nat.add_zero] at h4; exact h4
def PrAt (a b c i : Nat) (l : List Nat) : Prop := l.length = 16 ∧ (∀ y ∈ l, y < 2 ^ 32) ∧ val (2 ^ 32) l = c + (a % (2 ^ 32) ^ i) * b
theorem PrAt.start (a b c : Nat) (hc : c < 2 ^ 256) : PrAt a b c 0 (tell (dgt (2 ^ 32) c) 8 ++ zeros (16 - 8)) := by
 refine ⟨by simp [tell_length, zeros], fun y hy => ?_, ?_⟩
 · rcases List.mem_append.1 hy with h | h
   · exact tell_lt _ _ (fun i => dgt_lt (by decide) c i) 8 y h
   · rw [List.eq_of_mem_replicate h]; decide
 · rw [val_append, val_tell, val_zeros, Nat.mod_eq_of_lt (show c < (2 ^ 32) ^ 8 by rw [← Nat.pow_mul]; exact hc)]
   simp [Nat.mod_one]
theorem PrAt.rowStart {a b c i : Nat} {l : List Nat} (h : PrAt a b c i l) (d : Nat) : RowAt b d i (c + (a % (2 ^ 32) ^ i) * b) 0 0 l :=
 ⟨h.1, h.2.1, by decide, by rw [h.2.2]; simp [Nat.mod_one]⟩
theorem RowAt.carry {a b c i cy : Nat} {l : List Nat} (hb : b < 2 ^ 256) (h : RowAt b (dgt (2 ^ 32) a i) i (c + (a % (2 ^ 32) ^ i) * b) 8 cy l) : CarAt (c + (a % (2 ^ 32) ^ (i + 1)) * b) (i + 8) cy l := by
 obtain ⟨h1, h2, h3, h4⟩ := h
 refine ⟨h1, h2, h3, ?_⟩
 rw [h4, Nat.mod_eq_of_lt (show b < (2 ^ 32) ^ 8 by rw [← Nat.pow_mul]; exact hb), mod_pow_succ, Nat.add_mul, Nat.add_assoc]
 congr 2
 rw [Nat.mul_assoc]
theorem PrAt.lt {a b c i : Nat} (ha : a < 2 ^ 256) (hb : b < 2 ^ 256) (hc : c < 2 ^ 256) : c + (a % (2 ^ 32) ^ i) * b < (2 ^ 32) ^ 16 := by
 have h1 : a % (2 ^ 32) ^ i ≤ 2 ^ 256 - 1 := by have := Nat.mod_le a ((2 ^ 32) ^ i); omega
 have h2 := Nat.mul_le_mul h1 (show b ≤ 2 ^ 256 - 1 by omega)
 have h3 : (2 ^ 256 - 1) * (2 ^ 256 - 1) + (2 ^ 256 - 1) < (2 ^ 32) ^ 16 := by decide +kernel
 omega
theorem CarAt.pr {a b c i k cy : Nat} {l : List Nat} (ha : a < 2 ^ 256) (hb : b < 2 ^ 256) (hc : c < 2 ^ 256) (h : CarAt (c + (a % (2 ^ 32) ^ (i + 1)) * b) k cy l) (hk : k = 16 ∨ cy = 0) : PrAt a b c (i + 1) l :=
 h.done (PrAt.lt ha hb hc) hk
theorem PrAt.done {a b c : Nat} {l : List Nat} (h : PrAt a b c 8 l) (ha : a < 2 ^ 256) : l = hds 16 (a * b + c) := by
 obtain ⟨h1, h2, h3⟩ := h
 rw [Nat.mod_eq_of_lt (show a < (2 ^ 32) ^ 8 by rw [← Nat.pow_mul]; exact ha)] at h3
 have := tell_val (B := 2 ^ 32) (by decide) l h2
 rw [h1, h3, Nat.add_comm] at this
 exact this.symm
end Go.Proofs.YtdkkombpkojjaaaGreat
