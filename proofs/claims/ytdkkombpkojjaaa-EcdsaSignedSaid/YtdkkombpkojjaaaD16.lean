/- Parts of proofs of statements, each text behind those that it stands on. No condition of its own. -/
import Derived.Test.YtdkkombpkojjaaaD11
namespace Go.Proofs.Ytdkkombpkojjaaa
set_option maxRecDepth 100000
set_option maxHeartbeats 1600000
open Go.RowKit
set_option linter.unusedVariables false
set_option linter.unusedSimpArgs false
theorem Less_any (a b : Nat) (w : World) (ha : a < 2 ^ 256) (hb : b < 2 ^ 256) : Calls Try.prog 17 #[.agg (natsV .u64 (wds 4 a)).toArray, .agg (natsV .u64 (wds 4 b)).toArray] w fun e w' => e = .returned (.bool (decide (a < b))) ∧ Below w.heap.size w w' := by
 have LA := Hd (wds_len 4 a)
 have LB := Hd (wds_len 4 b)
 have AA := Hd (wds_at 4 a)
 have AB := Hd (wds_at 4 b)
 have H4 := Hd (show a / (2 ^ 64) ^ 4 = b / (2 ^ 64) ^ 4 by rw [pow256, Nat.div_eq_of_lt ha, Nat.div_eq_of_lt hb])
 obtain ⟨cz, hcz⟩ : ∃ cz, cz = decide (a < b) := ⟨_, rfl⟩
 rw [← hcz]
 have HCZ := Hd hcz
 clear hcz
 generalize wds 4 a = la at *
 generalize wds 4 b = lb at *
 have B1 := Hd ((Blk.new w 24 (natsV .u64 la)).alloc (.cells (natsV .u64 lb).toArray 24))
 have B2 := Hd (Blk.new2 w (.cells (natsV .u64 la).toArray 24) 24 (natsV .u64 lb))
 have BEL := Hd (((Below.refl w.heap.size w).alloc (Nat.le_refl _) (.cells (natsV .u64 la).toArray 24)).alloc (by simp) (.cells (natsV .u64 lb).toArray 24))
 go_enter Try.func17, Try.ntmps17
 go_wp2_with fail
 go_loopw [5] (fun i wr => ∃ s : Nat, s ≤ 4 ∧ i = .int .i64 ((s : Int) - 1) ∧ a / (2 ^ 64) ^ s = b / (2 ^ 64) ^ s ∧ Blk wr w.heap.size 24 (natsV .u64 la) ∧ Blk wr (w.heap.size + 1) 24 (natsV .u64 lb) ∧ Below w.heap.size w wr) (fun i _ => (intOf i + 1).toNat)
 case atStart => exact ⟨4, by omega, rfl, H4.out, B1.out, B2.out, BEL.out⟩
 case round =>
   clear B1 B2 BEL H4
   obtain ⟨s, hs, rfl, he, k1, k2, hbel⟩ := hrel
   have K1 := Hd k1
   have K2 := Hd k2
   clear k1 k2
   rcases s with _ | s
   · rw [show ((0 : Nat) : Int) - 1 = -1 from rfl]
     have hab : a = b := by simpa using he
     have h0 : cz = false := by rw [HCZ.out]; exact decide_eq_false (by omega)
     subst h0
     clear he
     go_wp2_with fail
     go_ret
     exact ⟨rfl, hbel⟩
   · rw [show ((s + 1 : Nat) : Int) - 1 = (s : Int) by omega]
     as_aux_lemma =>
     have hs4 : s < 4 := by omega
     have hsi : (s : Int) < 4 := by omega
     have c0 := K1.out.nat s (by rw [LA.out]; exact hs4)
     have c1 := K2.out.nat s (by rw [LB.out]; exact hs4)
     rw [AA.out s hs4] at c0
     rw [AB.out s hs4] at c1
     have HW := Hd (cmp_words (B := 2 ^ 64) (by decide) he)
     clear he
     generalize dgt (2 ^ 64) a s = x at *
     generalize dgt (2 ^ 64) b s = y at *
     by_cases h1 : x < y
     · have hz : cz = true := by rw [HCZ.out]; exact decide_eq_true (HW.out.1 h1)
       subst hz
       have hxy : (x : Int) < (y : Int) := by omega
       have hne : ((x : Int) != (y : Int)) = true := by simp; omega
       have hne2 : ¬ ((x : Int) = (y : Int)) := by omega
       clear HW
       go_wp2_with fail
       go_quiet (fail)
       go_wp2_with fail
       go_quiet (fail)
       go_wp2_with fail
       go_ret
       exact ⟨rfl, below_drewN (below_drewN hbel _) _⟩
     · have hxy : ¬ ((x : Int) < (y : Int)) := by omega
       by_cases h2 : y < x
       · have hz : cz = false := by rw [HCZ.out]; exact decide_eq_false (by have := HW.out.2.1 h2; omega)
         subst hz
         have hne : ((x : Int) != (y : Int)) = true := by simp; omega
         have hne2 : ¬ ((x : Int) = (y : Int)) := by omega
         have hle : (y : Int) ≤ (x : Int) := by omega
         clear HW
         go_wp2_with fail
         go_quiet (fail)
         go_wp2_with fail
         go_quiet (fail)
         go_wp2_with fail
         go_ret
         exact ⟨rfl, below_drewN (below_drewN hbel _) _⟩
       · obtain rfl : x = y := by omega
         have HE := Hd (HW.out.2.2 rfl)
         have hne : ((x : Int) != (x : Int)) = false := by simp
         clear HW
         go_wp2_with fail
         go_quiet (fail)
         go_wp2_with fail
         go_roundw
         case rel => exact ⟨s, by omega, by go_num, HE.out, K1.out.drewN _, K2.out.drewN _, below_drewN hbel _⟩
         case measure => simp [intOf] <;> omega
theorem u64_plus (x y s : Nat) (h : s = (x + y) % 18446744073709551616) : IntKind.u64.wrap ((x : Int) + (y : Int)) = (s : Int) := by rw [IntKind.wrap_u64]; omega
theorem u64_less (x y d : Nat) (hx : x < 18446744073709551616) (hy : y < 18446744073709551616) (h : d = (x + 18446744073709551616 - y) % 18446744073709551616) : IntKind.u64.wrap ((x : Int) - (y : Int)) = (d : Int) := by rw [IntKind.wrap_u64]; omega
theorem carry_1 (x y cy s o c2 : Nat) (hx : x < 18446744073709551616) (hy : y < 18446744073709551616) (hc : cy ≤ 1) (hs : s = (x + y) % 18446744073709551616) (ho : o = (s + cy) % 18446744073709551616) (h2 : c2 = (x + y + cy) / 18446744073709551616) (h : s < x ∨ o < s) : c2 = 1 := by omega
theorem carry_0 (x y cy s o c2 : Nat) (hx : x < 18446744073709551616) (hy : y < 18446744073709551616) (hc : cy ≤ 1) (hs : s = (x + y) % 18446744073709551616) (ho : o = (s + cy) % 18446744073709551616) (h2 : c2 = (x + y + cy) / 18446744073709551616) (h : ¬ s < x) (h' : ¬ o < s) : c2 = 0 := by omega
theorem borrow_1 (x y cy d o c2 : Nat) (hx : x < 18446744073709551616) (hy : y < 18446744073709551616) (hc : cy ≤ 1) (hs : d = (x + 18446744073709551616 - y) % 18446744073709551616) (h2 : c2 = (x + (18446744073709551615 - y) + cy) / 18446744073709551616) (h : x < y ∨ d < 1 - cy) : c2 = 0 := by omega
theorem borrow_0 (x y cy d o c2 : Nat) (hx : x < 18446744073709551616) (hy : y < 18446744073709551616) (hc : cy ≤ 1) (hs : d = (x + 18446744073709551616 - y) % 18446744073709551616) (h2 : c2 = (x + (18446744073709551615 - y) + cy) / 18446744073709551616) (h : ¬ x < y) (h' : ¬ d < 1 - cy) : c2 = 1 := by omega
theorem dsum_carry (a b : Nat) (ha : a < 2 ^ 256) (hb : b < 2 ^ 256) : cyA (2 ^ 64) a b 0 4 = addC a b := by
 rw [cyA_top (by rw [pow256]; exact ha) (by rw [pow256]; exact hb), pow256]; rfl
theorem diff_eq (a b : Nat) (hb : b < 2 ^ 256) : a + (2 ^ 256 - 1 - b) + 1 = a + 2 ^ 256 - b := by omega
theorem dsum_any (a b : Nat) (w : World) (ha : a < 2 ^ 256) (hb : b < 2 ^ 256) :
   Calls Try.prog 23 #[.agg (natsV .u64 (wds 4 a)).toArray, .agg (natsV .u64 (wds 4 b)).toArray] w fun e w' => e = .returned (.tuple #[.agg (natsV .u64 (wds 4 (a + b))).toArray, .bool (decide (addC a b = 1))]) ∧ Below w.heap.size w w' := by
 have LA := Hd (wds_len 4 a)
 have LB := Hd (wds_len 4 b)
 have AA := Hd (wds_at 4 a)
 have AB := Hd (wds_at 4 b)
 have LS := Hd (wds_len 4 (a + b))
 have HS := Hd (show tell (dgt (2 ^ 64) (a + b)) 4 ++ zeros (4 - 4) = wds 4 (a + b) by simp [zeros, wds])
 have HZ := Hd (show tell (dgt (2 ^ 64) (a + b)) 0 ++ zeros (4 - 0) = zeros 4 by simp [tell])
 have HD := Hd (fun t => dgt_sum (B := 2 ^ 64) (by decide) a b 0 t)
 have HCY := Hd (fun t => cyA_succ (B := 2 ^ 64) (by decide) a b 0 t)
 have HCL := Hd (fun t => cyA_le (B := 2 ^ 64) (by decide) a b 0 t (by decide))
 have HC0 := Hd (cyA_zero (2 ^ 64) a b 0)
 have HC4 := Hd (dsum_carry a b ha hb)
 rw [Nat.add_zero] at HD
 obtain ⟨rb, hrb⟩ : ∃ rb, rb = decide (addC a b = 1) := ⟨_, rfl⟩
 rw [← hrb]
 rw [← HC4.out] at hrb
 have HRB := Hd hrb
 clear hrb HC4
 generalize wds 4 (a + b) = ls at *
 generalize wds 4 a = la at *
 generalize wds 4 b = lb at *
 obtain ⟨CYF, hCYF⟩ : ∃ F : Nat → Nat, F = cyA (2 ^ 64) a b 0 := ⟨_, rfl⟩
 rw [← hCYF] at HD HCY HCL HC0 HRB
 clear hCYF
 obtain ⟨DS, hDS⟩ : ∃ F : Nat → Nat, F = dgt (2 ^ 64) (a + b) := ⟨_, rfl⟩
 rw [← hDS] at HS HZ HD
 have B1 := Hd ((((Blk.new w 24 (natsV .u64 la)).alloc (.cells (natsV .u64 lb).toArray 24)).alloc (.cells (natsV .u64 (zeros 4)).toArray 24)).alloc (.cells (natsV .u64 (zeros 4)).toArray 24))
 have B2 := Hd (((Blk.new2 w (.cells (natsV .u64 la).toArray 24) 24 (natsV .u64 lb)).alloc (.cells (natsV .u64 (zeros 4)).toArray 24)).alloc (.cells (natsV .u64 (zeros 4)).toArray 24))
 have B3 := Hd ((Blk.new3 w (.cells (natsV .u64 la).toArray 24) (.cells (natsV .u64 lb).toArray 24) 24 (natsV .u64 (zeros 4))).alloc (.cells (natsV .u64 (zeros 4)).toArray 24))
 have B4 := Hd (Blk.new4 w (.cells (natsV .u64 la).toArray 24) (.cells (natsV .u64 lb).toArray 24) (.cells (natsV .u64 (zeros 4)).toArray 24) 24 (natsV .u64 (zeros 4)))
 clear hDS
 have BEL := Hd (((((Below.refl w.heap.size w).alloc (Nat.le_refl _) (.cells (natsV .u64 la).toArray 24)).alloc (by simp) (.cells (natsV .u64 lb).toArray 24)).alloc (by simp; omega) (.cells (natsV .u64 (zeros 4)).toArray 24)).alloc (by simp; omega) (.cells (natsV .u64 (zeros 4)).toArray 24))
 go_enter Try.func23, Try.ntmps23
 go_wp2_with fail
 go_loopw [6, 8] (fun cc i wr => ∃ t : Nat, t ≤ 4 ∧ i = .int .i64 t ∧ cc = .int .u64 ((CYF t) : Nat) ∧ Blk wr w.heap.size 24 (natsV .u64 la) ∧ Blk wr (w.heap.size + 1) 24 (natsV .u64 lb) ∧ Blk wr (w.heap.size + 1 + 1) 24 (natsV .u64 (zeros 4)) ∧ Blk wr (w.heap.size + 1 + 1 + 1) 24 (natsV .u64 (tell DS t ++ zeros (4 - t))) ∧ Below w.heap.size w wr) (fun _ i _ => 4 - (intOf i).toNat)
 case atStart => exact ⟨0, by omega, rfl, by rw [HC0.out]; rfl, B1.out, B2.out, B3.out, by rw [HZ.out]; exact B4.out, BEL.out⟩
 case round =>
   clear B1 B2 B3 B4 BEL HC0 HZ
   obtain ⟨t, ht, rfl, rfl, k1, k2, k3, k4, hbel⟩ := hrel
   have K1 := Hd k1
   have K2 := Hd k2
   have K3 := Hd k3
   have K4 := Hd k4
   clear k1 k2 k3 k4
   by_cases h5 : t < 4
   · as_aux_lemma =>
     have hti : (t : Int) < 4 := by omega
     have XA := AA.out t h5
     have XB := AB.out t h5
     have hx := dgt_lt (B := 2 ^ 64) (by decide) a t
     have hy := dgt_lt (B := 2 ^ 64) (by decide) b t
     have hcl := HCL.out t
     have hd := HD.out t
     have hcy := HCY.out t
     have HF := Hd (fill_tell DS 4 t h5)
     have HLN := Hd (show (tell DS t ++ zeros (4 - t)).length = 4 by simp [tell_length, zeros]; omega)
     clear HD HCY HCL AA AB
     generalize dgt (2 ^ 64) a t = x at *
     generalize dgt (2 ^ 64) b t = y at *
     obtain ⟨c2, hc2⟩ : ∃ z, z = CYF (t + 1) := ⟨_, rfl⟩
     rw [← hc2] at hcy
     have HC2E := Hd hc2
     clear hc2
     generalize CYF t = cy at *
     generalize DS t = o at *
     obtain ⟨s, hs⟩ : ∃ s, s = (x + y) % 18446744073709551616 := ⟨_, rfl⟩
     have ho : o = (s + cy) % 18446744073709551616 := by rw [hd, hs]; omega
     have es := u64_plus x y s hs
     have eo := u64_plus s cy o ho
     have h2 : c2 = (x + y + cy) / 18446744073709551616 := hcy
     have HC1 := Hd (carry_1 x y cy s o c2 hx hy hcl hs ho h2)
     have HC2 := Hd (carry_0 x y cy s o c2 hx hy hcl hs ho h2)
     have N1 := Hd K1.out.drew
     have N2 := Hd K2.out.drew
     have N3 := Hd K3.out.drew
     have N4 := Hd K4.out.drew
     have hbelN := hbel.drew
     clear hs ho hd hcy h2
     have c0 := K1.out.nat t (by rw [LA.out]; omega)
     have c1 := K2.out.nat t (by rw [LB.out]; omega)
     rw [XA] at c0
     rw [XB] at c1
     clear K1 K2 K3 K4 hbel
     go_wp2_with fail
     go_region
     clear c0 c1 es
     generalize wr.drew = W1 at *
     clear wr
     have c0 := N1.out.nat t (by rw [LA.out]; omega)
     rw [XA] at c0
     by_cases h1 : s < x
     · as_aux_lemma =>
       have hi1 : ((s : Nat) : Int) < ((x : Nat) : Int) := by omega
       have HCE : c2 = 1 := HC1.out (Or.inl h1)
       have q0 := N4.out.nat t (by rw [HLN.out]; exact h5)
       have f0 := N4.out.free t
       have n4 := Hd (N4.out.natSet t o)
       rw [HF.out] at n4
       have n1 := Hd (N1.out.other ⟨w.heap.size + 1 + 1 + 1, t, none⟩ (.int .u64 (o : Nat)) (by simp; omega))
       have n2 := Hd (N2.out.other ⟨w.heap.size + 1 + 1 + 1, t, none⟩ (.int .u64 (o : Nat)) (by simp))
       have n3 := Hd (N3.out.other ⟨w.heap.size + 1 + 1 + 1, t, none⟩ (.int .u64 (o : Nat)) (by simp))
       have hb2 := hbelN.setCell (p := ⟨w.heap.size + 1 + 1 + 1, t, none⟩) (by simp; omega) (.int .u64 (o : Nat))
       go_wp2_with fail
       go_roundw
       case rel => exact ⟨t + 1, by omega, by go_num, by rw [← HC2E.out, HCE]; rfl, n1.out, n2.out, n3.out, n4.out, hb2⟩
       case measure => simp [intOf] <;> omega
     · have hi1 : ¬ (((s : Nat) : Int) < ((x : Nat) : Int)) := by omega
       have hle1 : ((x : Nat) : Int) ≤ ((s : Nat) : Int) := by omega
       by_cases h2 : o < s
       · as_aux_lemma =>
         have hi2 : ((o : Nat) : Int) < ((s : Nat) : Int) := by omega
         have HCE : c2 = 1 := HC1.out (Or.inr h2)
         have q0 := N4.out.nat t (by rw [HLN.out]; exact h5)
         have f0 := N4.out.free t
         have n4 := Hd (N4.out.natSet t o)
         rw [HF.out] at n4
         have n1 := Hd (N1.out.other ⟨w.heap.size + 1 + 1 + 1, t, none⟩ (.int .u64 (o : Nat)) (by simp; omega))
         have n2 := Hd (N2.out.other ⟨w.heap.size + 1 + 1 + 1, t, none⟩ (.int .u64 (o : Nat)) (by simp))
         have n3 := Hd (N3.out.other ⟨w.heap.size + 1 + 1 + 1, t, none⟩ (.int .u64 (o : Nat)) (by simp))
         have hb2 := hbelN.setCell (p := ⟨w.heap.size + 1 + 1 + 1, t, none⟩) (by simp; omega) (.int .u64 (o : Nat))
         go_wp2_with fail
         go_roundw
         case rel => exact ⟨t + 1, by omega, by go_num, by rw [← HC2E.out, HCE]; rfl, n1.out, n2.out, n3.out, n4.out, hb2⟩
         case measure => simp [intOf] <;> omega
       · as_aux_lemma =>
         have hi2 : ¬ (((o : Nat) : Int) < ((s : Nat) : Int)) := by omega
         have hle2 : ((s : Nat) : Int) ≤ ((o : Nat) : Int) := by omega
         have HCE : c2 = 0 := HC2.out h1 h2
         have q0 := N4.out.nat t (by rw [HLN.out]; exact h5)
         have f0 := N4.out.free t
         have n4 := Hd (N4.out.natSet t o)
         rw [HF.out] at n4
         have n1 := Hd (N1.out.other ⟨w.heap.size + 1 + 1 + 1, t, none⟩ (.int .u64 (o : Nat)) (by simp; omega))
         have n2 := Hd (N2.out.other ⟨w.heap.size + 1 + 1 + 1, t, none⟩ (.int .u64 (o : Nat)) (by simp))
         have n3 := Hd (N3.out.other ⟨w.heap.size + 1 + 1 + 1, t, none⟩ (.int .u64 (o : Nat)) (by simp))
         have hb2 := hbelN.setCell (p := ⟨w.heap.size + 1 + 1 + 1, t, none⟩) (by simp; omega) (.int .u64 (o : Nat))
         go_wp2_with fail
         go_roundw
         case rel => exact ⟨t + 1, by omega, by go_num, by rw [← HC2E.out, HCE]; rfl, n1.out, n2.out, n3.out, n4.out, hb2⟩
         case measure => simp [intOf] <;> omega
   · obtain rfl : t = 4 := by omega
     rw [show ((4 : Nat) : Int) = 4 from rfl]
     rw [HS.out] at K4
     have j3 := K3.out.setRow (natsV .u64 ls)
     have hb2 := below_setRow' hbel (show w.heap.size ≤ w.heap.size + 1 + 1 by omega) (natsV .u64 ls).toArray
     have hcl := HCL.out 4
     have hrb := HRB.out
     have hq : (((CYF 4 : Nat) : Int) == 1) = rb := by
       rw [hrb]
       rcases Nat.lt_or_ge (CYF 4) 1 with h0 | h0
       · rw [show CYF 4 = 0 by omega]; rfl
       · rw [show CYF 4 = 1 by omega]; rfl
     clear hrb HRB HCL
     generalize CYF 4 = c4 at *
     go_wp2_with (first | (refine ld24 rfl (.tmp 7) rfl (w.heap.size + 1 + 1 + 1) rfl ls K4.out LS.out ?_) | (refine st24 rfl (.tmp 4) (.tmp 40) rfl (w.heap.size + 1 + 1) rfl ls rfl LS.out (zeros 4) K3.out rfl ?_))
     refine bodyPost_ret (v := .tuple #[.agg (natsV .u64 ls).toArray, .bool rb]) ?_ rfl ⟨rfl, hb2⟩
     exact ret24x Try.results23 _ _ (w.heap.size + 1 + 1) ls _ rfl (by first | rfl | (simp [hq]; done) | (simp; exact hq)) j3 LS.out
theorem dminus_any (a b : Nat) (w : World) (ha : a < 2 ^ 256) (hb : b < 2 ^ 256) :
   Calls Try.prog 18 #[.agg (natsV .u64 (wds 4 a)).toArray, .agg (natsV .u64 (wds 4 b)).toArray] w fun e w' => e = .returned (.agg (natsV .u64 (wds 4 (a + 2 ^ 256 - b))).toArray) ∧ Below w.heap.size w w' := by
 have LA := Hd (wds_len 4 a)
 have LB := Hd (wds_len 4 b)
 have AA := Hd (wds_at 4 a)
 have AB := Hd (wds_at 4 b)
 have LS := Hd (wds_len 4 (a + 2 ^ 256 - b))
 have HS := Hd (show tell (dgt (2 ^ 64) (a + 2 ^ 256 - b)) 4 ++ zeros (4 - 4) = wds 4 (a + 2 ^ 256 - b) by simp [zeros, wds])
 have HZ := Hd (show tell (dgt (2 ^ 64) (a + 2 ^ 256 - b)) 0 ++ zeros (4 - 0) = zeros 4 by simp [tell])
 have HDC := Hd (fun t (h : t < 4) => dgt_compl (B := 2 ^ 64) (by decide) b 4 t (by rw [pow256]; exact hb) h)
 rw [pow256] at HDC
 have HD := Hd (fun t => dgt_sum (B := 2 ^ 64) (by decide) a (2 ^ 256 - 1 - b) 1 t)
 rw [diff_eq a b hb] at HD
 have HCY := Hd (fun t => cyA_succ (B := 2 ^ 64) (by decide) a (2 ^ 256 - 1 - b) 1 t)
 have HCL := Hd (fun t => cyA_le (B := 2 ^ 64) (by decide) a (2 ^ 256 - 1 - b) 1 t (by decide))
 have HC0 := Hd (cyA_zero (2 ^ 64) a (2 ^ 256 - 1 - b) 1)
 generalize wds 4 (a + 2 ^ 256 - b) = ls at *
 generalize wds 4 a = la at *
 generalize wds 4 b = lb at *
 obtain ⟨CYF, hCYF⟩ : ∃ F : Nat → Nat, F = cyA (2 ^ 64) a (2 ^ 256 - 1 - b) 1 := ⟨_, rfl⟩
 rw [← hCYF] at HD HCY HCL HC0
 clear hCYF
 obtain ⟨DS, hDS⟩ : ∃ F : Nat → Nat, F = dgt (2 ^ 64) (a + 2 ^ 256 - b) := ⟨_, rfl⟩
 rw [← hDS] at HS HZ HD
 have B1 := Hd ((((Blk.new w 24 (natsV .u64 la)).alloc (.cells (natsV .u64 lb).toArray 24)).alloc (.cells (natsV .u64 (zeros 4)).toArray 24)).alloc (.cells (natsV .u64 (zeros 4)).toArray 24))
 have B2 := Hd (((Blk.new2 w (.cells (natsV .u64 la).toArray 24) 24 (natsV .u64 lb)).alloc (.cells (natsV .u64 (zeros 4)).toArray 24)).alloc (.cells (natsV .u64 (zeros 4)).toArray 24))
 have B3 := Hd ((Blk.new3 w (.cells (natsV .u64 la).toArray 24) (.cells (natsV .u64 lb).toArray 24) 24 (natsV .u64 (zeros 4))).alloc (.cells (natsV .u64 (zeros 4)).toArray 24))
 have B4 := Hd (Blk.new4 w (.cells (natsV .u64 la).toArray 24) (.cells (natsV .u64 lb).toArray 24) (.cells (natsV .u64 (zeros 4)).toArray 24) 24 (natsV .u64 (zeros 4)))
 clear hDS
 have BEL := Hd (((((Below.refl w.heap.size w).alloc (Nat.le_refl _) (.cells (natsV .u64 la).toArray 24)).alloc (by simp) (.cells (natsV .u64 lb).toArray 24)).alloc (by simp; omega) (.cells (natsV .u64 (zeros 4)).toArray 24)).alloc (by simp; omega) (.cells (natsV .u64 (zeros 4)).toArray 24))
 go_enter Try.func18, Try.ntmps18
 go_wp2_with fail
 go_loopw [5, 7] (fun cc i wr => ∃ t : Nat, t ≤ 4 ∧ i = .int .i64 t ∧ cc = .int .u64 ((1 - CYF t) : Nat) ∧ Blk wr w.heap.size 24 (natsV .u64 la) ∧ Blk wr (w.heap.size + 1) 24 (natsV .u64 lb) ∧ Blk wr (w.heap.size + 1 + 1) 24 (natsV .u64 (zeros 4)) ∧ Blk wr (w.heap.size + 1 + 1 + 1) 24 (natsV .u64 (tell DS t ++ zeros (4 - t))) ∧ Below w.heap.size w wr) (fun _ i _ => 4 - (intOf i).toNat)
 case atStart => exact ⟨0, by omega, rfl, by rw [HC0.out]; rfl, B1.out, B2.out, B3.out, by rw [HZ.out]; exact B4.out, BEL.out⟩
 case round =>
   clear B1 B2 B3 B4 BEL HC0 HZ
   obtain ⟨t, ht, rfl, rfl, k1, k2, k3, k4, hbel⟩ := hrel
   have K1 := Hd k1
   have K2 := Hd k2
   have K3 := Hd k3
   have K4 := Hd k4
   clear k1 k2 k3 k4
   by_cases h5 : t < 4
   · as_aux_lemma =>
     have hti : (t : Int) < 4 := by omega
     have XA := AA.out t h5
     have XB := AB.out t h5
     have hx := dgt_lt (B := 2 ^ 64) (by decide) a t
     have hy := dgt_lt (B := 2 ^ 64) (by decide) b t
     have hcl := HCL.out t
     have hd := HD.out t
     have hcy := HCY.out t
     rw [HDC.out t h5] at hd hcy
     have HF := Hd (fill_tell DS 4 t h5)
     have HLN := Hd (show (tell DS t ++ zeros (4 - t)).length = 4 by simp [tell_length, zeros]; omega)
     clear HD HCY HCL AA AB HDC
     generalize dgt (2 ^ 64) a t = x at *
     generalize dgt (2 ^ 64) b t = y at *
     obtain ⟨c2, hc2⟩ : ∃ z, z = CYF (t + 1) := ⟨_, rfl⟩
     rw [← hc2] at hcy
     have HC2E := Hd hc2
     clear hc2
     generalize CYF t = cy at *
     generalize DS t = o at *
     obtain ⟨bw, hbw⟩ : ∃ z, z = 1 - cy := ⟨_, rfl⟩
     rw [← hbw]
     obtain ⟨s, hs⟩ : ∃ s, s = (x + 18446744073709551616 - y) % 18446744073709551616 := ⟨_, rfl⟩
     have hs64 : s < 18446744073709551616 := by rw [hs]; exact Nat.mod_lt _ (by decide)
     have ho : o = (s + 18446744073709551616 - bw) % 18446744073709551616 := by rw [hd, hs, hbw]; omega
     have es := u64_less x y s hx hy hs
     have eo := u64_less s bw o hs64 (by omega) ho
     have h2 : c2 = (x + (18446744073709551615 - y) + cy) / 18446744073709551616 := hcy
     have HC1 := Hd (borrow_1 x y cy s o c2 hx hy hcl hs h2)
     have HC2 := Hd (borrow_0 x y cy s o c2 hx hy hcl hs h2)
     rw [← hbw] at HC1 HC2
     have hbw1 : bw ≤ 1 := by omega
     have N1 := Hd K1.out.drew
     have N2 := Hd K2.out.drew
     have N3 := Hd K3.out.drew
     have N4 := Hd K4.out.drew
     have hbelN := hbel.drew
     clear hs ho hd hcy h2 hbw
     have c0 := K1.out.nat t (by rw [LA.out]; omega)
     have c1 := K2.out.nat t (by rw [LB.out]; omega)
     rw [XA] at c0
     rw [XB] at c1
     clear K1 K2 K3 K4 hbel
     go_wp2_with fail
     go_region
     clear c0 c1 es
     generalize wr.drew = W1 at *
     clear wr
     have c0 := N1.out.nat t (by rw [LA.out]; omega)
     rw [XA] at c0
     have c1 := N2.out.nat t (by rw [LB.out]; omega)
     rw [XB] at c1
     by_cases h1 : x < y
     · as_aux_lemma =>
       have hi1 : ((x : Nat) : Int) < ((y : Nat) : Int) := by omega
       have HCE : c2 = 0 := HC1.out (Or.inl h1)
       go_wp2_with fail
       go_region
       have M1 := Hd N1.out.drew
       have M2 := Hd N2.out.drew
       have M3 := Hd N3.out.drew
       have M4 := Hd N4.out.drew
       have hbelM := hbelN.drew
       clear c0 c1 N1 N2 N3 N4 hbelN
       generalize W1.drew = W2 at *
       clear W1
       have q0 := M4.out.nat t (by rw [HLN.out]; exact h5)
       have f0 := M4.out.free t
       have n4 := Hd (M4.out.natSet t o)
       rw [HF.out] at n4
       have n1 := Hd (M1.out.other ⟨w.heap.size + 1 + 1 + 1, t, none⟩ (.int .u64 (o : Nat)) (by simp; omega))
       have n2 := Hd (M2.out.other ⟨w.heap.size + 1 + 1 + 1, t, none⟩ (.int .u64 (o : Nat)) (by simp))
       have n3 := Hd (M3.out.other ⟨w.heap.size + 1 + 1 + 1, t, none⟩ (.int .u64 (o : Nat)) (by simp))
       have hb2 := hbelM.setCell (p := ⟨w.heap.size + 1 + 1 + 1, t, none⟩) (by simp; omega) (.int .u64 (o : Nat))
       go_wp2_with fail
       go_roundw
       case rel => exact ⟨t + 1, by omega, by go_num, by rw [← HC2E.out, HCE]; rfl, n1.out, n2.out, n3.out, n4.out, hb2⟩
       case measure => simp [intOf] <;> omega
     · have hi1 : ¬ (((x : Nat) : Int) < ((y : Nat) : Int)) := by omega
       have hle1 : ((y : Nat) : Int) ≤ ((x : Nat) : Int) := by omega
       by_cases h2 : s < bw
       · as_aux_lemma =>
         have hi2 : ((s : Nat) : Int) < ((bw : Nat) : Int) := by omega
         have HCE : c2 = 0 := HC1.out (Or.inr h2)
         go_wp2_with fail
         go_region
         have M1 := Hd N1.out.drew
         have M2 := Hd N2.out.drew
         have M3 := Hd N3.out.drew
         have M4 := Hd N4.out.drew
         have hbelM := hbelN.drew
         clear c0 c1 N1 N2 N3 N4 hbelN
         generalize W1.drew = W2 at *
         clear W1
         have q0 := M4.out.nat t (by rw [HLN.out]; exact h5)
         have f0 := M4.out.free t
         have n4 := Hd (M4.out.natSet t o)
         rw [HF.out] at n4
         have n1 := Hd (M1.out.other ⟨w.heap.size + 1 + 1 + 1, t, none⟩ (.int .u64 (o : Nat)) (by simp; omega))
         have n2 := Hd (M2.out.other ⟨w.heap.size + 1 + 1 + 1, t, none⟩ (.int .u64 (o : Nat)) (by simp))
         have n3 := Hd (M3.out.other ⟨w.heap.size + 1 + 1 + 1, t, none⟩ (.int .u64 (o : Nat)) (by simp))
         have hb2 := hbelM.setCell (p := ⟨w.heap.size + 1 + 1 + 1, t, none⟩) (by simp; omega) (.int .u64 (o : Nat))
         go_wp2_with fail
         go_roundw
         case rel => exact ⟨t + 1, by omega, by go_num, by rw [← HC2E.out, HCE]; rfl, n1.out, n2.out, n3.out, n4.out, hb2⟩
         case measure => simp [intOf] <;> omega
       · as_aux_lemma =>
         have hi2 : ¬ (((s : Nat) : Int) < ((bw : Nat) : Int)) := by omega
         have hle2 : ((bw : Nat) : Int) ≤ ((s : Nat) : Int) := by omega
         have HCE : c2 = 1 := HC2.out h1 h2
         go_wp2_with fail
         go_region
         have M1 := Hd N1.out.drew
         have M2 := Hd N2.out.drew
         have M3 := Hd N3.out.drew
         have M4 := Hd N4.out.drew
         have hbelM := hbelN.drew
         clear c0 c1 N1 N2 N3 N4 hbelN
         generalize W1.drew = W2 at *
         clear W1
         have q0 := M4.out.nat t (by rw [HLN.out]; exact h5)
         have f0 := M4.out.free t
         have n4 := Hd (M4.out.natSet t o)
         rw [HF.out] at n4
         have n1 := Hd (M1.out.other ⟨w.heap.size + 1 + 1 + 1, t, none⟩ (.int .u64 (o : Nat)) (by simp; omega))
         have n2 := Hd (M2.out.other ⟨w.heap.size + 1 + 1 + 1, t, none⟩ (.int .u64 (o : Nat)) (by simp))
         have n3 := Hd (M3.out.other ⟨w.heap.size + 1 + 1 + 1, t, none⟩ (.int .u64 (o : Nat)) (by simp))
         have hb2 := hbelM.setCell (p := ⟨w.heap.size + 1 + 1 + 1, t, none⟩) (by simp; omega) (.int .u64 (o : Nat))
         go_wp2_with fail
         go_roundw
         case rel => exact ⟨t + 1, by omega, by go_num, by rw [← HC2E.out, HCE]; rfl, n1.out, n2.out, n3.out, n4.out, hb2⟩
         case measure => simp [intOf] <;> omega
   · obtain rfl : t = 4 := by omega
     rw [show ((4 : Nat) : Int) = 4 from rfl]
     rw [HS.out] at K4
     have j3 := K3.out.setRow (natsV .u64 ls)
     have hb2 := below_setRow' hbel (show w.heap.size ≤ w.heap.size + 1 + 1 by omega) (natsV .u64 ls).toArray
     go_wp2_with (first | (refine ld24 rfl (.tmp 6) rfl (w.heap.size + 1 + 1 + 1) rfl ls K4.out LS.out ?_) | (refine st24 rfl (.tmp 4) (.tmp 39) rfl (w.heap.size + 1 + 1) rfl ls rfl LS.out (zeros 4) K3.out rfl ?_))
     refine bodyPost_ret (v := .agg (natsV .u64 ls).toArray) ?_ rfl ⟨rfl, hb2⟩
     exact ret24 Try.results18 _ _ (w.heap.size + 1 + 1) ls rfl j3 LS.out
end Go.Proofs.Ytdkkombpkojjaaa
