/- Parts of proofs of statements, each text behind those that it stands on. No condition of its own. -/
import Derived.Deep.DeepCutAuto
import Derived.Test.YtdkkombpkojjaaaD06
import Derived.Test.YtdkkombpkojjaaaD07
namespace Go.Proofs.Ytdkkombpkojjaaa
set_option maxRecDepth 100000
set_option maxHeartbeats 1600000
open Go.RowKit
set_option linter.unusedVariables false
set_option linter.unusedSimpArgs false
theorem shr_top (L n : Nat) (hn : n ≤ 256) : L * 2 ^ n / 2 ^ 256 = L / 2 ^ (256 - n) := by
 have e : (2 : Nat) ^ 256 = 2 ^ (256 - n) * 2 ^ n := by rw [← Nat.pow_add]; congr 1; omega
 rw [e, Nat.mul_div_mul_right _ _ (Nat.two_pow_pos n)]
theorem shift_join (L U n : Nat) (hL : L < 2 ^ 256) (hn : n ≤ 256) :
   wds 8 (L * 2 ^ n % 2 ^ 256 + 2 ^ 256 * (U * 2 ^ n % 2 ^ 256 + L / 2 ^ (256 - n))) = wds 8 ((L + 2 ^ 256 * U) * 2 ^ n) := by
 have e1 : (L + 2 ^ 256 * U) * 2 ^ n = L * 2 ^ n % 2 ^ 256 + 2 ^ 256 * (U * 2 ^ n + L / 2 ^ (256 - n)) := by
   rw [← shr_top L n hn, Nat.add_mul, Nat.mul_assoc]
   have := Nat.mod_add_div (L * 2 ^ n) (2 ^ 256)
   generalize L * 2 ^ n = z at *
   generalize U * 2 ^ n = y at *
   omega
 rw [e1, ← wds_mod 8 8 _ (Nat.le_refl _), ← wds_mod 8 8 (_ + 2 ^ 256 * (U * 2 ^ n + _)) (Nat.le_refl _)]
 congr 1
 rw [show 64 * 8 = 512 from rfl]
 generalize U * 2 ^ n = y
 generalize L * 2 ^ n % 2 ^ 256 = p
 generalize L / 2 ^ (256 - n) = q
 omega
theorem shift_rest (L U n : Nat) (hL : L < 2 ^ 256) (hn : n ≤ 256) : (L + 2 ^ 256 * U) * 2 ^ n / 2 ^ 256 / 2 ^ 256 = U / 2 ^ (256 - n) := by
 have e1 : (L + 2 ^ 256 * U) * 2 ^ n / 2 ^ 256 = (L + 2 ^ 256 * U) / 2 ^ (256 - n) := shr_top _ n hn
 rw [e1, Nat.div_div_eq_div_mul, Nat.mul_comm (2 ^ (256 - n)), ← Nat.div_div_eq_div_mul, Nat.add_mul_div_left _ _ (Nat.two_pow_pos 256), Nat.div_eq_of_lt hL, Nat.zero_add]
theorem results_cells {P : Program} {fn : Func} {p q : Tmp} {ty ty2 : TypeId} (h : fn.results = #[.cell p ty, .cell q ty2]) (tmps : Array Value) (w : World) (g g2 : Nat) (t t2 : TypeId) (cs cs2 : Array Value) (fr fr2 : Nat × Nat) (d d2 : TypeDesc)
   (hp : tmps.getD p undef = .pointer (some ⟨g, 0, none⟩)) (hq : tmps.getD q undef = .pointer (some ⟨g2, 0, none⟩)) (hg : w.heap[g]? = some (.cells cs t fr)) (hg2 : w.heap[g2]? = some (.cells cs2 t2 fr2))
   (hu : P.underlying ty = some d) (hd : (match d with | .struct _ | .array _ _ => true | _ => false) = true) (hi : (P.info? ty).map (·.size) = some cs.size)
   (hu2 : P.underlying ty2 = some d2) (hd2 : (match d2 with | .struct _ | .array _ _ => true | _ => false) = true) (hi2 : (P.info? ty2).map (·.size) = some cs2.size) :
   (results fn tmps).run P w = .ok (.tuple #[.agg cs, .agg cs2]) w := by
 have hp' : tmps[p]?.getD undef = .pointer (some ⟨g, 0, none⟩) := by simpa using hp
 have hq' : tmps[q]?.getD undef = .pointer (some ⟨g2, 0, none⟩) := by simpa using hq
 simp [results, h, hp', hq', asAddr, run_loadVar_row w g t ty cs fr d hg hu hd hi, run_loadVar_row w g2 t2 ty2 cs2 fr2 d2 hg2 hu2 hd2 hi2]
theorem wp_as_ {P : Program} {c : Code} {Q : Exit → Act → World → Prop} {a : Act} {w w' : World} (h : w' = w) (k : c.wp P Q a w') : c.wp P Q a w := h ▸ k
theorem world_as_ {P : Program} {md : Region.Mode} {ops : Array Oper} {Q : Exit → Act → World → Prop} {S : World → Prop} {fuel : Nat} {listed : Array Bool} {a : Act} {w w' : World} (h : w' = w) (k : wpAnyH P md ops Q S fuel listed a w') : wpAnyH P md ops Q S fuel listed a w := h ▸ k
theorem four_of' (l : List Nat) (h : l.length = 4) : ∃ a b c d, l = [a, b, c, d] := by
 match l, h with
 | [a, b, c, d], _ => exact ⟨a, b, c, d, rfl⟩
theorem keepR2 {w w' : World} {g1 g2 : Nat} {a b : List Value} (hb : Below w.heap.size w w') (h : w.rangeAt g1 0 a ∧ w.rangeAt g2 0 b) : w'.rangeAt g1 0 a ∧ w'.rangeAt g2 0 b :=
 ⟨range_keepV h.1 hb, range_keepV h.2 hb⟩
theorem keepR3 {w w' : World} {g1 g2 g3 : Nat} {a b c : List Value} (hb : Below w.heap.size w w') (h : w.rangeAt g1 0 a ∧ w.rangeAt g2 0 b ∧ w.rangeAt g3 0 c) : w'.rangeAt g1 0 a ∧ w'.rangeAt g2 0 b ∧ w'.rangeAt g3 0 c :=
 ⟨range_keepV h.1 hb, range_keepV h.2.1 hb, range_keepV h.2.2 hb⟩
theorem shiftUp_any (L U n : Nat) (w : World) (hL : L < 2 ^ 256) (hU : U < 2 ^ 256) (hn : n < 256) :
   Calls Try.prog 91 #[.agg (natsV .u64 (wds 8 (L + 2 ^ 256 * U))).toArray, .int .i64 (n : Nat)] w fun e w' => e = .returned (.tuple #[.agg (natsV .u64 (wds 8 ((L + 2 ^ 256 * U) * 2 ^ n))).toArray, .agg (natsV .u64 (wds 4 ((L + 2 ^ 256 * U) * 2 ^ n / 2 ^ 256 / 2 ^ 256))).toArray]) ∧ Below w.heap.size w w' := by
 rw [wds8_join L U hL, ← shift_join L U n hL (by omega), shift_rest L U n hL (by omega)]
 obtain ⟨k, hk⟩ : ∃ k, k = 256 - n := ⟨_, rfl⟩
 rw [← hk]
 have HC1 := Hd (fun w => Shl_any U (n : Int) w hU (by omega) (by omega))
 have HC2 := Hd (fun w => Shr_any L (k : Int) w hL (by omega) (by omega))
 have HC4 := Hd (fun w => Shl_any L (n : Int) w hL (by omega) (by omega))
 have HC6 := Hd (fun w => Shr_any U (k : Int) w hU (by omega) (by omega))
 rw [show (n : Int).toNat = n by omega] at HC1 HC4
 rw [show (k : Int).toNat = k by omega] at HC2 HC6
 have M1 := wds_mod 4 4 (U * 2 ^ n) (Nat.le_refl _)
 have M2 := wds_mod 4 4 (L * 2 ^ n) (Nat.le_refl _)
 rw [show 64 * 4 = 256 from rfl] at M1 M2
 rw [← M1] at HC1
 rw [← M2] at HC4
 have hA := Nat.mod_lt (U * 2 ^ n) (Nat.two_pow_pos 256)
 have hC := Nat.mod_lt (L * 2 ^ n) (Nat.two_pow_pos 256)
 clear M1 M2
 have hB : L / 2 ^ k < 2 ^ 256 := Nat.lt_of_le_of_lt (Nat.div_le_self _ _) hL
 generalize U * 2 ^ n % 2 ^ 256 = A at *
 generalize L * 2 ^ n % 2 ^ 256 = C at *
 generalize L / 2 ^ k = B at *
 generalize U / 2 ^ k = D at *
 have HC3 := Hd (fun w => Add_any A B w hA hB)
 have HC5 := Hd (fun w => join_any C (A + B) w hC)
 have L1 := Hd (wds_len 4 L)
 have L2 := Hd (wds_len 4 U)
 have LM := Hd (wds_len 4 (A + B))
 have LJ := Hd (wds_len 8 (C + 2 ^ 256 * (A + B)))
 have LDD := Hd (wds_len 4 D)
 generalize wds 8 (C + 2 ^ 256 * (A + B)) = lj at *
 generalize wds 4 (A + B) = lm at *
 generalize addC A B = cc at *
 generalize wds 4 A = lA at *
 generalize wds 4 B = lB at *
 generalize wds 4 C = lC at *
 generalize wds 4 D = lD at *
 generalize wds 4 L = lL at *
 generalize wds 4 U = lU at *
 obtain ⟨a0, a1, a2, a3, rfl⟩ := four_of' lL L1.out
 obtain ⟨b0, b1, b2, b3, rfl⟩ := four_of' lU L2.out
 have ek : IntKind.i64.wrap (256 - (n : Int)) = (k : Int) := by rw [IntWalk.i64_in _ (by omega)]; omega
 have u25 := Try.underlying24
 have i25L : (Try.prog.info? 24).map (·.size) = some (natsV .u64 [a0, a1, a2, a3]).length := by rw [info24]; rfl
 have i25U : (Try.prog.info? 24).map (·.size) = some (natsV .u64 [b0, b1, b2, b3]).length := by rw [info24]; rfl
 have i25M : (Try.prog.info? 24).map (·.size) = some (natsV .u64 lm).length := by rw [info24, natsV_length, LM.out]
 clear hL hU hA hB hC hk L1 L2
 rw [show [a0, a1, a2, a3] ++ [b0, b1, b2, b3] = [a0, a1, a2, a3, b0, b1, b2, b3] from rfl]
 have g0 : (natsV .u64 [a0, a1, a2, a3, b0, b1, b2, b3])[0]? = some (.int .u64 (a0 : Nat)) := rfl
 have g1 : (natsV .u64 [a0, a1, a2, a3, b0, b1, b2, b3])[1]? = some (.int .u64 (a1 : Nat)) := rfl
 have g2 : (natsV .u64 [a0, a1, a2, a3, b0, b1, b2, b3])[2]? = some (.int .u64 (a2 : Nat)) := rfl
 have g3 : (natsV .u64 [a0, a1, a2, a3, b0, b1, b2, b3])[3]? = some (.int .u64 (a3 : Nat)) := rfl
 have g4 : (natsV .u64 [a0, a1, a2, a3, b0, b1, b2, b3])[4]? = some (.int .u64 (b0 : Nat)) := rfl
 have g5 : (natsV .u64 [a0, a1, a2, a3, b0, b1, b2, b3])[5]? = some (.int .u64 (b1 : Nat)) := rfl
 have g6 : (natsV .u64 [a0, a1, a2, a3, b0, b1, b2, b3])[6]? = some (.int .u64 (b2 : Nat)) := rfl
 have g7 : (natsV .u64 [a0, a1, a2, a3, b0, b1, b2, b3])[7]? = some (.int .u64 (b3 : Nat)) := rfl
 have B1 := Hd (((Blk.new w 103 (natsV .u64 [a0, a1, a2, a3, b0, b1, b2, b3])).alloc (.cells (natsV .u64 (zeros 8)).toArray 103)).alloc (.cells (natsV .u64 (zeros 4)).toArray 24))
 have B2 := Hd ((Blk.new2 w (.cells (natsV .u64 [a0, a1, a2, a3, b0, b1, b2, b3]).toArray 103) 103 (natsV .u64 (zeros 8))).alloc (.cells (natsV .u64 (zeros 4)).toArray 24))
 have B3 := Hd (Blk.new3 w (.cells (natsV .u64 [a0, a1, a2, a3, b0, b1, b2, b3]).toArray 103) (.cells (natsV .u64 (zeros 8)).toArray 103) 24 (natsV .u64 (zeros 4)))
 have BEL := Hd ((((Below.refl w.heap.size w).alloc (Nat.le_refl _) (.cells (natsV .u64 [a0, a1, a2, a3, b0, b1, b2, b3]).toArray 103)).alloc (by simp) (.cells (natsV .u64 (zeros 8)).toArray 103)).alloc (by simp; omega) (.cells (natsV .u64 (zeros 4)).toArray 24))
 have hz3 : (((w.alloc (.cells (natsV .u64 [a0, a1, a2, a3, b0, b1, b2, b3]).toArray 103)).alloc (.cells (natsV .u64 (zeros 8)).toArray 103)).alloc (.cells (natsV .u64 (zeros 4)).toArray 24)).heap.size = w.heap.size + 1 + 1 + 1 := by simp
 have hz4 : ((((w.alloc (.cells (natsV .u64 [a0, a1, a2, a3, b0, b1, b2, b3]).toArray 103)).alloc (.cells (natsV .u64 (zeros 8)).toArray 103)).alloc (.cells (natsV .u64 (zeros 4)).toArray 24)).alloc (.cells (natsV .u64 [a0, a1, a2, a3]).toArray 24)).heap.size = w.heap.size + 1 + 1 + 1 + 1 := by simp
 have D2 := Hd ((B2.out.alloc (.cells (natsV .u64 [a0, a1, a2, a3]).toArray 24)).alloc (.cells (natsV .u64 [b0, b1, b2, b3]).toArray 24))
 have D3 := Hd ((B3.out.alloc (.cells (natsV .u64 [a0, a1, a2, a3]).toArray 24)).alloc (.cells (natsV .u64 [b0, b1, b2, b3]).toArray 24))
 have D4 := Hd ((Blk.new (((w.alloc (.cells (natsV .u64 [a0, a1, a2, a3, b0, b1, b2, b3]).toArray 103)).alloc (.cells (natsV .u64 (zeros 8)).toArray 103)).alloc (.cells (natsV .u64 (zeros 4)).toArray 24)) 24 (natsV .u64 [a0, a1, a2, a3])).alloc (.cells (natsV .u64 [b0, b1, b2, b3]).toArray 24))
 have D5 := Hd (Blk.new ((((w.alloc (.cells (natsV .u64 [a0, a1, a2, a3, b0, b1, b2, b3]).toArray 103)).alloc (.cells (natsV .u64 (zeros 8)).toArray 103)).alloc (.cells (natsV .u64 (zeros 4)).toArray 24)).alloc (.cells (natsV .u64 [a0, a1, a2, a3]).toArray 24)) 24 (natsV .u64 [b0, b1, b2, b3]))
 rw [hz3] at D4
 rw [hz4] at D5
 have BELD := Hd ((BEL.out.alloc (by rw [hz3]; omega) (.cells (natsV .u64 [a0, a1, a2, a3]).toArray 24)).alloc (by rw [hz4]; omega) (.cells (natsV .u64 [b0, b1, b2, b3]).toArray 24))
 clear hz3 hz4 B1 B2 B3 BEL
 go_enter Try.func91, Try.ntmps91
 go_upto_region 3 with fail
 obtain ⟨w1, hw1⟩ : ∃ w1 : World, w1 = ((((w.alloc (.cells (natsV .u64 [a0, a1, a2, a3, b0, b1, b2, b3]).toArray 103)).alloc (.cells (natsV .u64 (zeros 8)).toArray 103)).alloc (.cells (natsV .u64 (zeros 4)).toArray 24)).alloc (.cells (natsV .u64 [a0, a1, a2, a3]).toArray 24)).alloc (.cells (natsV .u64 [b0, b1, b2, b3]).toArray 24) := ⟨_, rfl⟩
 rw [← hw1] at D2 D3 D4 D5 BELD
 refine wp_as_ hw1 ?_
 clear hw1
 go_cut [8, 9] (fun v8 v9 wx => ∃ g : Nat, w.heap.size + 1 + 1 + 1 + 1 < g ∧ v8 = .pointer (some ⟨g, 0, none⟩) ∧ Blk wx g 24 (natsV .u64 lm) ∧ Blk wx (w.heap.size + 1) 103 (natsV .u64 (zeros 8)) ∧ Blk wx (w.heap.size + 1 + 1) 24 (natsV .u64 (zeros 4)) ∧ Blk wx (w.heap.size + 1 + 1 + 1) 24 (natsV .u64 [a0, a1, a2, a3]) ∧ Blk wx (w.heap.size + 1 + 1 + 1 + 1) 24 (natsV .u64 [b0, b1, b2, b3]) ∧ Below w.heap.size w wx)
 case first =>
   refine wp_region_held_drew (S := (fun w' => w'.rangeAt (w.heap.size + 1 + 1 + 1 + 1) 0 (natsV .u64 [b0, b1, b2, b3]) ∧ w'.rangeAt (w.heap.size + 1 + 1 + 1) 0 (natsV .u64 [a0, a1, a2, a3]))) (by kernel_rfl) ⟨blk_rangeV D5.out.drew, blk_rangeV D4.out.drew⟩ (fun hHeld => ?_)
   refine th0 0 rfl (yieldsIf_load_mid (by rfl) _ _ rfl _ _ rfl _ _ (by intro w hSw; exact hSw.1) u25 rfl i25U) hHeld ?_
   try simp only [Act.put, zq]
   refine th1 1 rfl hHeld ?_
   try simp only [Act.put, zq]
   refine th0 3 rfl (yieldsIf_load_mid (by rfl) _ _ rfl _ _ rfl _ _ (by intro w hSw; exact hSw.2) u25 rfl i25L) hHeld ?_
   try simp only [Act.put, zq]
   refine th1 4 rfl hHeld ?_
   try simp only [Act.put, zq]
   refine th1 5 rfl hHeld ?_
   try simp only [Act.put, zq]
   refine wpAnyH_ready (rs := [2, 11]) (by kernel_rfl) (by simp) ?_
   refine AllReadyH.cons (o := _) rfl (fun K hK => ?_) (AllReadyH.cons (o := _) rfl (fun K hK => ?_) AllReadyH.nil)
   · go_simp
     go_at_call 90
     refine (HC1.out _).mono ?_
     rintro e wx1_ ⟨rfl, hwx1_⟩
     refine hK.out _ _ (keepR2 hwx1_ hHeld) (fun hHeld2 => ?_)
     clear hK K hHeld
     have hHeld := hHeld2
     clear hHeld2
     try simp only [Act.put, zq]
     have X2_ := Hd (D4.out.drew.below' hwx1_)
     have X3_ := Hd (D5.out.drew.below' hwx1_)
     have X4_ := Hd (D2.out.drew.below' hwx1_)
     have X5_ := Hd (D3.out.drew.below' hwx1_)
     have bel6_ := BELD.out.drew.trans (hwx1_.mono BELD.out.drew.size)
     refine wpAnyH_ready (rs := [6, 11]) (by kernel_rfl) (by simp) ?_
     refine AllReadyH.cons (o := _) rfl (fun K hK => ?_) (AllReadyH.cons (o := _) rfl (fun K hK => ?_) AllReadyH.nil)
     · go_simp
       go_at_call 93
       refine (HC2.out _).mono ?_
       rintro e wx7_ ⟨rfl, hwx7_⟩
       refine hK.out _ _ (keepR2 hwx7_ hHeld) (fun hHeld2 => ?_)
       clear hK K hHeld
       have hHeld := hHeld2
       clear hHeld2
       try simp only [Act.put, zq]
       have X8_ := Hd (X2_.out.below' hwx7_)
       have X9_ := Hd (X3_.out.below' hwx7_)
       have X10_ := Hd (X4_.out.below' hwx7_)
       have X11_ := Hd (X5_.out.below' hwx7_)
       have bel12_ := bel6_.trans (hwx7_.mono bel6_.size)
       refine wpAnyH_ready (rs := [7, 11]) (by kernel_rfl) (by simp) ?_
       refine AllReadyH.cons (o := _) rfl (fun K hK => ?_) (AllReadyH.cons (o := _) rfl (fun K hK => ?_) AllReadyH.nil)
       · go_simp
         go_at_call 88
         refine (HC3.out _).mono ?_
         rintro e wx13_ ⟨rfl, hwx13_⟩
         refine hK.out _ _ (keepR2 hwx13_ hHeld) (fun hHeld2 => ?_)
         clear hK K hHeld
         have hHeld := hHeld2
         clear hHeld2
         try simp only [Act.put, zq]
         have X14_ := Hd (X8_.out.below' hwx13_)
         have X15_ := Hd (X9_.out.below' hwx13_)
         have X16_ := Hd (X10_.out.below' hwx13_)
         have X17_ := Hd (X11_.out.below' hwx13_)
         have bel18_ := bel12_.trans (hwx13_.mono bel12_.size)
         refine th1 8 rfl hHeld ?_
         try simp only [Act.put, zq]
         refine th1 9 rfl hHeld ?_
         try simp only [Act.put, zq]
         refine th1 10 rfl hHeld ?_
         try simp only [Act.put, zq]
         refine wpAnyH_ready (rs := [11]) (by kernel_rfl) (by simp) ?_
         refine AllReadyH.cons (o := _) rfl (fun K hK => ?_) AllReadyH.nil
         have hnb11 := X15_.out.lt
         go_simp
         refine hK.out _ _ (keepR2 ((Below.refl _ _).alloc (Nat.le_refl _) _) hHeld) (fun hHeld2 => ?_)
         clear hK K hHeld
         have hHeld := hHeld2
         clear hHeld2
         try simp only [Act.put, zq]
         obtain ⟨wy19_, hwy19_⟩ : ∃ W_ : World, W_ = (wx13_).alloc (.cells (natsV .u64 (zeros 4)).toArray 24) := ⟨_, rfl⟩
         have X20_ := Hd (show Blk wy19_ (w.heap.size + 1 + 1 + 1) 24 (natsV .u64 [a0, a1, a2, a3]) from by rw [hwy19_]; exact X14_.out.alloc (.cells (natsV .u64 (zeros 4)).toArray 24))
         have X21_ := Hd (show Blk wy19_ (w.heap.size + 1 + 1 + 1 + 1) 24 (natsV .u64 [b0, b1, b2, b3]) from by rw [hwy19_]; exact X15_.out.alloc (.cells (natsV .u64 (zeros 4)).toArray 24))
         have X22_ := Hd (show Blk wy19_ (w.heap.size + 1) 103 (natsV .u64 (zeros 8)) from by rw [hwy19_]; exact X16_.out.alloc (.cells (natsV .u64 (zeros 4)).toArray 24))
         have X23_ := Hd (show Blk wy19_ (w.heap.size + 1 + 1) 24 (natsV .u64 (zeros 4)) from by rw [hwy19_]; exact X17_.out.alloc (.cells (natsV .u64 (zeros 4)).toArray 24))
         have Z24_ := Hd (show Blk wy19_ (wx13_.heap.size) 24 (natsV .u64 (zeros 4)) from by rw [hwy19_]; exact Blk.new _ _ _)
         have bel25_ : Below w.heap.size w wy19_ := by rw [hwy19_]; exact (bel18_.alloc bel18_.size (.cells (natsV .u64 (zeros 4)).toArray 24))
         have hHeld3 : wy19_.rangeAt (w.heap.size + 1 + 1 + 1 + 1) 0 (natsV .u64 [b0, b1, b2, b3]) ∧ wy19_.rangeAt (w.heap.size + 1 + 1 + 1) 0 (natsV .u64 [a0, a1, a2, a3]) := by rw [hwy19_]; exact hHeld
         clear hHeld
         have hHeld := hHeld3
         clear hHeld3
         refine world_as_ hwy19_ ?_
         have hne6 := X21_.out.lt
         clear hwy19_
         have hna : (w.heap.size + 1 + 1 + 1 + 1) < (wx13_.heap.size) := by first | assumption | omega
         refine wpAnyH_ready (rs := [12]) (by kernel_rfl) (by simp) ?_
         refine AllReadyH.cons (o := _) rfl (fun K hK => ?_) AllReadyH.nil
         rw [if_pos (by rfl)]
         refine wst24 (.tmp 8) (.tmp 37) rfl (wx13_.heap.size) rfl lm rfl LM.out (zeros 4) Z24_.out rfl ?_
         refine hK.out _ _ (⟨blk_rangeV (X21_.out.row (natsV .u64 lm).toArray (show w.heap.size + 1 + 1 + 1 + 1 ≠ (wx13_.heap.size) by omega)), blk_rangeV (X20_.out.row (natsV .u64 lm).toArray (show w.heap.size + 1 + 1 + 1 ≠ (wx13_.heap.size) by omega))⟩) (fun hHeld2 => ?_)
         clear hK K hHeld
         have hHeld := hHeld2
         clear hHeld2
         try simp only [Act.put, zq]
         refine th1 13 rfl hHeld ?_
         try simp only [Act.put, zq]
         refine wpAnyH_done (by kernel_rfl) ?_ _
         go_wp2_with fail
         go_meet
         exact ⟨_, hna, rfl, Z24_.out.setRow (natsV .u64 lm), X22_.out.row _ (by omega), X23_.out.row _ (by omega), X20_.out.row _ (by omega), X21_.out.row _ (by omega), below_setRow' bel25_ (by omega) _⟩
       · have hnb11 := X9_.out.lt
         go_simp
         refine hK.out _ _ (keepR2 ((Below.refl _ _).alloc (Nat.le_refl _) _) hHeld) (fun hHeld2 => ?_)
         clear hK K hHeld
         have hHeld := hHeld2
         clear hHeld2
         try simp only [Act.put, zq]
         obtain ⟨wy26_, hwy26_⟩ : ∃ W_ : World, W_ = (wx7_).alloc (.cells (natsV .u64 (zeros 4)).toArray 24) := ⟨_, rfl⟩
         have X27_ := Hd (show Blk wy26_ (w.heap.size + 1 + 1 + 1) 24 (natsV .u64 [a0, a1, a2, a3]) from by rw [hwy26_]; exact X8_.out.alloc (.cells (natsV .u64 (zeros 4)).toArray 24))
         have X28_ := Hd (show Blk wy26_ (w.heap.size + 1 + 1 + 1 + 1) 24 (natsV .u64 [b0, b1, b2, b3]) from by rw [hwy26_]; exact X9_.out.alloc (.cells (natsV .u64 (zeros 4)).toArray 24))
         have X29_ := Hd (show Blk wy26_ (w.heap.size + 1) 103 (natsV .u64 (zeros 8)) from by rw [hwy26_]; exact X10_.out.alloc (.cells (natsV .u64 (zeros 4)).toArray 24))
         have X30_ := Hd (show Blk wy26_ (w.heap.size + 1 + 1) 24 (natsV .u64 (zeros 4)) from by rw [hwy26_]; exact X11_.out.alloc (.cells (natsV .u64 (zeros 4)).toArray 24))
         have Z31_ := Hd (show Blk wy26_ (wx7_.heap.size) 24 (natsV .u64 (zeros 4)) from by rw [hwy26_]; exact Blk.new _ _ _)
         have bel32_ : Below w.heap.size w wy26_ := by rw [hwy26_]; exact (bel12_.alloc bel12_.size (.cells (natsV .u64 (zeros 4)).toArray 24))
         have hHeld3 : wy26_.rangeAt (w.heap.size + 1 + 1 + 1 + 1) 0 (natsV .u64 [b0, b1, b2, b3]) ∧ wy26_.rangeAt (w.heap.size + 1 + 1 + 1) 0 (natsV .u64 [a0, a1, a2, a3]) := by rw [hwy26_]; exact hHeld
         clear hHeld
         have hHeld := hHeld3
         clear hHeld3
         refine world_as_ hwy26_ ?_
         clear hwy26_
         refine wpAnyH_ready (rs := [7]) (by kernel_rfl) (by simp) ?_
         refine AllReadyH.cons (o := _) rfl (fun K hK => ?_) AllReadyH.nil
         go_simp
         go_at_call 88
         refine (HC3.out _).mono ?_
         rintro e wx33_ ⟨rfl, hwx33_⟩
         refine hK.out _ _ (keepR2 hwx33_ hHeld) (fun hHeld2 => ?_)
         clear hK K hHeld
         have hHeld := hHeld2
         clear hHeld2
         try simp only [Act.put, zq]
         have X34_ := Hd (X27_.out.below' hwx33_)
         have X35_ := Hd (X28_.out.below' hwx33_)
         have X36_ := Hd (X29_.out.below' hwx33_)
         have X37_ := Hd (X30_.out.below' hwx33_)
         have X38_ := Hd (Z31_.out.below' hwx33_)
         have bel39_ := bel32_.trans (hwx33_.mono bel32_.size)
         refine th1 8 rfl hHeld ?_
         try simp only [Act.put, zq]
         refine th1 9 rfl hHeld ?_
         try simp only [Act.put, zq]
         refine th1 10 rfl hHeld ?_
         try simp only [Act.put, zq]
         have hne6 := X35_.out.lt
         have hna : (w.heap.size + 1 + 1 + 1 + 1) < (wx7_.heap.size) := by first | assumption | omega
         refine wpAnyH_ready (rs := [12]) (by kernel_rfl) (by simp) ?_
         refine AllReadyH.cons (o := _) rfl (fun K hK => ?_) AllReadyH.nil
         rw [if_pos (by rfl)]
         refine wst24 (.tmp 8) (.tmp 37) rfl (wx7_.heap.size) rfl lm rfl LM.out (zeros 4) X38_.out rfl ?_
         refine hK.out _ _ (⟨blk_rangeV (X35_.out.row (natsV .u64 lm).toArray (show w.heap.size + 1 + 1 + 1 + 1 ≠ (wx7_.heap.size) by omega)), blk_rangeV (X34_.out.row (natsV .u64 lm).toArray (show w.heap.size + 1 + 1 + 1 ≠ (wx7_.heap.size) by omega))⟩) (fun hHeld2 => ?_)
         clear hK K hHeld
         have hHeld := hHeld2
         clear hHeld2
         try simp only [Act.put, zq]
         refine th1 13 rfl hHeld ?_
         try simp only [Act.put, zq]
         refine wpAnyH_done (by kernel_rfl) ?_ _
         go_wp2_with fail
         go_meet
         exact ⟨_, hna, rfl, X38_.out.setRow (natsV .u64 lm), X36_.out.row _ (by omega), X37_.out.row _ (by omega), X34_.out.row _ (by omega), X35_.out.row _ (by omega), below_setRow' bel39_ (by omega) _⟩
     · have hnb11 := X3_.out.lt
       go_simp
       refine hK.out _ _ (keepR2 ((Below.refl _ _).alloc (Nat.le_refl _) _) hHeld) (fun hHeld2 => ?_)
       clear hK K hHeld
       have hHeld := hHeld2
       clear hHeld2
       try simp only [Act.put, zq]
       obtain ⟨wy40_, hwy40_⟩ : ∃ W_ : World, W_ = (wx1_).alloc (.cells (natsV .u64 (zeros 4)).toArray 24) := ⟨_, rfl⟩
       have X41_ := Hd (show Blk wy40_ (w.heap.size + 1 + 1 + 1) 24 (natsV .u64 [a0, a1, a2, a3]) from by rw [hwy40_]; exact X2_.out.alloc (.cells (natsV .u64 (zeros 4)).toArray 24))
       have X42_ := Hd (show Blk wy40_ (w.heap.size + 1 + 1 + 1 + 1) 24 (natsV .u64 [b0, b1, b2, b3]) from by rw [hwy40_]; exact X3_.out.alloc (.cells (natsV .u64 (zeros 4)).toArray 24))
       have X43_ := Hd (show Blk wy40_ (w.heap.size + 1) 103 (natsV .u64 (zeros 8)) from by rw [hwy40_]; exact X4_.out.alloc (.cells (natsV .u64 (zeros 4)).toArray 24))
       have X44_ := Hd (show Blk wy40_ (w.heap.size + 1 + 1) 24 (natsV .u64 (zeros 4)) from by rw [hwy40_]; exact X5_.out.alloc (.cells (natsV .u64 (zeros 4)).toArray 24))
       have Z45_ := Hd (show Blk wy40_ (wx1_.heap.size) 24 (natsV .u64 (zeros 4)) from by rw [hwy40_]; exact Blk.new _ _ _)
       have bel46_ : Below w.heap.size w wy40_ := by rw [hwy40_]; exact (bel6_.alloc bel6_.size (.cells (natsV .u64 (zeros 4)).toArray 24))
       have hHeld3 : wy40_.rangeAt (w.heap.size + 1 + 1 + 1 + 1) 0 (natsV .u64 [b0, b1, b2, b3]) ∧ wy40_.rangeAt (w.heap.size + 1 + 1 + 1) 0 (natsV .u64 [a0, a1, a2, a3]) := by rw [hwy40_]; exact hHeld
       clear hHeld
       have hHeld := hHeld3
       clear hHeld3
       refine world_as_ hwy40_ ?_
       clear hwy40_
       refine wpAnyH_ready (rs := [6]) (by kernel_rfl) (by simp) ?_
       refine AllReadyH.cons (o := _) rfl (fun K hK => ?_) AllReadyH.nil
       go_simp
       go_at_call 93
       refine (HC2.out _).mono ?_
       rintro e wx47_ ⟨rfl, hwx47_⟩
       refine hK.out _ _ (keepR2 hwx47_ hHeld) (fun hHeld2 => ?_)
       clear hK K hHeld
       have hHeld := hHeld2
       clear hHeld2
       try simp only [Act.put, zq]
       have X48_ := Hd (X41_.out.below' hwx47_)
       have X49_ := Hd (X42_.out.below' hwx47_)
       have X50_ := Hd (X43_.out.below' hwx47_)
       have X51_ := Hd (X44_.out.below' hwx47_)
       have X52_ := Hd (Z45_.out.below' hwx47_)
       have bel53_ := bel46_.trans (hwx47_.mono bel46_.size)
       refine wpAnyH_ready (rs := [7]) (by kernel_rfl) (by simp) ?_
       refine AllReadyH.cons (o := _) rfl (fun K hK => ?_) AllReadyH.nil
       go_simp
       go_at_call 88
       refine (HC3.out _).mono ?_
       rintro e wx54_ ⟨rfl, hwx54_⟩
       refine hK.out _ _ (keepR2 hwx54_ hHeld) (fun hHeld2 => ?_)
       clear hK K hHeld
       have hHeld := hHeld2
       clear hHeld2
       try simp only [Act.put, zq]
       have X55_ := Hd (X48_.out.below' hwx54_)
       have X56_ := Hd (X49_.out.below' hwx54_)
       have X57_ := Hd (X50_.out.below' hwx54_)
       have X58_ := Hd (X51_.out.below' hwx54_)
       have X59_ := Hd (X52_.out.below' hwx54_)
       have bel60_ := bel53_.trans (hwx54_.mono bel53_.size)
       refine th1 8 rfl hHeld ?_
       try simp only [Act.put, zq]
       refine th1 9 rfl hHeld ?_
       try simp only [Act.put, zq]
       refine th1 10 rfl hHeld ?_
       try simp only [Act.put, zq]
       have hne6 := X56_.out.lt
       have hna : (w.heap.size + 1 + 1 + 1 + 1) < (wx1_.heap.size) := by first | assumption | omega
       refine wpAnyH_ready (rs := [12]) (by kernel_rfl) (by simp) ?_
       refine AllReadyH.cons (o := _) rfl (fun K hK => ?_) AllReadyH.nil
       rw [if_pos (by rfl)]
       refine wst24 (.tmp 8) (.tmp 37) rfl (wx1_.heap.size) rfl lm rfl LM.out (zeros 4) X59_.out rfl ?_
       refine hK.out _ _ (⟨blk_rangeV (X56_.out.row (natsV .u64 lm).toArray (show w.heap.size + 1 + 1 + 1 + 1 ≠ (wx1_.heap.size) by omega)), blk_rangeV (X55_.out.row (natsV .u64 lm).toArray (show w.heap.size + 1 + 1 + 1 ≠ (wx1_.heap.size) by omega))⟩) (fun hHeld2 => ?_)
       clear hK K hHeld
       have hHeld := hHeld2
       clear hHeld2
       try simp only [Act.put, zq]
       refine th1 13 rfl hHeld ?_
       try simp only [Act.put, zq]
       refine wpAnyH_done (by kernel_rfl) ?_ _
       go_wp2_with fail
       go_meet
       exact ⟨_, hna, rfl, X59_.out.setRow (natsV .u64 lm), X57_.out.row _ (by omega), X58_.out.row _ (by omega), X55_.out.row _ (by omega), X56_.out.row _ (by omega), below_setRow' bel60_ (by omega) _⟩
   · have hnb11 := D5.out.drew.lt
     go_simp
     refine hK.out _ _ (keepR2 ((Below.refl _ _).alloc (Nat.le_refl _) _) hHeld) (fun hHeld2 => ?_)
     clear hK K hHeld
     have hHeld := hHeld2
     clear hHeld2
     try simp only [Act.put, zq]
     obtain ⟨wy61_, hwy61_⟩ : ∃ W_ : World, W_ = (w1.drew).alloc (.cells (natsV .u64 (zeros 4)).toArray 24) := ⟨_, rfl⟩
     have X62_ := Hd (show Blk wy61_ (w.heap.size + 1 + 1 + 1) 24 (natsV .u64 [a0, a1, a2, a3]) from by rw [hwy61_]; exact D4.out.drew.alloc (.cells (natsV .u64 (zeros 4)).toArray 24))
     have X63_ := Hd (show Blk wy61_ (w.heap.size + 1 + 1 + 1 + 1) 24 (natsV .u64 [b0, b1, b2, b3]) from by rw [hwy61_]; exact D5.out.drew.alloc (.cells (natsV .u64 (zeros 4)).toArray 24))
     have X64_ := Hd (show Blk wy61_ (w.heap.size + 1) 103 (natsV .u64 (zeros 8)) from by rw [hwy61_]; exact D2.out.drew.alloc (.cells (natsV .u64 (zeros 4)).toArray 24))
     have X65_ := Hd (show Blk wy61_ (w.heap.size + 1 + 1) 24 (natsV .u64 (zeros 4)) from by rw [hwy61_]; exact D3.out.drew.alloc (.cells (natsV .u64 (zeros 4)).toArray 24))
     have Z66_ := Hd (show Blk wy61_ (w1.drew.heap.size) 24 (natsV .u64 (zeros 4)) from by rw [hwy61_]; exact Blk.new _ _ _)
     have bel67_ : Below w.heap.size w wy61_ := by rw [hwy61_]; exact (BELD.out.drew.alloc BELD.out.drew.size (.cells (natsV .u64 (zeros 4)).toArray 24))
     have hHeld3 : wy61_.rangeAt (w.heap.size + 1 + 1 + 1 + 1) 0 (natsV .u64 [b0, b1, b2, b3]) ∧ wy61_.rangeAt (w.heap.size + 1 + 1 + 1) 0 (natsV .u64 [a0, a1, a2, a3]) := by rw [hwy61_]; exact hHeld
     clear hHeld
     have hHeld := hHeld3
     clear hHeld3
     refine world_as_ hwy61_ ?_
     clear hwy61_
     refine wpAnyH_ready (rs := [2]) (by kernel_rfl) (by simp) ?_
     refine AllReadyH.cons (o := _) rfl (fun K hK => ?_) AllReadyH.nil
     go_simp
     go_at_call 90
     refine (HC1.out _).mono ?_
     rintro e wx68_ ⟨rfl, hwx68_⟩
     refine hK.out _ _ (keepR2 hwx68_ hHeld) (fun hHeld2 => ?_)
     clear hK K hHeld
     have hHeld := hHeld2
     clear hHeld2
     try simp only [Act.put, zq]
     have X69_ := Hd (X62_.out.below' hwx68_)
     have X70_ := Hd (X63_.out.below' hwx68_)
     have X71_ := Hd (X64_.out.below' hwx68_)
     have X72_ := Hd (X65_.out.below' hwx68_)
     have X73_ := Hd (Z66_.out.below' hwx68_)
     have bel74_ := bel67_.trans (hwx68_.mono bel67_.size)
     refine wpAnyH_ready (rs := [6]) (by kernel_rfl) (by simp) ?_
     refine AllReadyH.cons (o := _) rfl (fun K hK => ?_) AllReadyH.nil
     go_simp
     go_at_call 93
     refine (HC2.out _).mono ?_
     rintro e wx75_ ⟨rfl, hwx75_⟩
     refine hK.out _ _ (keepR2 hwx75_ hHeld) (fun hHeld2 => ?_)
     clear hK K hHeld
     have hHeld := hHeld2
     clear hHeld2
     try simp only [Act.put, zq]
     have X76_ := Hd (X69_.out.below' hwx75_)
     have X77_ := Hd (X70_.out.below' hwx75_)
     have X78_ := Hd (X71_.out.below' hwx75_)
     have X79_ := Hd (X72_.out.below' hwx75_)
     have X80_ := Hd (X73_.out.below' hwx75_)
     have bel81_ := bel74_.trans (hwx75_.mono bel74_.size)
     refine wpAnyH_ready (rs := [7]) (by kernel_rfl) (by simp) ?_
     refine AllReadyH.cons (o := _) rfl (fun K hK => ?_) AllReadyH.nil
     go_simp
     go_at_call 88
     refine (HC3.out _).mono ?_
     rintro e wx82_ ⟨rfl, hwx82_⟩
     refine hK.out _ _ (keepR2 hwx82_ hHeld) (fun hHeld2 => ?_)
     clear hK K hHeld
     have hHeld := hHeld2
     clear hHeld2
     try simp only [Act.put, zq]
     have X83_ := Hd (X76_.out.below' hwx82_)
     have X84_ := Hd (X77_.out.below' hwx82_)
     have X85_ := Hd (X78_.out.below' hwx82_)
     have X86_ := Hd (X79_.out.below' hwx82_)
     have X87_ := Hd (X80_.out.below' hwx82_)
     have bel88_ := bel81_.trans (hwx82_.mono bel81_.size)
     refine th1 8 rfl hHeld ?_
     try simp only [Act.put, zq]
     refine th1 9 rfl hHeld ?_
     try simp only [Act.put, zq]
     refine th1 10 rfl hHeld ?_
     try simp only [Act.put, zq]
     have hne6 := X84_.out.lt
     have hna : (w.heap.size + 1 + 1 + 1 + 1) < (w1.drew.heap.size) := by first | assumption | omega
     refine wpAnyH_ready (rs := [12]) (by kernel_rfl) (by simp) ?_
     refine AllReadyH.cons (o := _) rfl (fun K hK => ?_) AllReadyH.nil
     rw [if_pos (by rfl)]
     refine wst24 (.tmp 8) (.tmp 37) rfl (w1.drew.heap.size) rfl lm rfl LM.out (zeros 4) X87_.out rfl ?_
     refine hK.out _ _ (⟨blk_rangeV (X84_.out.row (natsV .u64 lm).toArray (show w.heap.size + 1 + 1 + 1 + 1 ≠ (w1.drew.heap.size) by omega)), blk_rangeV (X83_.out.row (natsV .u64 lm).toArray (show w.heap.size + 1 + 1 + 1 ≠ (w1.drew.heap.size) by omega))⟩) (fun hHeld2 => ?_)
     clear hK K hHeld
     have hHeld := hHeld2
     clear hHeld2
     try simp only [Act.put, zq]
     refine th1 13 rfl hHeld ?_
     try simp only [Act.put, zq]
     refine wpAnyH_done (by kernel_rfl) ?_ _
     go_wp2_with fail
     go_meet
     exact ⟨_, hna, rfl, X87_.out.setRow (natsV .u64 lm), X85_.out.row _ (by omega), X86_.out.row _ (by omega), X83_.out.row _ (by omega), X84_.out.row _ (by omega), below_setRow' bel88_ (by omega) _⟩
 case rest =>
   obtain ⟨g, hg4, rfl, k1, k2, k3, k4, k5, hbel⟩ := hcut
   have K1 := Hd k1
   have K2 := Hd k2
   have K3 := Hd k3
   have K4 := Hd k4
   have K5 := Hd k5
   clear k1 k2 k3 k4 k5
   go_wp2_with fail
   refine wp_region_held_drew (S := (fun w' => w'.rangeAt (w.heap.size + 1 + 1 + 1) 0 (natsV .u64 [a0, a1, a2, a3]) ∧ w'.rangeAt g 0 (natsV .u64 lm) ∧ w'.rangeAt (w.heap.size + 1 + 1 + 1 + 1) 0 (natsV .u64 [b0, b1, b2, b3]))) (by kernel_rfl) ⟨blk_rangeV K4.out.drew, blk_rangeV K1.out.drew, blk_rangeV K5.out.drew⟩ (fun hHeld => ?_)
   refine th0 0 rfl (yieldsIf_load_mid (by rfl) _ _ rfl _ _ rfl _ _ (by intro w hSw; exact hSw.1) Try.underlying24 rfl i25L) hHeld ?_
   try simp only [Act.put, zq]
   refine th1 1 rfl hHeld ?_
   try simp only [Act.put, zq]
   refine th0 3 rfl (yieldsIf_load_mid (by rfl) _ _ rfl _ _ rfl _ _ (by intro w hSw; exact hSw.2.1) Try.underlying24 rfl i25M) hHeld ?_
   try simp only [Act.put, zq]
   refine th0 5 rfl (yieldsIf_load_mid (by rfl) _ _ rfl _ _ rfl _ _ (by intro w hSw; exact hSw.2.2) Try.underlying24 rfl i25U) hHeld ?_
   try simp only [Act.put, zq]
   refine th1 6 rfl hHeld ?_
   try simp only [Act.put, zq]
   refine th1 7 rfl hHeld ?_
   try simp only [Act.put, zq]
   refine wpAnyH_ready (rs := [2]) (by kernel_rfl) (by simp) ?_
   refine AllReadyH.cons (o := _) rfl (fun K hK => ?_) AllReadyH.nil
   go_simp
   go_at_call 90
   refine (HC4.out _).mono ?_
   rintro e wx1_ ⟨rfl, hwx1_⟩
   refine hK.out _ _ (keepR3 hwx1_ hHeld) (fun hHeld2 => ?_)
   clear hK K hHeld
   have hHeld := hHeld2
   clear hHeld2
   try simp only [Act.put, zq]
   have X2_ := Hd (K4.out.drew.below' hwx1_)
   have X3_ := Hd (K1.out.drew.below' hwx1_)
   have X4_ := Hd (K5.out.drew.below' hwx1_)
   have X5_ := Hd (K2.out.drew.below' hwx1_)
   have X6_ := Hd (K3.out.drew.below' hwx1_)
   have bel7_ := hbel.drew.trans (hwx1_.mono hbel.drew.size)
   refine wpAnyH_ready (rs := [4]) (by kernel_rfl) (by simp) ?_
   refine AllReadyH.cons (o := _) rfl (fun K hK => ?_) AllReadyH.nil
   go_simp
   go_at_call 97
   refine (HC5.out _).mono ?_
   rintro e wx8_ ⟨rfl, hwx8_⟩
   refine hK.out _ _ (keepR3 hwx8_ hHeld) (fun hHeld2 => ?_)
   clear hK K hHeld
   have hHeld := hHeld2
   clear hHeld2
   try simp only [Act.put, zq]
   have X9_ := Hd (X2_.out.below' hwx8_)
   have X10_ := Hd (X3_.out.below' hwx8_)
   have X11_ := Hd (X4_.out.below' hwx8_)
   have X12_ := Hd (X5_.out.below' hwx8_)
   have X13_ := Hd (X6_.out.below' hwx8_)
   have bel14_ := bel7_.trans (hwx8_.mono bel7_.size)
   refine wpAnyH_ready (rs := [8]) (by kernel_rfl) (by simp) ?_
   refine AllReadyH.cons (o := _) rfl (fun K hK => ?_) AllReadyH.nil
   go_simp
   go_at_call 93
   refine (HC6.out _).mono ?_
   rintro e wx15_ ⟨rfl, hwx15_⟩
   refine hK.out _ _ (keepR3 hwx15_ hHeld) (fun hHeld2 => ?_)
   clear hK K hHeld
   have hHeld := hHeld2
   clear hHeld2
   try simp only [Act.put, zq]
   have X16_ := Hd (X9_.out.below' hwx15_)
   have X17_ := Hd (X10_.out.below' hwx15_)
   have X18_ := Hd (X11_.out.below' hwx15_)
   have X19_ := Hd (X12_.out.below' hwx15_)
   have X20_ := Hd (X13_.out.below' hwx15_)
   have bel21_ := bel14_.trans (hwx15_.mono bel14_.size)
   refine wpAnyH_ready (rs := [9]) (by kernel_rfl) (by simp) ?_
   refine AllReadyH.cons (o := _) rfl (fun K hK => ?_) AllReadyH.nil
   rw [if_pos (by rfl)]
   refine wst26 (.tmp 4) (.tmp 43) rfl (w.heap.size + 1) rfl lj rfl LJ.out (zeros 8) X19_.out rfl ?_
   refine hK.out _ _ (⟨blk_rangeV (X16_.out.row (natsV .u64 lj).toArray (show w.heap.size + 1 + 1 + 1 ≠ (w.heap.size + 1) by omega)), blk_rangeV (X17_.out.row (natsV .u64 lj).toArray (show g ≠ (w.heap.size + 1) by omega)), blk_rangeV (X18_.out.row (natsV .u64 lj).toArray (show w.heap.size + 1 + 1 + 1 + 1 ≠ (w.heap.size + 1) by omega))⟩) (fun hHeld2 => ?_)
   clear hK K hHeld
   have hHeld := hHeld2
   clear hHeld2
   try simp only [Act.put, zq]
   have F6 := Hd (X16_.out.row (natsV .u64 lj).toArray (show w.heap.size + 1 + 1 + 1 ≠ w.heap.size + 1 by omega))
   have F8 := Hd (X17_.out.row (natsV .u64 lj).toArray (show g ≠ w.heap.size + 1 by omega))
   have F7 := Hd (X18_.out.row (natsV .u64 lj).toArray (show w.heap.size + 1 + 1 + 1 + 1 ≠ w.heap.size + 1 by omega))
   have F5 := Hd (X20_.out.row (natsV .u64 lj).toArray (show w.heap.size + 1 + 1 ≠ w.heap.size + 1 by omega))
   have F4 := Hd (X19_.out.setRow (natsV .u64 lj))
   have belF := below_setRow' bel21_ (show w.heap.size ≤ w.heap.size + 1 by omega) (natsV .u64 lj).toArray
   refine wpAnyH_ready (rs := [10]) (by kernel_rfl) (by simp) ?_
   refine AllReadyH.cons (o := _) rfl (fun K hK => ?_) AllReadyH.nil
   rw [if_pos (by rfl)]
   refine wst24 (.tmp 5) (.tmp 47) rfl (w.heap.size + 1 + 1) rfl lD rfl LDD.out (zeros 4) F5.out rfl ?_
   refine hK.out _ _ (⟨blk_rangeV (F6.out.row (natsV .u64 lD).toArray (show w.heap.size + 1 + 1 + 1 ≠ (w.heap.size + 1 + 1) by omega)), blk_rangeV (F8.out.row (natsV .u64 lD).toArray (show g ≠ (w.heap.size + 1 + 1) by omega)), blk_rangeV (F7.out.row (natsV .u64 lD).toArray (show w.heap.size + 1 + 1 + 1 + 1 ≠ (w.heap.size + 1 + 1) by omega))⟩) (fun hHeld2 => ?_)
   clear hK K hHeld
   have hHeld := hHeld2
   clear hHeld2
   try simp only [Act.put, zq]
   refine wpAnyH_done (by kernel_rfl) ?_ _
   have j5 := F5.out.setRow (natsV .u64 lD)
   have j4 := F4.out.row (natsV .u64 lD).toArray (show w.heap.size + 1 ≠ w.heap.size + 1 + 1 by omega)
   have hb2 := below_setRow' belF (show w.heap.size ≤ w.heap.size + 1 + 1 by omega) (natsV .u64 lD).toArray
   go_wp2_with fail
   refine bodyPost_ret (v := .tuple #[.agg (natsV .u64 lj).toArray, .agg (natsV .u64 lD).toArray]) ?_ rfl ⟨rfl, hb2⟩
   exact results_cells Try.results91 _ _ (w.heap.size + 1) (w.heap.size + 1 + 1) 103 24 _ _ (0, 0) (0, 0) _ _ rfl rfl j4 j5 Try.underlying103 rfl (by rw [info26, size_nats, LJ.out]) Try.underlying24 rfl (by rw [info24, size_nats, LDD.out])
end Go.Proofs.Ytdkkombpkojjaaa
