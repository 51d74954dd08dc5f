/- Parts of proofs of statements, each text behind those that it stands on. No condition of its own. -/
import Derived.Test.YtdkkombpkojjaaaD26
import Derived.Test.YtdkkombpkojjaaaD27
import Derived.Test.YtdkkombpkojjaaaD28
import Derived.Test.YtdkkombpkojjaaaD29
namespace Go.Proofs.Ytdkkombpkojjaaa
set_option maxRecDepth 100000
set_option maxHeartbeats 3200000
open Go.RowKit
set_option linter.unusedVariables false
set_option linter.unusedSimpArgs false
theorem whole_ok {lx ly : List Nat} {b o c : Nat} (w : World) (hlx : lx.length = 4) (hly : ly.length = 4)
   (h64 : 64 ≤ c)
   (hcm : c ≤ maxLen)
   (c1 : ∀ W, Below w.heap.size w W → Calls Try.prog 48 #[.slice (some ⟨b, o, none⟩) 32 (c)] W fun e w' => e = .returned (.tuple #[.agg (natsV .u64 lx).toArray, .int .i64 0]) ∧ Below W.heap.size W w')
   (c2 : ∀ W, Below w.heap.size w W → Calls Try.prog 48 #[.slice (some ⟨b, o + 32, none⟩) 32 (c - 32)] W fun e w' => e = .returned (.tuple #[.agg (natsV .u64 ly).toArray, .int .i64 0]) ∧ Below W.heap.size W w')
   (c3 : Ans 21 #[.agg (pv lx ly false).toArray] (.bool true)) :
   Calls Try.prog 77 #[.slice (some ⟨b, o, none⟩) 64 (c)] w fun e w' => e = .returned (.tuple #[.agg (pv lx ly false).toArray, .int .i64 0]) ∧ Below w.heap.size w w' := by
 have L_lx := Hd hlx
 have L_ly := Hd hly
 have Hc1 := Hd c1
 have Hc2 := Hd c2
 have Hc3 := Hd c3
 clear hlx hly c1 c2 c3
 unfold maxLen at hcm
 have h32 : ¬ (c = 32) := by omega
 have B0_ := Hd (Blk.new w  32 (pv (zeros 4) (zeros 4) false))
 have bel_ := ((Below.refl w.heap.size w).alloc (Nat.le_refl _) (.cells (pv (zeros 4) (zeros 4) false).toArray 32))
 go_enter Try.func77, Try.ntmps77
 go_wp2_with fail
 refine (Hc1.out _ bel_).mono ?_
 rintro e w1 ⟨rfl, hbw1⟩
 have C2 := gq' B0_ hbw1
 have hbel3 := bel_.trans (Below.mono hbw1 bel_.size)
 clear B0_ bel_ hbw1
 go_wp2_with (first | (refine stN rfl 24 (.tmp 4) (.tmp 13) rfl w1 rfl (natsV .u64 lx) rfl 24 (natsV .u64 (zeros 4)) (i24 L_lx.out) (lz4 L_lx.out) n1' ?_; intro w4 hgw4 hnw4; have C7 := gq' C2 hgw4; clear C2; have hbel8 := hbel3.trans (Below.mono hgw4 hbel3.size); clear hbel3; have D6 := Hd hnw4; clear hnw4 hgw4; generalize w1.heap.size = G5 at *))
 refine (Hc2.out _ hbel8).mono ?_
 rintro e w9 ⟨rfl, hbw9⟩
 have C10 := gq' C7 hbw9
 have C11 := gq' D6 hbw9
 have hbel12 := hbel8.trans (Below.mono hbw9 hbel8.size)
 clear C7 D6 hbel8 hbw9
 go_upto_region 3 with (first | (refine stN rfl 24 (.tmp 6) (.tmp 19) rfl w9 rfl (natsV .u64 ly) rfl 24 (natsV .u64 (zeros 4)) (i24 L_ly.out) (lz4 L_ly.out) n1' ?_; intro w13 hgw13 hnw13; have C16 := gq' C10 hgw13; clear C10; have C17 := gq' C11 hgw13; clear C11; have hbel18 := hbel12.trans (Below.mono hgw13 hbel12.size); clear hbel12; have D15 := Hd hnw13; clear hnw13 hgw13; generalize w9.heap.size = G14 at *))
 try simp only [Act.put, zq]
 as_aux_lemma =>
 refine wp_region_P (fun w_ => Blk w_ G5 24 (natsV .u64 lx) ∧ Blk w_ G14 24 (natsV .u64 ly)) 4 (by kernel_rfl) ⟨C17.out, D15.out⟩ ?_
 refine tk gS2 0 rfl (lg' (fun _ hS_ => blk_all (hS_.1)) Try.underlying24 (i24 L_lx.out)) ?_
 try simp only [Act.put, zq]
 refine tk gS2 1 rfl (lg' (fun _ hS_ => blk_all (hS_.2)) Try.underlying24 (i24 L_ly.out)) ?_
 try simp only [Act.put, zq]
 refine tk gS2 2 rfl (buildG (by rfl) _ _ rfl _ (built43 L_lx.out L_ly.out) (by simp [Act.eval])) ?_
 try simp only [Act.put, zq]
 refine wpAnyG_def (i := 3) (j := 4) gS2 (by kernel_rfl) (by kernel_rfl) (by kernel_rfl) rfl rfl rfl (allocG (by rfl) rfl _ alloc43) (lenEq pz9 (pv_len L_lx.out L_ly.out)) (fun _ => StoresG.mk (cs := (pv lx ly false)) (by rfl) 32 _ _ rfl rfl rfl (i43 L_lx.out L_ly.out) p1_) ?_
 intro w19 G20 hgw19 hz_ hn_
 try simp only [Act.put, zq]
 have C21 := gq' C16 hgw19
 have C22 := gq' C17 hgw19
 have C23 := gq' D15 hgw19
 have hbel24 := hbel18.trans (Below.mono hgw19 hbel18.size)
 have D25 := Hd hn_
 clear C16 C17 D15 hbel18 hn_ hz_ hgw19
 as_aux_lemma =>
 go_wp2_with (first | (refine lm' (blk_all (D25.out)) Try.underlying32 (i43 L_lx.out L_ly.out) ?_))
 refine (Hc3.out _).mono ?_
 rintro e w26 ⟨rfl, hbw26⟩
 have C27 := gq' C21 hbw26
 have C28 := gq' C22 hbw26
 have C29 := gq' C23 hbw26
 have C30 := gq' D25 hbw26
 have hbel31 := hbel24.trans (Below.mono hbw26 hbel24.size)
 clear C21 C22 C23 D25 hbel24 hbw26
 go_wp2_with (first | (refine lm' (blk_all (C30.out)) Try.underlying32 (i43 L_lx.out L_ly.out) ?_) | (refine stB rfl 32 (.tmp 2) (.tmp 28) rfl w.heap.size rfl (pv lx ly false) rfl 32 (pv (zeros 4) (zeros 4) false) C27.out (i43 L_lx.out L_ly.out) (lenEq pz9 (pv_len L_lx.out L_ly.out)) p1_ ?_))
 refine bodyPost_ret (v := .tuple #[.agg (pv lx ly false).toArray, .int .i64 0]) ?_ rfl ⟨rfl, below_setRow' hbel31 (by first | exact Nat.le_refl _ | omega) _⟩
 exact results_two Try.results77 _ _ w.heap.size 32 _ (0, 0) _ _ rfl rfl (C27.out.setRow _) Try.underlying32 rfl (by simpa using (i43 L_lx.out L_ly.out))
theorem whole_no {lx ly : List Nat} {b o c : Nat} (w : World) (hlx : lx.length = 4) (hly : ly.length = 4)
   (h64 : 64 ≤ c)
   (hcm : c ≤ maxLen)
   (c1 : ∀ W, Below w.heap.size w W → Calls Try.prog 48 #[.slice (some ⟨b, o, none⟩) 32 (c)] W fun e w' => e = .returned (.tuple #[.agg (natsV .u64 lx).toArray, .int .i64 0]) ∧ Below W.heap.size W w')
   (c2 : ∀ W, Below w.heap.size w W → Calls Try.prog 48 #[.slice (some ⟨b, o + 32, none⟩) 32 (c - 32)] W fun e w' => e = .returned (.tuple #[.agg (natsV .u64 ly).toArray, .int .i64 0]) ∧ Below W.heap.size W w')
   (c3 : Ans 21 #[.agg (pv lx ly false).toArray] (.bool false)) :
   Calls Try.prog 77 #[.slice (some ⟨b, o, none⟩) 64 (c)] w fun e w' => e = .returned (.tuple #[.agg (pv (zeros 4) (zeros 4) false).toArray, .int .i64 62]) ∧ Below w.heap.size w w' := by
 have L_lx := Hd hlx
 have L_ly := Hd hly
 have Hc1 := Hd c1
 have Hc2 := Hd c2
 have Hc3 := Hd c3
 clear hlx hly c1 c2 c3
 unfold maxLen at hcm
 have h32 : ¬ (c = 32) := by omega
 have B0_ := Hd (Blk.new w  32 (pv (zeros 4) (zeros 4) false))
 have bel_ := ((Below.refl w.heap.size w).alloc (Nat.le_refl _) (.cells (pv (zeros 4) (zeros 4) false).toArray 32))
 go_enter Try.func77, Try.ntmps77
 go_wp2_with fail
 refine (Hc1.out _ bel_).mono ?_
 rintro e w1 ⟨rfl, hbw1⟩
 have C2 := gq' B0_ hbw1
 have hbel3 := bel_.trans (Below.mono hbw1 bel_.size)
 clear B0_ bel_ hbw1
 go_wp2_with (first | (refine stN rfl 24 (.tmp 4) (.tmp 13) rfl w1 rfl (natsV .u64 lx) rfl 24 (natsV .u64 (zeros 4)) (i24 L_lx.out) (lz4 L_lx.out) n1' ?_; intro w4 hgw4 hnw4; have C7 := gq' C2 hgw4; clear C2; have hbel8 := hbel3.trans (Below.mono hgw4 hbel3.size); clear hbel3; have D6 := Hd hnw4; clear hnw4 hgw4; generalize w1.heap.size = G5 at *))
 refine (Hc2.out _ hbel8).mono ?_
 rintro e w9 ⟨rfl, hbw9⟩
 have C10 := gq' C7 hbw9
 have C11 := gq' D6 hbw9
 have hbel12 := hbel8.trans (Below.mono hbw9 hbel8.size)
 clear C7 D6 hbel8 hbw9
 go_upto_region 3 with (first | (refine stN rfl 24 (.tmp 6) (.tmp 19) rfl w9 rfl (natsV .u64 ly) rfl 24 (natsV .u64 (zeros 4)) (i24 L_ly.out) (lz4 L_ly.out) n1' ?_; intro w13 hgw13 hnw13; have C16 := gq' C10 hgw13; clear C10; have C17 := gq' C11 hgw13; clear C11; have hbel18 := hbel12.trans (Below.mono hgw13 hbel12.size); clear hbel12; have D15 := Hd hnw13; clear hnw13 hgw13; generalize w9.heap.size = G14 at *))
 try simp only [Act.put, zq]
 as_aux_lemma =>
 refine wp_region_P (fun w_ => Blk w_ G5 24 (natsV .u64 lx) ∧ Blk w_ G14 24 (natsV .u64 ly)) 4 (by kernel_rfl) ⟨C17.out, D15.out⟩ ?_
 refine tk gS2 0 rfl (lg' (fun _ hS_ => blk_all (hS_.1)) Try.underlying24 (i24 L_lx.out)) ?_
 try simp only [Act.put, zq]
 refine tk gS2 1 rfl (lg' (fun _ hS_ => blk_all (hS_.2)) Try.underlying24 (i24 L_ly.out)) ?_
 try simp only [Act.put, zq]
 refine tk gS2 2 rfl (buildG (by rfl) _ _ rfl _ (built43 L_lx.out L_ly.out) (by simp [Act.eval])) ?_
 try simp only [Act.put, zq]
 refine wpAnyG_def (i := 3) (j := 4) gS2 (by kernel_rfl) (by kernel_rfl) (by kernel_rfl) rfl rfl rfl (allocG (by rfl) rfl _ alloc43) (lenEq pz9 (pv_len L_lx.out L_ly.out)) (fun _ => StoresG.mk (cs := (pv lx ly false)) (by rfl) 32 _ _ rfl rfl rfl (i43 L_lx.out L_ly.out) p1_) ?_
 intro w19 G20 hgw19 hz_ hn_
 try simp only [Act.put, zq]
 have C21 := gq' C16 hgw19
 have C22 := gq' C17 hgw19
 have C23 := gq' D15 hgw19
 have hbel24 := hbel18.trans (Below.mono hgw19 hbel18.size)
 have D25 := Hd hn_
 clear C16 C17 D15 hbel18 hn_ hz_ hgw19
 as_aux_lemma =>
 go_wp2_with (first | (refine lm' (blk_all (D25.out)) Try.underlying32 (i43 L_lx.out L_ly.out) ?_))
 refine (Hc3.out _).mono ?_
 rintro e w26 ⟨rfl, hbw26⟩
 have C27 := gq' C21 hbw26
 have C28 := gq' C22 hbw26
 have C29 := gq' C23 hbw26
 have C30 := gq' D25 hbw26
 have hbel31 := hbel24.trans (Below.mono hbw26 hbel24.size)
 clear C21 C22 C23 D25 hbel24 hbw26
 go_wp2_with (first | (refine stB rfl 32 (.tmp 2) (.tmp 27) rfl w.heap.size rfl (pv (zeros 4) (zeros 4) false) rfl 32 (pv (zeros 4) (zeros 4) false) C27.out (i43 rfl rfl) (lenEq pz9 pz9) p1_ ?_))
 refine bodyPost_ret (v := .tuple #[.agg (pv (zeros 4) (zeros 4) false).toArray, .int .i64 62]) ?_ rfl ⟨rfl, below_setRow' hbel31 (by first | exact Nat.le_refl _ | omega) _⟩
 exact results_two Try.results77 _ _ w.heap.size 32 _ (0, 0) _ _ rfl rfl (C27.out.setRow _) Try.underlying32 rfl (by simpa using (i43 rfl rfl))
theorem dec_whole {lx ly : List Nat} {b o c : Nat} {ee : Int} {l : List Nat} (w : World) (hlx : lx.length = 4) (hly : ly.length = 4)
   (hB : BIn w (some ⟨b, o, none⟩) 65 c l)
   (h0 : l.getD 0 0 = 4)
   (c1 : ∀ W, Below w.heap.size w W → Calls Try.prog 77 #[.slice (some ⟨b, o + 1, none⟩) 64 (c - 1)] W fun e w' => e = .returned (.tuple #[.agg (pv lx ly false).toArray, .int .i64 ee]) ∧ Below W.heap.size W w') :
   Calls Try.prog 55 #[.slice (some ⟨b, o, none⟩) 65 c] w fun e w' => e = .returned (.tuple #[.agg (pv lx ly false).toArray, .int .i64 ee]) ∧ Below w.heap.size w w' := by
 have L_lx := Hd hlx
 have L_ly := Hd hly
 have Hc1 := Hd c1
 have hc1 := hB.2.1
 have hc2 := hB.2.2.1
 clear hlx hly c1
 unfold maxLen at hc2
 have h1c : ¬ (c = 1) := by omega
 have cB := Hd (fun (W : World) (h : Below w.heap.size w W) => bin_cell hB h 0 (by decide))
 clear hB
 rw [h0] at cB
 have B0_ := Hd (Blk.new w  32 (pv (zeros 4) (zeros 4) false))
 have bel_ := ((Below.refl w.heap.size w).alloc (Nat.le_refl _) (.cells (pv (zeros 4) (zeros 4) false).toArray 32))
 clear h0
 go_enter Try.func55, Try.ntmps55
 have c0 : (w.alloc (.cells #[.int .u64 0, .int .u64 0, .int .u64 0, .int .u64 0, .int .u64 0, .int .u64 0, .int .u64 0, .int .u64 0, .bool false] 32)).cell? ⟨b, o, none⟩ = some (.int .u8 4) := cB.out _ bel_
 go_wp2_with fail
 refine (Hc1.out _ bel_).mono ?_
 rintro e w1 ⟨rfl, hbw1⟩
 have C2 := gq' B0_ hbw1
 have hbel3 := bel_.trans (Below.mono hbw1 bel_.size)
 clear B0_ bel_ hbw1
 go_wp2_with (first | (refine stB rfl 32 (.tmp 2) (.tmp 17) rfl w.heap.size rfl (pv lx ly false) rfl 32 (pv (zeros 4) (zeros 4) false) C2.out (i43 L_lx.out L_ly.out) (lenEq pz9 (pv_len L_lx.out L_ly.out)) p1_ ?_))
 refine bodyPost_ret (v := .tuple #[.agg (pv lx ly false).toArray, .int .i64 ee]) ?_ rfl ⟨rfl, below_setRow' hbel3 (by first | exact Nat.le_refl _ | omega) _⟩
 exact results_two Try.results55 _ _ w.heap.size 32 _ (0, 0) _ _ rfl rfl (C2.out.setRow _) Try.underlying32 rfl (by simpa using (i43 L_lx.out L_ly.out))
theorem dec_form_b {b o c x : Nat} {l : List Nat} (w : World) 
   (hB : BIn w (some ⟨b, o, none⟩) 65 c l)
   (h0 : l.getD 0 0 = x)
   (h1 : x ≠ 4) :
   Calls Try.prog 55 #[.slice (some ⟨b, o, none⟩) 65 c] w fun e w' => e = .returned (.tuple #[.agg (pv (zeros 4) (zeros 4) false).toArray, .int .i64 61]) ∧ Below w.heap.size w w' := by
 have cB := Hd (fun (W : World) (h : Below w.heap.size w W) => bin_cell hB h 0 (by decide))
 clear hB
 rw [h0] at cB
 clear h0
 have e1 : ((x : Int) == 4) = false := by rw [beq_eq_false_iff_ne]; omega
 have B0_ := Hd (Blk.new w  32 (pv (zeros 4) (zeros 4) false))
 have bel_ := ((Below.refl w.heap.size w).alloc (Nat.le_refl _) (.cells (pv (zeros 4) (zeros 4) false).toArray 32))
 clear h1
 go_enter Try.func55, Try.ntmps55
 have c0 : (w.alloc (.cells #[.int .u64 0, .int .u64 0, .int .u64 0, .int .u64 0, .int .u64 0, .int .u64 0, .int .u64 0, .int .u64 0, .bool false] 32)).cell? ⟨b, o, none⟩ = some (.int .u8 (x : Nat)) := cB.out _ bel_
 go_wp2_with (first | (refine stB rfl 32 (.tmp 2) (.tmp 44) rfl w.heap.size rfl (pv (zeros 4) (zeros 4) false) rfl 32 (pv (zeros 4) (zeros 4) false) B0_.out (i43 rfl rfl) (lenEq pz9 pz9) p1_ ?_))
 refine bodyPost_ret (v := .tuple #[.agg (pv (zeros 4) (zeros 4) false).toArray, .int .i64 61]) ?_ rfl ⟨rfl, below_setRow' bel_ (by first | exact Nat.le_refl _ | omega) _⟩
 exact results_two Try.results55 _ _ w.heap.size 32 _ (0, 0) _ _ rfl rfl (B0_.out.setRow _) Try.underlying32 rfl (by simpa using (i43 rfl rfl))
def keyX (l : List Nat) : Nat := be ((l.drop 1).take 32)
def keyY (l : List Nat) : Nat := be ((l.drop 33).take 32)
def dec65 (l : List Nat) : List Nat × List Nat × Int := if l.getD 0 0 = 4 then (if onB (keyX l) (keyY l) false = true then (wds 4 (keyX l), wds 4 (keyY l), 0) else (zeros 4, zeros 4, 62)) else (zeros 4, zeros 4, 61)
theorem be32_lt {w : World} {A : Option Addr} {c : Nat} {l : List Nat} (h : BIn w A 32 c l) : be l < 2 ^ 256 := by
 have h1 := be_lt l h.1.2.2.1
 rw [h.1.1] at h1
 exact h1
theorem fv_small {r : Nat} (h : r < mP) : (fv r).val = r := by rw [fv_val, Nat.mod_eq_of_lt h]
theorem k_part {w : World} {b o n c f : Nat} {l : List Nat} (hB : BIn w (some ⟨b, o, none⟩) n c l) (hn : 0 < n) (hf : f + 32 ≤ n) (W : World) (hW : Below w.heap.size w W) :
   Calls Try.prog 48 #[.slice (some ⟨b, o + f, none⟩) 32 (c - f)] W fun e w' => e = .returned (.tuple #[.agg (natsV .u64 (wds 4 (be ((l.drop f).take 32)))).toArray, .int .i64 0]) ∧ Below W.heap.size W w' :=
 Of_any (some ⟨b, o + f, none⟩) 32 (c - f) _ W (by omega) (bin_sub (hB.below hW) hn hf)
theorem k_dec65 {w : World} {A : Option Addr} {c : Nat} {l : List Nat} (hB : BIn w A 65 c l) :
   Calls Try.prog 55 #[.slice A 65 c] w fun e w' => e = .returned (.tuple #[.agg (pv (dec65 l).1 (dec65 l).2.1 false).toArray, .int .i64 (dec65 l).2.2]) ∧ Below w.heap.size w w' := by
 obtain ⟨b, o, rfl, _⟩ := hB.1.2.2.2.resolve_left (by omega)
 unfold dec65
 by_cases h0 : l.getD 0 0 = 4
 · have hc := hB.2.1
   have hcm := hB.2.2.1
   have e3 : o + 33 = o + 1 + 32 := by omega
   have e4 : c - 33 = c - 1 - 32 := by omega
   have p1 := k_part hB (by omega) (f := 1) (by omega)
   have p2 := k_part hB (by omega) (f := 33) (by omega)
   have x1 : keyX l < 2 ^ 256 := be32_lt (bin_sub hB (by omega) (f := 1) (s := 32) (by omega))
   have x2 : keyY l < 2 ^ 256 := be32_lt (bin_sub hB (by omega) (f := 33) (s := 32) (by omega))
   rw [e3, e4] at p2
   rw [if_pos h0]
   have ho := k_on (keyX l) (keyY l) false x1 x2
   by_cases hon : onB (keyX l) (keyY l) false = true
   · rw [if_pos hon]
     rw [hon] at ho
     exact dec_whole w (wds_len 4 _) (wds_len 4 _) hB h0 (fun W hW => whole_ok W (wds_len 4 _) (wds_len 4 _) (by omega) (by omega) (fun V hV => p1 V (gr_bel hW hV)) (fun V hV => p2 V (gr_bel hW hV)) ho)
   · rw [if_neg hon]
     rw [Bool.eq_false_iff.2 hon] at ho
     exact dec_whole w rfl rfl hB h0 (fun W hW => whole_no W (wds_len 4 _) (wds_len 4 _) (by omega) (by omega) (fun V hV => p1 V (gr_bel hW hV)) (fun V hV => p2 V (gr_bel hW hV)) ho)
 · rw [if_neg h0]
   exact dec_form_b w hB rfl h0
def scE (n : Nat) (l : List Nat) : Nat := be (zeros (32 - min n 32) ++ l.take (min n 32)) % mN
theorem scE_lt (n : Nat) (l : List Nat) : scE n l < mN := Nat.mod_lt _ mNpos
theorem scE_256 (n : Nat) (l : List Nat) : scE n l < 2 ^ 256 := Nat.lt_trans (scE_lt n l) mN256
theorem zt_len {n c : Nat} {A : Option Addr} {w : World} {l : List Nat} (hB : BIn w A n c l) : (zeros (32 - min n 32) ++ l.take (min n 32)).length = 32 := by
 rw [List.length_append, List.length_take, hB.1.1]; simp [zeros]; omega
theorem zt_lt {n c : Nat} {A : Option Addr} {w : World} {l : List Nat} (hB : BIn w A n c l) : ∀ x ∈ zeros (32 - min n 32) ++ l.take (min n 32), x < 256 := fun x hx => by
 rcases List.mem_append.1 hx with h | h
 · rw [List.eq_of_mem_replicate h]; decide
 · exact hB.1.2.2.1 x (List.mem_of_mem_take h)
theorem k_scalar {w : World} {A : Option Addr} {n c : Nat} {l : List Nat} (hB : BIn w A n c l) :
   Calls Try.prog 11 #[.slice A n c] w fun e w' => e = .returned (.agg (natsV .u64 (wds 4 (scE n l))).toArray) ∧ Below w.heap.size w w' := by
 have c1 := s_number (zt_len hB) (zt_lt hB)
 have c2 := s_mod _ (be_256 (zt_len hB) (zt_lt hB))
 unfold scE
 by_cases h : n ≤ 32
 · rw [Nat.min_eq_left h] at c1 c2 ⊢
   by_cases h0 : n = 0
   · exact wscal_lez w (wds_len 4 _) (wds_len 4 _) hB ⟨rfl, h⟩ (by omega) h0 c1 c2
   · exact wscal_le w (wds_len 4 _) (wds_len 4 _) hB ⟨rfl, h⟩ (by omega) (by omega) c1 c2
 · rw [Nat.min_eq_right (by omega)] at c1 c2 ⊢
   exact wscal_gt w (wds_len 4 _) (wds_len 4 _) hB ⟨rfl, by omega⟩ rfl (by omega) c1 c2
def keyOk (n : Nat) (l : List Nat) : Prop := n = 65 ∧ l.getD 0 0 = 4 ∧ onB (keyX l) (keyY l) false = true
instance (n : Nat) (l : List Nat) : Decidable (keyOk n l) := by unfold keyOk; infer_instance
def keyP (l : List Nat) : EC.Pt mP := .aff (fv (keyX l)) (fv (keyY l))
theorem onB_ff {x y : Nat} (h : onB x y false = true) : x < mP ∧ y < mP ∧ EC.On bP (.aff (fv x) (fv y)) := by
 unfold onB at h
 rw [if_neg (by decide)] at h
 simp only [Bool.and_eq_true, decide_eq_true_eq] at h
 exact h
theorem wds_fv {x : Nat} (h : x < mP) : wds 4 x = nw (fv x) := by unfold nw; rw [fv_small h]
theorem keyOn {n : Nat} {l : List Nat} (h : keyOk n l) : EC.On bP (keyP l) := (onB_ff h.2.2).2.2
def keyA (n : Nat) (l : List Nat) : List Nat × List Nat × Int := if keyOk n l then (nw (fv (keyX l)), nw (fv (keyY l)), 0) else (zeros 4, zeros 4, 71)
theorem keyA_no {n : Nat} {l : List Nat} (h : ¬ keyOk n l) : keyA n l = (zeros 4, zeros 4, 71) := by unfold keyA; rw [if_neg h]
theorem keyA_ok {n : Nat} {l : List Nat} (h : keyOk n l) : keyA n l = (nw (fv (keyX l)), nw (fv (keyY l)), 0) := by unfold keyA; rw [if_pos h]
theorem dec65_dec (l : List Nat) : ((dec65 l).1 = (keyA 65 l).1 ∧ (dec65 l).2.1 = (keyA 65 l).2.1) ∧ ((keyA 65 l).2.2 = if (dec65 l).2.2 = 0 then 0 else 71) ∧ ((dec65 l).2.2 = 0 ∨ (dec65 l).2.2 = 61 ∨ (dec65 l).2.2 = 62) := by
 by_cases h : l.getD 0 0 = 4
 · by_cases h2 : onB (keyX l) (keyY l) false = true
   · obtain ⟨h3, h4, _⟩ := onB_ff h2
     have e : dec65 l = (wds 4 (keyX l), wds 4 (keyY l), 0) := by unfold dec65; rw [if_pos h, if_pos h2]
     rw [e, keyA_ok ⟨rfl, h, h2⟩, wds_fv h3, wds_fv h4]
     exact ⟨⟨rfl, rfl⟩, rfl, .inl rfl⟩
   · have e : dec65 l = (zeros 4, zeros 4, 62) := by unfold dec65; rw [if_pos h, if_neg h2]
     rw [e, keyA_no (fun k => h2 k.2.2)]
     exact ⟨⟨rfl, rfl⟩, rfl, .inr (.inr rfl)⟩
 · have e : dec65 l = (zeros 4, zeros 4, 61) := by unfold dec65; rw [if_neg h]
   rw [e, keyA_no (fun k => h k.2.1)]
   exact ⟨⟨rfl, rfl⟩, rfl, .inr (.inl rfl)⟩
theorem keyA_x (n : Nat) (l : List Nat) : (keyA n l).1.length = 4 := by unfold keyA; split; exact nw_len _; rfl
theorem keyA_y (n : Nat) (l : List Nat) : (keyA n l).2.1.length = 4 := by unfold keyA; split; exact nw_len _; rfl
noncomputable def keyV (n : Nat) (l : List Nat) : Value := .agg (pv (keyA n l).1 (keyA n l).2.1 false).toArray
theorem k_key {w : World} {A : Option Addr} {n c : Nat} {l : List Nat} (hB : BIn w A n c l) :
   Calls Try.prog 31 #[.slice A n c] w fun e w' => e = .returned (.tuple #[keyV n l, .int .i64 (keyA n l).2.2]) ∧ Below w.heap.size w w' := by
 unfold keyV
 by_cases h : n = 65
 · subst h
   obtain ⟨⟨e1, e2⟩, e3, e4⟩ := dec65_dec l
   refine wkey_go (ee := (dec65 l).2.2) w (keyA_x 65 l) (keyA_y 65 l) (fun W hW => ?_) (fun w => ?_)
   · have k := k_dec65 (hB.below hW)
     rw [e1, e2] at k
     exact k
   · rw [e3]; exact s_told_key _ e4 w
 · have e : keyA n l = (zeros 4, zeros 4, 71) := by unfold keyA; rw [if_neg (fun k => h k.1)]
   rw [e]
   exact wkey_len w h
def sigR (l : List Nat) : Nat := be (l.take 32)
def sigS (l : List Nat) : Nat := be ((l.drop 32).take 32)
def sigOk (n : Nat) (l : List Nat) : Prop := n = 64 ∧ (sigR l ≠ 0 ∧ sigR l < mN) ∧ (sigS l ≠ 0 ∧ sigS l < mN)
instance (n : Nat) (l : List Nat) : Decidable (sigOk n l) := by unfold sigOk; infer_instance
def sigA (n : Nat) (l : List Nat) : Nat × Nat × Int := if n = 64 then (if sigOk n l then (sigR l, sigS l, 0) else (0, 0, 73)) else (0, 0, 72)
def sigV (n : Nat) (l : List Nat) : Value := .tuple #[.agg (natsV .u64 (wds 4 (sigA n l).1)).toArray, .agg (natsV .u64 (wds 4 (sigA n l).2.1)).toArray, .int .i64 (sigA n l).2.2]
theorem bin_range {w : World} {b o n c : Nat} {l : List Nat} (hB : BIn w (some ⟨b, o, none⟩) n c l) (hn : 0 < n) (f m : Nat) (hf : f + m ≤ n) (W : World) (hW : Below w.heap.size w W) :
   W.rangeAt b (o + f) (natsV .u8 ((l.drop f).take m)) := by
 intro j v hv
 have hj : j < ((l.drop f).take m).length := by
   have := (List.getElem?_eq_some_iff.1 hv).1
   rwa [natsV_length] at this
 rw [natsV_get _ _ _ hj] at hv
 injection hv with hv
 have hjm : j < m := by rw [List.length_take] at hj; omega
 have e : ((l.drop f).take m).getD j 0 = l.getD (f + j) 0 := by simp [List.getD_eq_getElem?_getD, hjm, List.getElem?_drop]
 rw [← hv, e, Nat.add_assoc]
 exact bin_cell hB hW (f + j) (by omega)
theorem wds0_ : wds 4 0 = zeros 4 := by decide +kernel
theorem k_split {w : World} {A : Option Addr} {n c : Nat} {l : List Nat} (hB : BIn w A n c l) :
   Calls Try.prog 32 #[.slice A n c] w fun e w' => e = .returned (sigV n l) ∧ Below w.heap.size w w' := by
 unfold sigV sigA
 by_cases h : n = 64
 · subst h
   obtain ⟨b, o, rfl, _⟩ := hB.1.2.2.2.resolve_left (by omega)
   have hc := hB.2.1
   have hcm := hB.2.2.1
   have r1 := bin_range hB (by omega) 0 32 (by omega)
   have r2 := bin_range hB (by omega) 32 32 (by omega)
   simp only [Nat.add_zero, List.drop_zero] at r1
   have l1 : (l.take 32).length = 32 := by rw [List.length_take, hB.1.1]; rfl
   have l2 : ((l.drop 32).take 32).length = 32 := by rw [List.length_take, List.length_drop, hB.1.1]; rfl
   have b1 : ∀ x ∈ l.take 32, x < 256 := fun x hx => hB.1.2.2.1 x (List.mem_of_mem_take hx)
   have b2 : ∀ x ∈ (l.drop 32).take 32, x < 256 := fun x hx => hB.1.2.2.1 x (List.mem_of_mem_drop (List.mem_of_mem_take hx))
   have c1 := s_number l1 b1
   have c2 := s_number l2 b2
   have x1 := be_256 l1 b1
   have x2 := be_256 l2 b2
   have c3 := s_refusal _ x1
   have c4 := s_told_sig _ (refE_is (be (l.take 32)))
   have c5 := s_refusal _ x2
   have c6 := s_told_sig _ (refE_is (be ((l.drop 32).take 32)))
   rw [if_pos rfl]
   have q1 : refE (be (l.take 32)) = 0 ↔ sigR l ≠ 0 ∧ sigR l < mN := refE_0 (be (l.take 32))
   have q2 : refE (be ((l.drop 32).take 32)) = 0 ↔ sigS l ≠ 0 ∧ sigS l < mN := refE_0 (be ((l.drop 32).take 32))
   by_cases h1 : refE (be (l.take 32)) = 0
   · rw [if_pos h1] at c4
     by_cases h2 : refE (be ((l.drop 32).take 32)) = 0
     · rw [if_pos h2] at c6
       have hs : sigOk 64 l := ⟨rfl, q1.1 h1, q2.1 h2⟩
       rw [if_pos hs]
       exact wsplit_ok w l1 l2 (wds_len 4 _) (wds_len 4 _) hc hcm r1 r2 c1 c2 c3 c4 c5 c6
     · rw [if_neg h2] at c6
       have hs : ¬ sigOk 64 l := fun k => h2 (q2.2 k.2.2)
       rw [if_neg hs, wds0_]
       exact wsplit_bad2 w l1 l2 (wds_len 4 _) (wds_len 4 _) hc hcm r1 r2 c1 c2 c3 c4 c5 c6
   · rw [if_neg h1] at c4
     have hs : ¬ sigOk 64 l := fun k => h1 (q1.2 k.2.1)
     rw [if_neg hs, wds0_]
     exact wsplit_bad1 (eb := 0) w l1 l2 (wds_len 4 _) (wds_len 4 _) hc hcm r1 r2 c1 c2 c3 c4
 · rw [if_neg h, wds0_]
   exact wsplit_len w h
def xN : EC.Pt mP → Nat | .inf => 0 | .aff x _ => x.val
noncomputable def sumE (Q : EC.Pt mP) (z r s : Nat) : EC.Pt mP := EC.sum (EC.mul (z * wN s % mN) gP) (EC.mul (r * wN s % mN) Q)
open Classical in
noncomputable def verP (Q : EC.Pt mP) (z r s : Nat) : Int := if sumE Q z r s = .inf then 74 else if xN (sumE Q z r s) % mN = r then 0 else 74
open Classical in
noncomputable def verE (nk : Nat) (lk : List Nat) (nd : Nat) (ld : List Nat) (ns : Nat) (ls : List Nat) : Int :=
 if keyOk nk lk then (if (sigA ns ls).2.2 = 0 then verP (keyP lk) (scE nd ld) (sigR ls) (sigS ls) else (sigA ns ls).2.2) else 71
theorem sigA_cases (n : Nat) (l : List Nat) : sigA n l = (0, 0, 72) ∨ sigA n l = (0, 0, 73) ∨ (sigOk n l ∧ sigA n l = (sigR l, sigS l, 0)) := by
 unfold sigA
 by_cases h : n = 64
 · rw [if_pos h]
   by_cases h2 : sigOk n l
   · rw [if_pos h2]; exact .inr (.inr ⟨h2, rfl⟩)
   · rw [if_neg h2]; exact .inr (.inl rfl)
 · rw [if_neg h]; exact .inl rfl
theorem base_k : Ans 8 #[] (.agg (pv (nw gX) (nw gY) false).toArray) := fun w => base_any w
theorem umod (a b : Nat) : a * b % mN < 2 ^ 256 := Nat.lt_trans (Nat.mod_lt _ mNpos) mN256
theorem k_verify {wk : World} {A1 A2 A3 : Option Addr} {n1 d1 n2 d2 n3 d3 : Nat} {l1 l2 l3 : List Nat} (h1 : BIn wk A1 n1 d1 l1) (h2 : BIn wk A2 n2 d2 l2) (h3 : BIn wk A3 n3 d3 l3) :
   Calls Try.prog 16 #[.slice A1 n1 d1, .slice A2 n2 d2, .slice A3 n3 d3] wk fun e w' => e = .returned (.int .i64 (verE n1 l1 n2 l2 n3 l3)) ∧ Below wk.heap.size wk w' := by
 unfold verE
 have ck := fun W hW => k_key (w := W) (h1.below hW)
 have cs := fun W hW => k_split (w := W) (h3.below hW)
 have cz := fun W hW => k_scalar (w := W) (h2.below hW)
 unfold keyV at ck
 unfold sigV at cs
 by_cases hk : keyOk n1 l1
 · rw [if_pos hk]
   rw [keyA_ok hk] at ck
   rcases sigA_cases n3 l3 with e | e | ⟨hs, e⟩
   · rw [e, if_neg (by decide)]
     rw [e, wds0_] at cs
     exact wver_sp72 wk (nw_len _) (nw_len _) ck cs
   · rw [e, if_neg (by decide)]
     rw [e, wds0_] at cs
     exact wver_sp73 wk (nw_len _) (nw_len _) ck cs
   · rw [e, if_pos rfl]
     rw [e] at cs
     obtain ⟨_, ⟨hr0, hr⟩, ⟨hs0, hs1⟩⟩ := hs
     generalize sigR l3 = r at *
     generalize sigS l3 = s at *
     generalize hz : scE n2 l2 = z at *
     have hz2 : z < 2 ^ 256 := hz ▸ scE_256 n2 l2
     have k1 := s_of s (Nat.lt_trans hs1 mN256)
     have k2 := s_inv s (by rw [Nat.mod_eq_of_lt hs1]; exact hs0)
     have k3 := s_of z hz2
     have k4 := s_mul z (wN s)
     have k5 := s_of r (Nat.lt_trans hr mN256)
     have k6 := s_mul r (wN s)
     have k7 := s_num (z * wN s)
     have k8 := s_num (r * wN s)
     have k9 := k_twoP on_gP (keyOn hk) (z * wN s % mN) (r * wN s % mN) (umod _ _) (umod _ _)
     unfold verP
     show Calls Try.prog _ _ _ _
     have ksum : EC.sum (EC.mul (z * wN s % mN) gP) (EC.mul (r * wN s % mN) (keyP l1)) = sumE (keyP l1) z r s := rfl
     rw [ksum] at k9
     cases hp : sumE (keyP l1) z r s with
     | inf =>
       rw [if_pos rfl]
       rw [hp] at k9
       exact wver_inf wk (nw_len _) (nw_len _) (wds_len 4 r) (wds_len 4 s) (sn_len _) (sn_len _) (wds_len 4 z) (sn_len _) (sn_len _) (sn_len _) (sn_len _) (wds_len 4 _) (nw_len gX) (nw_len gY) (wds_len 4 _) ck cs k1 k2 cz k3 k4 k5 k6 k7 base_k k8 k9
     | aff X Y =>
       rw [if_neg (by intro h; cases h)]
       rw [hp] at k9
       have k10 := s_mod X.val (lt256 X)
       show Calls Try.prog _ _ wk fun e w' => e = .returned (.int .i64 (if X.val % mN = r then 0 else 74)) ∧ _
       by_cases hq : X.val % mN = r
       · rw [if_pos hq]
         exact wver_ok wk (nw_len _) (nw_len _) (wds_len 4 r) (wds_len 4 s) (sn_len _) (sn_len _) (wds_len 4 z) (sn_len _) (sn_len _) (sn_len _) (sn_len _) (wds_len 4 _) (nw_len gX) (nw_len gY) (wds_len 4 _) (nw_len X) (nw_len Y) (wds_len 4 _) (by rw [hq]) ck cs k1 k2 cz k3 k4 k5 k6 k7 base_k k8 k9 k10
       · rw [if_neg hq]
         have hne : ¬ wds 4 (X.val % mN) = wds 4 r := fun h => hq (wds_in4 (Nat.lt_trans (Nat.mod_lt _ mNpos) mN256) (Nat.lt_trans hr mN256) h)
         exact wver_wr wk (nw_len _) (nw_len _) (wds_len 4 r) (wds_len 4 s) (sn_len _) (sn_len _) (wds_len 4 z) (sn_len _) (sn_len _) (sn_len _) (sn_len _) (wds_len 4 _) (nw_len gX) (nw_len gY) (wds_len 4 _) (nw_len X) (nw_len Y) (wds_len 4 _) hne ck cs k1 k2 cz k3 k4 k5 k6 k7 base_k k8 k9 k10
 · rw [if_neg hk]
   rw [keyA_no hk] at ck
   exact wver_key wk ck
theorem BIn.gr {w w' : World} {a : Option Addr} {n c : Nat} {l : List Nat} (h : BIn w a n c l) (hb : Gr w w') : BIn w' a n c l := h.below hb
theorem BIn.drew {w : World} {a : Option Addr} {n c : Nat} {l : List Nat} (h : BIn w a n c l) : BIn w.drew a n c l := h.below (Gr.drew w)
theorem own_bin {w : World} {base n G cap : Nat} {l : List Nat} (h : w.ownsRow base 5 1 (.slice (some ⟨G, 0, none⟩) n cap) n (bytesV l)) (hl : ∀ x ∈ l, x < 256) (hn : n ≤ 140737488355328) : BIn w (some ⟨G, 0, none⟩) n cap l := by
 obtain ⟨a', c', he, hb⟩ := own_in h hl hn
 simp only [Value.slice.injEq] at he
 obtain ⟨rfl, _, rfl⟩ := he
 exact hb.1
theorem lstA_lt (x y : Nat) : ∀ z ∈ [4] ++ bytesOf_ x ++ bytesOf_ y, z < 256 := by
 intro z hz
 simp only [List.mem_append, List.mem_singleton] at hz
 rcases hz with (rfl | h) | h
 · decide
 · exact bytesOf_lt x z h
 · exact bytesOf_lt y z h
def encL (x y : FP) : List Nat := [4] ++ bytesOf_ x.val ++ bytesOf_ y.val
theorem encL_lt (x y : FP) : ∀ z ∈ encL x y, z < 256 := lstA_lt x.val y.val
theorem encL_x (x y : FP) : keyX (encL x y) = x.val := by
 unfold keyX encL
 have e : (([4] ++ bytesOf_ x.val ++ bytesOf_ y.val).drop 1).take 32 = bytesOf_ x.val := by
   simp [bytesOf_len]
 rw [e]; exact be_bytesOf _ (lt256 x)
theorem encL_y (x y : FP) : keyY (encL x y) = y.val := by
 unfold keyY encL
 have e : (([4] ++ bytesOf_ x.val ++ bytesOf_ y.val).drop 33).take 32 = bytesOf_ y.val := by
   rw [List.append_assoc, List.singleton_append, show (33 : Nat) = 32 + 1 from rfl, List.drop_succ_cons]
   rw [List.drop_append_of_le_length (by rw [bytesOf_len]; exact Nat.le_refl _), List.drop_of_length_le (by rw [bytesOf_len]; exact Nat.le_refl _), List.nil_append]
   exact List.take_of_length_le (by rw [bytesOf_len]; exact Nat.le_refl _)
 rw [e]; exact be_bytesOf _ (lt256 y)
theorem fv_fin (x : FP) : fv x.val = x := Fin.ext (by rw [fv_val, Nat.mod_eq_of_lt x.isLt])
theorem encL_P (x y : FP) : keyP (encL x y) = .aff x y := by unfold keyP; rw [encL_x, encL_y, fv_fin, fv_fin]
theorem encL_ok {x y : FP} (h : EC.On bP (.aff x y)) : keyOk 65 (encL x y) := by
 refine ⟨rfl, rfl, ?_⟩
 rw [encL_x, encL_y]
 unfold onB
 rw [if_neg (by decide), fv_fin, fv_fin]
 simp only [Bool.and_eq_true, decide_eq_true_eq]
 exact ⟨x.isLt, y.isLt, h⟩
theorem k_on_aff {x y : FP} (h : EC.On bP (.aff x y)) (w : World) : Calls Try.prog 21 #[.agg (pv (nw x) (nw y) false).toArray] w fun e w' => e = .returned (.bool true) ∧ Below w.heap.size w w' := by
 have k := k_onP h w
 rw [ptV_eq] at k
 exact k
theorem k_encode {x y : FP} (h : EC.On bP (.aff x y)) (w : World) : Calls Try.prog 9 #[.agg (pv (nw x) (nw y) false).toArray] w (ListOwn 65 (encL x y) w) := by
 have k := k_on_aff h
 have l1 := nw_len x
 have l2 := nw_len y
 have c1 := Bytes_any x.val
 have c2 := Bytes_any y.val
 unfold encL
 show Calls Try.prog 9 #[.agg (pv (wds 4 x.val) (wds 4 y.val) false).toArray] w _
 exact enc_ok w (wds_len 4 _) (wds_len 4 _) (bytesOf_len x.val) (bytesOf_len y.val) (bytesOf_lt x.val) (bytesOf_lt y.val) cinf_any k c1 c2
theorem verE_enc {x y : FP} (h : EC.On bP (.aff x y)) (nd : Nat) (ld : List Nat) (ns : Nat) (ls : List Nat) :
   verE 65 (encL x y) nd ld ns ls = if (sigA ns ls).2.2 = 0 then verP (.aff x y) (scE nd ld) (sigR ls) (sigS ls) else (sigA ns ls).2.2 := by
 unfold verE
 rw [if_pos (encL_ok h), encL_P]
theorem hmk64 (w : World) : (Instr.makeSlice 25 (.int .i64 64) (.int .i64 64)).run Try.prog w = .ok (.slice (some ⟨w.heap.size, 0, none⟩) 64 64) (w.alloc (.cells (natsV .u8 (zeros 64)).toArray 5)) := by kernel_rfl
def sg1 : List Nat := ((zeros 64).set 31 1).set 63 1
theorem sg1_eq : ((natsV .u8 (zeros 64)).set 31 (.int .u8 1)).set 63 (.int .u8 1) = natsV .u8 sg1 := by unfold sg1; rw [← natsV_set, ← natsV_set]; rfl
theorem sg1_lt : ∀ x ∈ sg1, x < 256 := by decide
theorem blk_bin {w : World} {g : Nat} {l : List Nat} {m : Nat} (h : Blk w g 5 (natsV .u8 l)) (hl : l.length = m) (hm : m ≤ 1048576) (hb : ∀ x ∈ l, x < 256) : BIn w (some ⟨g, 0, none⟩) m m l :=
 ⟨⟨hl, by unfold maxLen; omega, hb, .inr ⟨g, 0, rfl, fun i hi => by rw [Nat.zero_add]; exact h.nat i (by omega)⟩⟩, Nat.le_refl _, by unfold maxLen; omega, by omega, fun h => by cases h⟩
theorem nil_bin (w : World) : BIn w none 0 0 [] := bin_empty w none 0 (Nat.zero_le _) (fun _ => rfl)
theorem waw {gx gy : List Nat} {La : List Nat} (w : World) (hgx : gx.length = 4) (hgy : gy.length = 4)
   (ha : ∀ z ∈ La, z < 256)
   (hen : ∀ w, Calls Try.prog 9 #[.agg (pv gx gy false).toArray] w (ListOwn 65 La w))
   (hv1 : ∀ A c G W, BIn W A 65 c La → BIn W G 64 64 sg1 → Calls Try.prog 16 #[.slice A 65 c, .slice none 0 0, .slice G 64 64] W fun e w' => e = .returned (.int .i64 74) ∧ Below W.heap.size W w')
   (hv2 : ∀ A c G W, BIn W A 65 c La → BIn W G 63 64 (sg1.take 63) → Calls Try.prog 16 #[.slice A 65 c, .slice none 0 0, .slice G 63 64] W fun e w' => e = .returned (.int .i64 72) ∧ Below W.heap.size W w')
   (hsc : ∀ G W, BIn W G 1 1 [5] → Calls Try.prog 11 #[.slice G 1 1] W fun e w' => e = .returned (.agg #[.int .u64 5, .int .u64 0, .int .u64 0, .int .u64 0]) ∧ Below W.heap.size W w')
   (c1 : Ans 8 #[] (.agg (pv gx gy false).toArray)) :
   Calls Try.prog 4 #[] w fun e w' => e = .returned (.bool true) ∧ Below w.heap.size w w' := by
 have L_gx := Hd hgx
 have L_gy := Hd hgy
 have Hc1 := Hd c1
 have HA := Hd ha
 have HEN := Hd hen
 have HV1 := Hd hv1
 have HV2 := Hd hv2
 have HSC := Hd hsc
 have Q5 := Hd (fun w => show (binOp .eql 24 (.agg #[.int .u64 5, .int .u64 0, .int .u64 0, .int .u64 0]) (.agg #[.int .u64 5, .int .u64 0, .int .u64 0, .int .u64 0])).run Try.prog w = .ok (.bool true) w from by kernel_rfl)
 have bel_ := Below.refl w.heap.size w
 clear hgx hgy c1 ha hen hv1 hv2 hsc
 go_enter Try.func4, Try.ntmps4
 go_wp2_with fail
 refine (Hc1.out _).mono ?_
 rintro e w1 ⟨rfl, hbw1⟩
 have hbel2 := bel_.trans (Below.mono hbw1 bel_.size)
 clear bel_ hbw1
 go_wp2_with fail
 refine (HEN.out _).mono ?_
 rintro e w3 ⟨Ga, ca, rfl, ow3, hbw3⟩
 have hbel4 := hbel2.trans (Below.mono hbw3 hbel2.size)
 have HBa := Hd (own_bin ow3 HA.out (by decide))
 have hm := hmk64
 have c31 := (Blk.new w3 5 (natsV .u8 (zeros 64))).nat 31 (by decide)
 have f31 := (Blk.new w3 5 (natsV .u8 (zeros 64))).free 31
 clear hbel2 ow3 hbw3
 have K2 : Blk (w3.alloc (.cells (((natsV .u8 (zeros 64)).set 31 (.int .u8 1)).set 63 (.int .u8 1)).toArray 5)) w3.heap.size 5 (natsV .u8 sg1) := by rw [← sg1_eq]; exact Blk.new _ _ _
 have J := Hd (blk_bin (m := 64) K2 (by decide) (by decide) sg1_lt)
 clear K2
 have hb64 : Below w3.heap.size w3 (w3.alloc (.cells (((natsV .u8 (zeros 64)).set 31 (.int .u8 1)).set 63 (.int .u8 1)).toArray 5)) := (Below.refl _ _).alloc (Nat.le_refl _) _
 have HK := Hd (HBa.out.below hb64)
 have hbel64 := hbel4.trans (hb64.mono hbel4.size)
 have i63 : (63 : Int) ≤ 64 := by omega
 go_wp2_with fail
 refine (HV1.out _ _ _ _ HK.out J.out).mono ?_
 rintro e wv ⟨rfl, hv⟩
 have HK2 := Hd (HK.out.below hv)
 have J2 := Hd (bin_head (J.out.below hv) (show 63 ≤ 64 by decide) (by decide))
 have hbel65 := hbel64.trans (hv.mono hbel64.size)
 go_wp2_with fail
 refine (HV2.out _ _ _ _ HK2.out J2.out).mono ?_
 rintro e wx ⟨rfl, hx⟩
 have hbel66 := hbel65.trans (hx.mono hbel65.size)
 have J3 := Hd (bin_one wx 5 (by decide))
 have hbel67 := hbel66.alloc hbel66.size (.cells #[.int .u8 (5 : Nat)] 5)
 go_wp2_with fail
 refine (HSC.out _ _ J3.out).mono ?_
 rintro e wy ⟨rfl, hy⟩
 have hbel68 := hbel67.trans (hy.mono hbel67.size)
 have q := Q5.out
 go_wp2_with fail
 go_ret
 exact ⟨rfl, hbel68⟩
theorem wN_gen (s m : Nat) (hs : s = 1) (hm : 1 < m) : s ^ (m - 2) % m = 1 := by rw [hs, Nat.one_pow]; exact Nat.mod_eq_of_lt hm
theorem wN_1 (s : Nat) (h : s = 1) : wN s = 1 := wN_gen s mN h (by decide)
theorem sg1_R : sigR sg1 = 1 := by decide +kernel
theorem sg1_S : sigS sg1 = 1 := by decide +kernel
theorem sg1_ok : sigOk 64 sg1 := by decide +kernel
theorem sg1_A : sigA 64 sg1 = (1, 1, 0) := by unfold sigA; rw [if_pos rfl, if_pos sg1_ok, sg1_R, sg1_S]
theorem sg1_63 : sigA 63 (sg1.take 63) = (0, 0, 72) := by unfold sigA; rw [if_neg (by decide)]
theorem sc_nil : scE 0 [] = 0 := by decide +kernel
theorem sc_5 : scE 1 [5] = 5 := by decide +kernel
theorem mulG_1 : EC.mul 1 gP = gP := by show EC.sum .inf gP = gP; exact EC.inf_sum _
theorem sum_one {z r s : Nat} (hz : z = 0) (hr : r = 1) (hs : s = 1) : sumE gP z r s = gP := by
 unfold sumE
 rw [wN_1 s hs, hz, hr, Nat.zero_mul, Nat.zero_mod, Nat.mul_one, show 1 % mN = 1 from by decide, mulG_1]
 show EC.sum .inf gP = gP
 exact EC.inf_sum _
theorem xg_ne : ¬ xN gP % mN = 1 := by
 show ¬ gX.val % mN = 1
 decide +kernel
theorem verP_one {z r s : Nat} (hz : z = 0) (hr : r = 1) (hs : s = 1) : verP gP z r s = 74 := by
 unfold verP
 rw [sum_one hz hr hs, if_neg (by intro h; cases h), if_neg (by rw [hr]; exact xg_ne)]
theorem ver_sg1 : verE 65 (encL gX gY) 0 [] 64 sg1 = 74 := by
 rw [verE_enc on_gP, sg1_A, if_pos rfl]
 exact verP_one sc_nil sg1_R sg1_S
theorem ver_sg63 : verE 65 (encL gX gY) 0 [] 63 (sg1.take 63) = 72 := by
 rw [verE_enc on_gP, sg1_63, if_neg (by decide)]
theorem lit5 : (.agg #[.int .u64 5, .int .u64 0, .int .u64 0, .int .u64 0] : Value) = .agg (natsV .u64 (wds 4 5)).toArray := by
 rw [show wds 4 5 = [5, 0, 0, 0] from by decide +kernel]; rfl
theorem k_awake7 : Ans 4 #[] (.bool true) := fun w =>
 waw w (nw_len gX) (nw_len gY) (encL_lt gX gY) (k_encode on_gP)
   (fun A c G W h1 h2 => by have k := k_verify h1 (nil_bin W) h2; rw [ver_sg1] at k; exact k)
   (fun A c G W h1 h2 => by have k := k_verify h1 (nil_bin W) h2; rw [ver_sg63] at k; exact k)
   (fun G W h => by have k := k_scalar h; rw [sc_5, ← lit5] at k; exact k) base_k
end Go.Proofs.Ytdkkombpkojjaaa
