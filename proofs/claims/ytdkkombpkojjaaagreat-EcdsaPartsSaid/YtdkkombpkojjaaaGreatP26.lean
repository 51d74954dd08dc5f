/- Parts of proofs of statements, each text behind those that it stands on. No condition of its own. -/
import Derived.Laws.Cover3
import Derived.Test.YtdkkombpkojjaaaGreatP15
import Derived.Test.YtdkkombpkojjaaaGreatP17
namespace Go.Proofs.YtdkkombpkojjaaaGreat
set_option maxRecDepth 100000
set_option maxHeartbeats 3200000
open Go.RowKit
set_option linter.unusedVariables false
set_option linter.unusedSimpArgs false
theorem arr32 (b o c : Nat) (w : World) : (Instr.arrayAt 53 (.slice (some ⟨b, o, none⟩) 32 c)).run Tryz.prog w = .ok (.pointer (some ⟨b, o, none⟩)) w := run_arrayAt w 53 5 32 _ 32 c Tryz.underlying53 (Nat.le_refl _)
theorem built2n {la lb : List Nat} (ha : la.length = 4) (hb : lb.length = 4) : Tryz.prog.built 60 [(0, .agg (natsV .u64 la).toArray), (1, .agg (natsV .u64 lb).toArray)] = some (natsV .u64 (la ++ lb)).toArray := by
 obtain ⟨a, b, c, d, rfl⟩ := four_ol ha
 obtain ⟨e, f, g, h, rfl⟩ := four_ol hb
 kernel_rfl
theorem ix2_1 {la lb : List Nat} (ha : la.length = 4) (hb : lb.length = 4) (w : World) : (Instr.index 60 (.agg (natsV .u64 (la ++ lb)).toArray) (.int .i64 1)).run Tryz.prog w = .ok (.agg (natsV .u64 lb).toArray) w := by
 obtain ⟨a, b, c, d, rfl⟩ := four_ol ha
 obtain ⟨e, f, g, h, rfl⟩ := four_ol hb
 kernel_rfl
theorem wsplit_len {A : Option Addr} {n c : Nat} (w : World) 
   (hn : n ≠ 64) :
   Calls Tryz.prog 9 #[.slice A n c] w fun e w' => e = .returned (.tuple #[.agg (natsV .u64 (zeros 4)).toArray, .agg (natsV .u64 (zeros 4)).toArray, .int .i64 72]) ∧ Below w.heap.size w w' := by
 have h64 : ((n : Int) != 64) = true := by rw [bne_iff_ne]; omega
 have h64n : ¬ (n = 64) := hn
 have B0_ := Hd ((Blk.new w  26 (natsV .u64 (zeros 4))).alloc (.cells (natsV .u64 (zeros 4)).toArray 26))
 have B1_ := Hd (Blk.new2 w (.cells (natsV .u64 (zeros 4)).toArray 26) 26 (natsV .u64 (zeros 4)))
 have bel_ := (((Below.refl w.heap.size w).alloc (Nat.le_refl _) (.cells (natsV .u64 (zeros 4)).toArray 26)).alloc (by simp) (.cells (natsV .u64 (zeros 4)).toArray 26))
 go_enter Tryz.func9, Tryz.ntmps9
 go_wp2_with (first | (refine stB rfl 26 (.tmp 2) (.tmp 13) rfl w.heap.size rfl (natsV .u64 (zeros 4)) rfl 26 (natsV .u64 (zeros 4)) B0_.out (i24 z4l) (lz4 z4l) n1' ?_; generalize hW : World.setRow _ _ _ = w1; obtain ⟨hgw1, hnw1⟩ := setfacts hW B0_.out; clear hW; have E2 := Hd (B1_.out.grown hgw1 (fun e => (show (w.heap.size + 1) ≠ w.heap.size by omega) (Option.some.inj e))); clear B1_; have D3 := Hd hnw1; clear hnw1 B0_; have hbel4 := belStore bel_ hgw1 (show w.heap.size ≤ w.heap.size by omega); clear hgw1; clear bel_) | (refine stB rfl 26 (.tmp 3) (.tmp 14) rfl (w.heap.size + 1) rfl (natsV .u64 (zeros 4)) rfl 26 (natsV .u64 (zeros 4)) E2.out (i24 z4l) (lz4 z4l) n1' ?_; generalize hW : World.setRow _ _ _ = w5; obtain ⟨hgw5, hnw5⟩ := setfacts hW E2.out; clear hW; have E6 := Hd (D3.out.grown hgw5 (fun e => (show w.heap.size ≠ (w.heap.size + 1) by omega) (Option.some.inj e))); clear D3; have D7 := Hd hnw5; clear hnw5 E2; have hbel8 := belStore hbel4 hgw5 (show w.heap.size ≤ (w.heap.size + 1) by omega); clear hgw5; clear hbel4))
 refine bodyPost_ret (v := .tuple #[.agg (natsV .u64 (zeros 4)).toArray, .agg (natsV .u64 (zeros 4)).toArray, .int .i64 72]) ?_ rfl ⟨rfl, hbel8⟩
 exact results_three Tryz.results9 _ _ w.heap.size (w.heap.size + 1) 26 26 _ _ (0, 0) (0, 0) _ _ _ rfl rfl rfl E6.out D7.out Tryz.underlying26 rfl (by simpa using (i24 z4l)) Tryz.underlying26 rfl (by simpa using (i24 z4l))
theorem wsplit_bad1 {B1 B2 lr ls : List Nat} {b o c : Nat} {ea eb : Int} (w : World) (hB1 : B1.length = 32) (hB2 : B2.length = 32) (hlr : lr.length = 4) (hls : ls.length = 4)
   (h64 : 64 ≤ c)
   (hcm : c ≤ maxLen)
   (hr1 : ∀ W, Below w.heap.size w W → W.rangeAt b o (natsV .u8 B1))
   (hr2 : ∀ W, Below w.heap.size w W → W.rangeAt b (o + 32) (natsV .u8 B2))
   (c1 : Ans 29 #[.agg (natsV .u8 B1).toArray] (.agg (natsV .u64 lr).toArray))
   (c2 : Ans 29 #[.agg (natsV .u8 B2).toArray] (.agg (natsV .u64 ls).toArray))
   (c3 : Ans 30 #[.agg (natsV .u64 lr).toArray] (.int .i64 ea))
   (c4 : Ans 27 #[.agg #[.int .i64 2, .int .i64 ea]] (.int .i64 73)) :
   Calls Tryz.prog 9 #[.slice (some ⟨b, o, none⟩) 64 c] w fun e w' => e = .returned (.tuple #[.agg (natsV .u64 (zeros 4)).toArray, .agg (natsV .u64 (zeros 4)).toArray, .int .i64 73]) ∧ Below w.heap.size w w' := by
 have L_B1 := Hd hB1
 have L_B2 := Hd hB2
 have L_lr := Hd hlr
 have L_ls := Hd hls
 have Hc1 := Hd c1
 have Hc2 := Hd c2
 have Hc3 := Hd c3
 have Hc4 := Hd c4
 clear hB1 hB2 hlr hls c1 c2 c3 c4
 unfold maxLen at hcm
 have HR1 := Hd hr1
 have HR2 := Hd hr2
 clear hr1 hr2
 have h32 : ¬ (c = 32) := by omega
 have h32i : (32 : Int) ≤ (c : Int) := by omega
 have h64i : (64 : Int) ≤ (c : Int) := by omega
 have IX0 := Hd (fun w => ix2_0 L_lr.out L_ls.out w)
 have IX1 := Hd (fun w => ix2_1 L_lr.out L_ls.out w)
 have B0_ := Hd ((Blk.new w  26 (natsV .u64 (zeros 4))).alloc (.cells (natsV .u64 (zeros 4)).toArray 26))
 have B1_ := Hd (Blk.new2 w (.cells (natsV .u64 (zeros 4)).toArray 26) 26 (natsV .u64 (zeros 4)))
 have bel_ := (((Below.refl w.heap.size w).alloc (Nat.le_refl _) (.cells (natsV .u64 (zeros 4)).toArray 26)).alloc (by simp) (.cells (natsV .u64 (zeros 4)).toArray 26))
 go_enter Tryz.func9, Tryz.ntmps9
 go_wp2_with fail
 as_aux_lemma =>
 refine wp_region_G (fun w_ => Below w.heap.size w w_) 13 (by kernel_rfl) bel_.drew ?_
 refine tkp gB0 0 rfl ?_
 try simp only [Act.put, zq]
 refine tkp gB0 1 rfl ?_
 try simp only [Act.put, zq]
 refine tk gB0 2 rfl (pureG (by rfl) (by intro w; have q := arr32 b o c w; go_simp; first | done | with_reducible rfl)) ?_
 try simp only [Act.put, zq]
 refine tk gB0 3 rfl (lg' (fun _ hS_ => HR1.out _ (hS_)) Tryz.underlying53 (i90 L_B1.out)) ?_
 try simp only [Act.put, zq]
 refine tk gB0 4 rfl (cg' Tryz.func29 (fun W_ hS_ => Hc1.out W_)) ?_
 try simp only [Act.put, zq]
 refine tkp gB0 5 rfl ?_
 try simp only [Act.put, zq]
 refine tkp gB0 6 rfl ?_
 try simp only [Act.put, zq]
 refine tk gB0 7 rfl (pureG (by rfl) (by intro w; have q := arr32 b (o + 32) (c - 32) w; go_simp; first | done | with_reducible rfl)) ?_
 try simp only [Act.put, zq]
 refine tk gB0 8 rfl (lg' (fun _ hS_ => HR2.out _ (hS_)) Tryz.underlying53 (i90 L_B2.out)) ?_
 try simp only [Act.put, zq]
 refine tk gB0 9 rfl (cg' Tryz.func29 (fun W_ hS_ => Hc2.out W_)) ?_
 try simp only [Act.put, zq]
 refine wpAnyG_def2 (i := 10) (j := 11) (k := 12) (l := 13) gB0 (by kernel_rfl) (by kernel_rfl) (by kernel_rfl) (by kernel_rfl) (by kernel_rfl) (by kernel_rfl) (by decide) rfl rfl rfl rfl rfl (allocG (by rfl) rfl _ alloc24) (allocG (by rfl) rfl _ alloc24) (fun _ => allocG (by rfl) rfl _ alloc24) (fun _ => allocG (by rfl) rfl _ alloc24) (fun _ _ => rfl) (lz4 L_lr.out) (lz4 L_ls.out) (fun _ _ => StoresG.mk (cs := (natsV .u64 lr)) (by rfl) 26 _ _ rfl rfl rfl (i24 L_lr.out) n1') (fun _ _ => StoresG.mk (cs := (natsV .u64 ls)) (by rfl) 26 _ _ rfl rfl rfl (i24 L_ls.out) n1') (fun g_ w_ hS_ hz_ hb_ => below_setRow' (gr_bel hS_ hb_) (Nat.le_trans hS_.size hz_) _) (bel_.drew) ?_
 intro w1 G2 G3 hgw1 hz_ hz2_ hne_ hn_ hn2_
 try simp only [Act.put, zq]
 have NE4 := Hd (Nat.ne_of_lt (Nat.lt_of_lt_of_le B0_.out.drew.lt hz_))
 have NE5 := Hd (Nat.ne_of_lt (Nat.lt_of_lt_of_le B1_.out.drew.lt hz_))
 have NE6 := Hd (Nat.ne_of_lt (Nat.lt_of_lt_of_le B0_.out.drew.lt hz2_))
 have NE7 := Hd (Nat.ne_of_lt (Nat.lt_of_lt_of_le B1_.out.drew.lt hz2_))
 have E8 := dq' B0_ hgw1
 have E9 := dq' B1_ hgw1
 have hbel10 := bel_.drew.trans (Below.mono hgw1 bel_.drew.size)
 have D11 := Hd hn_
 have D12 := Hd hn2_
 clear B0_ B1_ bel_ hn_ hn2_ hz_ hz2_ hne_ hgw1
 as_aux_lemma =>
 go_upto_region 4 with (fail)
 try simp only [Act.put, zq]
 refine wp_region_P (fun w_ => Blk w_ G2 26 (natsV .u64 lr) ∧ Blk w_ G3 26 (natsV .u64 ls)) 4 (by kernel_rfl) ⟨D11.out, D12.out⟩ ?_
 refine tk gS2 0 rfl (lg' (fun _ hS_ => blk_all (hS_.1)) Tryz.underlying26 (i24 L_lr.out)) ?_
 try simp only [Act.put, zq]
 refine tk gS2 1 rfl (lg' (fun _ hS_ => blk_all (hS_.2)) Tryz.underlying26 (i24 L_ls.out)) ?_
 try simp only [Act.put, zq]
 refine tk gS2 2 rfl (buildG (by rfl) _ _ rfl _ (built2n L_lr.out L_ls.out) (by simp [Act.eval])) ?_
 try simp only [Act.put, zq]
 refine tkp gS2 3 rfl ?_
 try simp only [Act.put, zq]
 refine wpAnyG_done (by kernel_rfl) ?_ _
 intro w13 hgw13
 try simp only [Act.put, zq]
 have C14 := gq' E8 hgw13
 have C15 := gq' E9 hgw13
 have C16 := gq' D11 hgw13
 have C17 := gq' D12 hgw13
 have hbel18 := hbel10.trans (Below.mono hgw13 hbel10.size)
 clear E8 E9 D11 D12 hbel10 hgw13
 go_wp2_with fail
 go_loopw [28] (fun v28 wr => ∃ i : Nat, i ≤ 0 ∧ v28 = .int .i64 i ∧ Blk wr G2 26 (natsV .u64 lr) ∧ Blk wr G3 26 (natsV .u64 ls) ∧ Blk wr w.heap.size 26 (natsV .u64 (zeros 4)) ∧ Blk wr (w.heap.size + 1) 26 (natsV .u64 (zeros 4)) ∧ Below w.heap.size w wr) (fun v28 _ => 2 - (intOf v28).toNat)
 case atStart => exact ⟨0, by omega, rfl, C16.out, C17.out, C14.out, C15.out, hbel18⟩
 case round =>
   clear C16 C17 C14 C15 hbel18
   obtain ⟨i, hi, rfl, k5, k6, k2, k3, hbq⟩ := hrel
   have K5 := Hd k5
   have K6 := Hd k6
   have K2 := Hd k2
   have K3 := Hd k3
   clear k5 k6 k2 k3
   obtain rfl := (show i = 0 by omega)
   rw [show ((0 : Nat) : Int) = 0 from rfl]
   have ix := IX0.out
   go_wp2_with (first | (refine stN rfl 26 (.tmp 8) (.tmp 30) rfl wr rfl (natsV .u64 lr) rfl 26 (natsV .u64 (zeros 4)) (i24 L_lr.out) (lz4 L_lr.out) n1' ?_; intro w119 hgw119 hnw119; have NE122 := Hd (Nat.ne_of_lt (K2.out.lt)); have NE123 := Hd (Nat.ne_of_lt (K3.out.lt)); have C124 := Hd (K2.out.gr hgw119); clear K2; have C125 := Hd (K3.out.gr hgw119); clear K3; have C126 := Hd (K5.out.gr hgw119); clear K5; have C127 := Hd (K6.out.gr hgw119); clear K6; have hbel128 := hbq.trans (Below.mono hgw119 hbq.size); clear hbq; have D121 := Hd hnw119; clear hnw119 hgw119; generalize wr.heap.size = G120 at *) | (refine lm' (blk_all (D121.out)) Tryz.underlying26 (i24 L_lr.out) ?_))
   refine (Hc3.out _).mono ?_
   rintro e w129 ⟨rfl, hbw129⟩
   have C130 := gq' C124 hbw129
   have C131 := gq' C125 hbw129
   have C132 := gq' C126 hbw129
   have C133 := gq' C127 hbw129
   have C134 := gq' D121 hbw129
   have hbel135 := hbel128.trans (Below.mono hbw129 hbel128.size)
   clear C124 C125 C126 C127 D121 hbel128 hbw129
   go_wp2_with fail
   refine (Hc4.out _).mono ?_
   rintro e w136 ⟨rfl, hbw136⟩
   have C137 := gq' C130 hbw136
   have C138 := gq' C131 hbw136
   have C139 := gq' C132 hbw136
   have C140 := gq' C133 hbw136
   have C141 := gq' C134 hbw136
   have hbel142 := hbel135.trans (Below.mono hbw136 hbel135.size)
   clear C130 C131 C132 C133 C134 hbel135 hbw136
   go_wp2_with (first | (refine stB rfl 26 (.tmp 2) (.tmp 37) rfl w.heap.size rfl (natsV .u64 (zeros 4)) rfl 26 (natsV .u64 (zeros 4)) C137.out (i24 z4l) (lz4 z4l) n1' ?_; generalize hW : World.setRow _ _ _ = w143; obtain ⟨hgw143, hnw143⟩ := setfacts hW C137.out; clear hW; have E144 := Hd (C138.out.grown hgw143 (fun e => (show (w.heap.size + 1) ≠ w.heap.size by omega) (Option.some.inj e))); clear C138; have E145 := Hd (C139.out.grown hgw143 (fun e => (Ne.symm NE4.out) (Option.some.inj e))); clear C139; have E146 := Hd (C140.out.grown hgw143 (fun e => (Ne.symm NE6.out) (Option.some.inj e))); clear C140; have E147 := Hd (C141.out.grown hgw143 (fun e => (Ne.symm NE122.out) (Option.some.inj e))); clear C141; have D148 := Hd hnw143; clear hnw143 C137; have hbel149 := belStore hbel142 hgw143 (show w.heap.size ≤ w.heap.size by omega); clear hgw143; clear hbel142) | (refine stB rfl 26 (.tmp 3) (.tmp 38) rfl (w.heap.size + 1) rfl (natsV .u64 (zeros 4)) rfl 26 (natsV .u64 (zeros 4)) E144.out (i24 z4l) (lz4 z4l) n1' ?_; generalize hW : World.setRow _ _ _ = w150; obtain ⟨hgw150, hnw150⟩ := setfacts hW E144.out; clear hW; have E151 := Hd (D148.out.grown hgw150 (fun e => (show w.heap.size ≠ (w.heap.size + 1) by omega) (Option.some.inj e))); clear D148; have E152 := Hd (E145.out.grown hgw150 (fun e => (Ne.symm NE5.out) (Option.some.inj e))); clear E145; have E153 := Hd (E146.out.grown hgw150 (fun e => (Ne.symm NE7.out) (Option.some.inj e))); clear E146; have E154 := Hd (E147.out.grown hgw150 (fun e => (Ne.symm NE123.out) (Option.some.inj e))); clear E147; have D155 := Hd hnw150; clear hnw150 E144; have hbel156 := belStore hbel149 hgw150 (show w.heap.size ≤ (w.heap.size + 1) by omega); clear hgw150; clear hbel149))
   refine bodyPost_ret (v := .tuple #[.agg (natsV .u64 (zeros 4)).toArray, .agg (natsV .u64 (zeros 4)).toArray, .int .i64 73]) ?_ rfl ⟨rfl, hbel156⟩
   exact results_three Tryz.results9 _ _ w.heap.size (w.heap.size + 1) 26 26 _ _ (0, 0) (0, 0) _ _ _ rfl rfl rfl E151.out D155.out Tryz.underlying26 rfl (by simpa using (i24 z4l)) Tryz.underlying26 rfl (by simpa using (i24 z4l))
theorem wsplit_bad2 {B1 B2 lr ls : List Nat} {b o c : Nat} {ea eb : Int} (w : World) (hB1 : B1.length = 32) (hB2 : B2.length = 32) (hlr : lr.length = 4) (hls : ls.length = 4)
   (h64 : 64 ≤ c)
   (hcm : c ≤ maxLen)
   (hr1 : ∀ W, Below w.heap.size w W → W.rangeAt b o (natsV .u8 B1))
   (hr2 : ∀ W, Below w.heap.size w W → W.rangeAt b (o + 32) (natsV .u8 B2))
   (c1 : Ans 29 #[.agg (natsV .u8 B1).toArray] (.agg (natsV .u64 lr).toArray))
   (c2 : Ans 29 #[.agg (natsV .u8 B2).toArray] (.agg (natsV .u64 ls).toArray))
   (c3 : Ans 30 #[.agg (natsV .u64 lr).toArray] (.int .i64 ea))
   (c4 : Ans 27 #[.agg #[.int .i64 2, .int .i64 ea]] (.int .i64 0))
   (c5 : Ans 30 #[.agg (natsV .u64 ls).toArray] (.int .i64 eb))
   (c6 : Ans 27 #[.agg #[.int .i64 2, .int .i64 eb]] (.int .i64 73)) :
   Calls Tryz.prog 9 #[.slice (some ⟨b, o, none⟩) 64 c] w fun e w' => e = .returned (.tuple #[.agg (natsV .u64 (zeros 4)).toArray, .agg (natsV .u64 (zeros 4)).toArray, .int .i64 73]) ∧ Below w.heap.size w w' := by
 have L_B1 := Hd hB1
 have L_B2 := Hd hB2
 have L_lr := Hd hlr
 have L_ls := Hd hls
 have Hc1 := Hd c1
 have Hc2 := Hd c2
 have Hc3 := Hd c3
 have Hc4 := Hd c4
 have Hc5 := Hd c5
 have Hc6 := Hd c6
 clear hB1 hB2 hlr hls c1 c2 c3 c4 c5 c6
 unfold maxLen at hcm
 have HR1 := Hd hr1
 have HR2 := Hd hr2
 clear hr1 hr2
 have h32 : ¬ (c = 32) := by omega
 have h32i : (32 : Int) ≤ (c : Int) := by omega
 have h64i : (64 : Int) ≤ (c : Int) := by omega
 have IX0 := Hd (fun w => ix2_0 L_lr.out L_ls.out w)
 have IX1 := Hd (fun w => ix2_1 L_lr.out L_ls.out w)
 have B0_ := Hd ((Blk.new w  26 (natsV .u64 (zeros 4))).alloc (.cells (natsV .u64 (zeros 4)).toArray 26))
 have B1_ := Hd (Blk.new2 w (.cells (natsV .u64 (zeros 4)).toArray 26) 26 (natsV .u64 (zeros 4)))
 have bel_ := (((Below.refl w.heap.size w).alloc (Nat.le_refl _) (.cells (natsV .u64 (zeros 4)).toArray 26)).alloc (by simp) (.cells (natsV .u64 (zeros 4)).toArray 26))
 go_enter Tryz.func9, Tryz.ntmps9
 go_wp2_with fail
 as_aux_lemma =>
 refine wp_region_G (fun w_ => Below w.heap.size w w_) 13 (by kernel_rfl) bel_.drew ?_
 refine tkp gB0 0 rfl ?_
 try simp only [Act.put, zq]
 refine tkp gB0 1 rfl ?_
 try simp only [Act.put, zq]
 refine tk gB0 2 rfl (pureG (by rfl) (by intro w; have q := arr32 b o c w; go_simp; first | done | with_reducible rfl)) ?_
 try simp only [Act.put, zq]
 refine tk gB0 3 rfl (lg' (fun _ hS_ => HR1.out _ (hS_)) Tryz.underlying53 (i90 L_B1.out)) ?_
 try simp only [Act.put, zq]
 refine tk gB0 4 rfl (cg' Tryz.func29 (fun W_ hS_ => Hc1.out W_)) ?_
 try simp only [Act.put, zq]
 refine tkp gB0 5 rfl ?_
 try simp only [Act.put, zq]
 refine tkp gB0 6 rfl ?_
 try simp only [Act.put, zq]
 refine tk gB0 7 rfl (pureG (by rfl) (by intro w; have q := arr32 b (o + 32) (c - 32) w; go_simp; first | done | with_reducible rfl)) ?_
 try simp only [Act.put, zq]
 refine tk gB0 8 rfl (lg' (fun _ hS_ => HR2.out _ (hS_)) Tryz.underlying53 (i90 L_B2.out)) ?_
 try simp only [Act.put, zq]
 refine tk gB0 9 rfl (cg' Tryz.func29 (fun W_ hS_ => Hc2.out W_)) ?_
 try simp only [Act.put, zq]
 refine wpAnyG_def2 (i := 10) (j := 11) (k := 12) (l := 13) gB0 (by kernel_rfl) (by kernel_rfl) (by kernel_rfl) (by kernel_rfl) (by kernel_rfl) (by kernel_rfl) (by decide) rfl rfl rfl rfl rfl (allocG (by rfl) rfl _ alloc24) (allocG (by rfl) rfl _ alloc24) (fun _ => allocG (by rfl) rfl _ alloc24) (fun _ => allocG (by rfl) rfl _ alloc24) (fun _ _ => rfl) (lz4 L_lr.out) (lz4 L_ls.out) (fun _ _ => StoresG.mk (cs := (natsV .u64 lr)) (by rfl) 26 _ _ rfl rfl rfl (i24 L_lr.out) n1') (fun _ _ => StoresG.mk (cs := (natsV .u64 ls)) (by rfl) 26 _ _ rfl rfl rfl (i24 L_ls.out) n1') (fun g_ w_ hS_ hz_ hb_ => below_setRow' (gr_bel hS_ hb_) (Nat.le_trans hS_.size hz_) _) (bel_.drew) ?_
 intro w1 G2 G3 hgw1 hz_ hz2_ hne_ hn_ hn2_
 try simp only [Act.put, zq]
 have NE4 := Hd (Nat.ne_of_lt (Nat.lt_of_lt_of_le B0_.out.drew.lt hz_))
 have NE5 := Hd (Nat.ne_of_lt (Nat.lt_of_lt_of_le B1_.out.drew.lt hz_))
 have NE6 := Hd (Nat.ne_of_lt (Nat.lt_of_lt_of_le B0_.out.drew.lt hz2_))
 have NE7 := Hd (Nat.ne_of_lt (Nat.lt_of_lt_of_le B1_.out.drew.lt hz2_))
 have E8 := dq' B0_ hgw1
 have E9 := dq' B1_ hgw1
 have hbel10 := bel_.drew.trans (Below.mono hgw1 bel_.drew.size)
 have D11 := Hd hn_
 have D12 := Hd hn2_
 clear B0_ B1_ bel_ hn_ hn2_ hz_ hz2_ hne_ hgw1
 as_aux_lemma =>
 go_upto_region 4 with (fail)
 try simp only [Act.put, zq]
 refine wp_region_P (fun w_ => Blk w_ G2 26 (natsV .u64 lr) ∧ Blk w_ G3 26 (natsV .u64 ls)) 4 (by kernel_rfl) ⟨D11.out, D12.out⟩ ?_
 refine tk gS2 0 rfl (lg' (fun _ hS_ => blk_all (hS_.1)) Tryz.underlying26 (i24 L_lr.out)) ?_
 try simp only [Act.put, zq]
 refine tk gS2 1 rfl (lg' (fun _ hS_ => blk_all (hS_.2)) Tryz.underlying26 (i24 L_ls.out)) ?_
 try simp only [Act.put, zq]
 refine tk gS2 2 rfl (buildG (by rfl) _ _ rfl _ (built2n L_lr.out L_ls.out) (by simp [Act.eval])) ?_
 try simp only [Act.put, zq]
 refine tkp gS2 3 rfl ?_
 try simp only [Act.put, zq]
 refine wpAnyG_done (by kernel_rfl) ?_ _
 intro w13 hgw13
 try simp only [Act.put, zq]
 have C14 := gq' E8 hgw13
 have C15 := gq' E9 hgw13
 have C16 := gq' D11 hgw13
 have C17 := gq' D12 hgw13
 have hbel18 := hbel10.trans (Below.mono hgw13 hbel10.size)
 clear E8 E9 D11 D12 hbel10 hgw13
 go_wp2_with fail
 go_loopw [28] (fun v28 wr => ∃ i : Nat, i ≤ 1 ∧ v28 = .int .i64 i ∧ Blk wr G2 26 (natsV .u64 lr) ∧ Blk wr G3 26 (natsV .u64 ls) ∧ Blk wr w.heap.size 26 (natsV .u64 (zeros 4)) ∧ Blk wr (w.heap.size + 1) 26 (natsV .u64 (zeros 4)) ∧ Below w.heap.size w wr) (fun v28 _ => 2 - (intOf v28).toNat)
 case atStart => exact ⟨0, by omega, rfl, C16.out, C17.out, C14.out, C15.out, hbel18⟩
 case round =>
   clear C16 C17 C14 C15 hbel18
   obtain ⟨i, hi, rfl, k5, k6, k2, k3, hbq⟩ := hrel
   have K5 := Hd k5
   have K6 := Hd k6
   have K2 := Hd k2
   have K3 := Hd k3
   clear k5 k6 k2 k3
   obtain rfl | rfl := (show i = 0 ∨ i = 1 by omega)
   · as_aux_lemma =>
     rw [show ((0 : Nat) : Int) = 0 from rfl]
     have ix := IX0.out
     go_wp2_with (first | (refine stN rfl 26 (.tmp 8) (.tmp 30) rfl wr rfl (natsV .u64 lr) rfl 26 (natsV .u64 (zeros 4)) (i24 L_lr.out) (lz4 L_lr.out) n1' ?_; intro w119 hgw119 hnw119; have NE122 := Hd (Nat.ne_of_lt (K2.out.lt)); have NE123 := Hd (Nat.ne_of_lt (K3.out.lt)); have C124 := Hd (K2.out.gr hgw119); clear K2; have C125 := Hd (K3.out.gr hgw119); clear K3; have C126 := Hd (K5.out.gr hgw119); clear K5; have C127 := Hd (K6.out.gr hgw119); clear K6; have hbel128 := hbq.trans (Below.mono hgw119 hbq.size); clear hbq; have D121 := Hd hnw119; clear hnw119 hgw119; generalize wr.heap.size = G120 at *) | (refine lm' (blk_all (D121.out)) Tryz.underlying26 (i24 L_lr.out) ?_))
     refine (Hc3.out _).mono ?_
     rintro e w129 ⟨rfl, hbw129⟩
     have C130 := gq' C124 hbw129
     have C131 := gq' C125 hbw129
     have C132 := gq' C126 hbw129
     have C133 := gq' C127 hbw129
     have C134 := gq' D121 hbw129
     have hbel135 := hbel128.trans (Below.mono hbw129 hbel128.size)
     clear C124 C125 C126 C127 D121 hbel128 hbw129
     go_wp2_with fail
     refine (Hc4.out _).mono ?_
     rintro e w136 ⟨rfl, hbw136⟩
     have C137 := gq' C130 hbw136
     have C138 := gq' C131 hbw136
     have C139 := gq' C132 hbw136
     have C140 := gq' C133 hbw136
     have C141 := gq' C134 hbw136
     have hbel142 := hbel135.trans (Below.mono hbw136 hbel135.size)
     clear C130 C131 C132 C133 C134 hbel135 hbw136
     go_wp2_with fail
     go_roundw
     case rel => exact ⟨1, by omega, rfl, C139.out, C140.out, C137.out, C138.out, hbel142⟩
     case measure => simp [intOf]
   · as_aux_lemma =>
     rw [show ((1 : Nat) : Int) = 1 from rfl]
     have ix := IX1.out
     go_wp2_with (first | (refine stN rfl 26 (.tmp 8) (.tmp 30) rfl wr rfl (natsV .u64 ls) rfl 26 (natsV .u64 (zeros 4)) (i24 L_ls.out) (lz4 L_ls.out) n1' ?_; intro w219 hgw219 hnw219; have NE222 := Hd (Nat.ne_of_lt (K2.out.lt)); have NE223 := Hd (Nat.ne_of_lt (K3.out.lt)); have C224 := Hd (K2.out.gr hgw219); clear K2; have C225 := Hd (K3.out.gr hgw219); clear K3; have C226 := Hd (K5.out.gr hgw219); clear K5; have C227 := Hd (K6.out.gr hgw219); clear K6; have hbel228 := hbq.trans (Below.mono hgw219 hbq.size); clear hbq; have D221 := Hd hnw219; clear hnw219 hgw219; generalize wr.heap.size = G220 at *) | (refine lm' (blk_all (D221.out)) Tryz.underlying26 (i24 L_ls.out) ?_))
     refine (Hc5.out _).mono ?_
     rintro e w229 ⟨rfl, hbw229⟩
     have C230 := gq' C224 hbw229
     have C231 := gq' C225 hbw229
     have C232 := gq' C226 hbw229
     have C233 := gq' C227 hbw229
     have C234 := gq' D221 hbw229
     have hbel235 := hbel228.trans (Below.mono hbw229 hbel228.size)
     clear C224 C225 C226 C227 D221 hbel228 hbw229
     go_wp2_with fail
     refine (Hc6.out _).mono ?_
     rintro e w236 ⟨rfl, hbw236⟩
     have C237 := gq' C230 hbw236
     have C238 := gq' C231 hbw236
     have C239 := gq' C232 hbw236
     have C240 := gq' C233 hbw236
     have C241 := gq' C234 hbw236
     have hbel242 := hbel235.trans (Below.mono hbw236 hbel235.size)
     clear C230 C231 C232 C233 C234 hbel235 hbw236
     go_wp2_with (first | (refine stB rfl 26 (.tmp 2) (.tmp 37) rfl w.heap.size rfl (natsV .u64 (zeros 4)) rfl 26 (natsV .u64 (zeros 4)) C237.out (i24 z4l) (lz4 z4l) n1' ?_; generalize hW : World.setRow _ _ _ = w243; obtain ⟨hgw243, hnw243⟩ := setfacts hW C237.out; clear hW; have E244 := Hd (C238.out.grown hgw243 (fun e => (show (w.heap.size + 1) ≠ w.heap.size by omega) (Option.some.inj e))); clear C238; have E245 := Hd (C239.out.grown hgw243 (fun e => (Ne.symm NE4.out) (Option.some.inj e))); clear C239; have E246 := Hd (C240.out.grown hgw243 (fun e => (Ne.symm NE6.out) (Option.some.inj e))); clear C240; have E247 := Hd (C241.out.grown hgw243 (fun e => (Ne.symm NE222.out) (Option.some.inj e))); clear C241; have D248 := Hd hnw243; clear hnw243 C237; have hbel249 := belStore hbel242 hgw243 (show w.heap.size ≤ w.heap.size by omega); clear hgw243; clear hbel242) | (refine stB rfl 26 (.tmp 3) (.tmp 38) rfl (w.heap.size + 1) rfl (natsV .u64 (zeros 4)) rfl 26 (natsV .u64 (zeros 4)) E244.out (i24 z4l) (lz4 z4l) n1' ?_; generalize hW : World.setRow _ _ _ = w250; obtain ⟨hgw250, hnw250⟩ := setfacts hW E244.out; clear hW; have E251 := Hd (D248.out.grown hgw250 (fun e => (show w.heap.size ≠ (w.heap.size + 1) by omega) (Option.some.inj e))); clear D248; have E252 := Hd (E245.out.grown hgw250 (fun e => (Ne.symm NE5.out) (Option.some.inj e))); clear E245; have E253 := Hd (E246.out.grown hgw250 (fun e => (Ne.symm NE7.out) (Option.some.inj e))); clear E246; have E254 := Hd (E247.out.grown hgw250 (fun e => (Ne.symm NE223.out) (Option.some.inj e))); clear E247; have D255 := Hd hnw250; clear hnw250 E244; have hbel256 := belStore hbel249 hgw250 (show w.heap.size ≤ (w.heap.size + 1) by omega); clear hgw250; clear hbel249))
     refine bodyPost_ret (v := .tuple #[.agg (natsV .u64 (zeros 4)).toArray, .agg (natsV .u64 (zeros 4)).toArray, .int .i64 73]) ?_ rfl ⟨rfl, hbel256⟩
     exact results_three Tryz.results9 _ _ w.heap.size (w.heap.size + 1) 26 26 _ _ (0, 0) (0, 0) _ _ _ rfl rfl rfl E251.out D255.out Tryz.underlying26 rfl (by simpa using (i24 z4l)) Tryz.underlying26 rfl (by simpa using (i24 z4l))
theorem wsplit_ok {B1 B2 lr ls : List Nat} {b o c : Nat} {ea eb : Int} (w : World) (hB1 : B1.length = 32) (hB2 : B2.length = 32) (hlr : lr.length = 4) (hls : ls.length = 4)
   (h64 : 64 ≤ c)
   (hcm : c ≤ maxLen)
   (hr1 : ∀ W, Below w.heap.size w W → W.rangeAt b o (natsV .u8 B1))
   (hr2 : ∀ W, Below w.heap.size w W → W.rangeAt b (o + 32) (natsV .u8 B2))
   (c1 : Ans 29 #[.agg (natsV .u8 B1).toArray] (.agg (natsV .u64 lr).toArray))
   (c2 : Ans 29 #[.agg (natsV .u8 B2).toArray] (.agg (natsV .u64 ls).toArray))
   (c3 : Ans 30 #[.agg (natsV .u64 lr).toArray] (.int .i64 ea))
   (c4 : Ans 27 #[.agg #[.int .i64 2, .int .i64 ea]] (.int .i64 0))
   (c5 : Ans 30 #[.agg (natsV .u64 ls).toArray] (.int .i64 eb))
   (c6 : Ans 27 #[.agg #[.int .i64 2, .int .i64 eb]] (.int .i64 0)) :
   Calls Tryz.prog 9 #[.slice (some ⟨b, o, none⟩) 64 c] w fun e w' => e = .returned (.tuple #[.agg (natsV .u64 lr).toArray, .agg (natsV .u64 ls).toArray, .int .i64 0]) ∧ Below w.heap.size w w' := by
 have L_B1 := Hd hB1
 have L_B2 := Hd hB2
 have L_lr := Hd hlr
 have L_ls := Hd hls
 have Hc1 := Hd c1
 have Hc2 := Hd c2
 have Hc3 := Hd c3
 have Hc4 := Hd c4
 have Hc5 := Hd c5
 have Hc6 := Hd c6
 clear hB1 hB2 hlr hls c1 c2 c3 c4 c5 c6
 unfold maxLen at hcm
 have HR1 := Hd hr1
 have HR2 := Hd hr2
 clear hr1 hr2
 have h32 : ¬ (c = 32) := by omega
 have h32i : (32 : Int) ≤ (c : Int) := by omega
 have h64i : (64 : Int) ≤ (c : Int) := by omega
 have IX0 := Hd (fun w => ix2_0 L_lr.out L_ls.out w)
 have IX1 := Hd (fun w => ix2_1 L_lr.out L_ls.out w)
 have B0_ := Hd ((Blk.new w  26 (natsV .u64 (zeros 4))).alloc (.cells (natsV .u64 (zeros 4)).toArray 26))
 have B1_ := Hd (Blk.new2 w (.cells (natsV .u64 (zeros 4)).toArray 26) 26 (natsV .u64 (zeros 4)))
 have bel_ := (((Below.refl w.heap.size w).alloc (Nat.le_refl _) (.cells (natsV .u64 (zeros 4)).toArray 26)).alloc (by simp) (.cells (natsV .u64 (zeros 4)).toArray 26))
 go_enter Tryz.func9, Tryz.ntmps9
 go_wp2_with fail
 as_aux_lemma =>
 refine wp_region_G (fun w_ => Below w.heap.size w w_) 13 (by kernel_rfl) bel_.drew ?_
 refine tkp gB0 0 rfl ?_
 try simp only [Act.put, zq]
 refine tkp gB0 1 rfl ?_
 try simp only [Act.put, zq]
 refine tk gB0 2 rfl (pureG (by rfl) (by intro w; have q := arr32 b o c w; go_simp; first | done | with_reducible rfl)) ?_
 try simp only [Act.put, zq]
 refine tk gB0 3 rfl (lg' (fun _ hS_ => HR1.out _ (hS_)) Tryz.underlying53 (i90 L_B1.out)) ?_
 try simp only [Act.put, zq]
 refine tk gB0 4 rfl (cg' Tryz.func29 (fun W_ hS_ => Hc1.out W_)) ?_
 try simp only [Act.put, zq]
 refine tkp gB0 5 rfl ?_
 try simp only [Act.put, zq]
 refine tkp gB0 6 rfl ?_
 try simp only [Act.put, zq]
 refine tk gB0 7 rfl (pureG (by rfl) (by intro w; have q := arr32 b (o + 32) (c - 32) w; go_simp; first | done | with_reducible rfl)) ?_
 try simp only [Act.put, zq]
 refine tk gB0 8 rfl (lg' (fun _ hS_ => HR2.out _ (hS_)) Tryz.underlying53 (i90 L_B2.out)) ?_
 try simp only [Act.put, zq]
 refine tk gB0 9 rfl (cg' Tryz.func29 (fun W_ hS_ => Hc2.out W_)) ?_
 try simp only [Act.put, zq]
 refine wpAnyG_def2 (i := 10) (j := 11) (k := 12) (l := 13) gB0 (by kernel_rfl) (by kernel_rfl) (by kernel_rfl) (by kernel_rfl) (by kernel_rfl) (by kernel_rfl) (by decide) rfl rfl rfl rfl rfl (allocG (by rfl) rfl _ alloc24) (allocG (by rfl) rfl _ alloc24) (fun _ => allocG (by rfl) rfl _ alloc24) (fun _ => allocG (by rfl) rfl _ alloc24) (fun _ _ => rfl) (lz4 L_lr.out) (lz4 L_ls.out) (fun _ _ => StoresG.mk (cs := (natsV .u64 lr)) (by rfl) 26 _ _ rfl rfl rfl (i24 L_lr.out) n1') (fun _ _ => StoresG.mk (cs := (natsV .u64 ls)) (by rfl) 26 _ _ rfl rfl rfl (i24 L_ls.out) n1') (fun g_ w_ hS_ hz_ hb_ => below_setRow' (gr_bel hS_ hb_) (Nat.le_trans hS_.size hz_) _) (bel_.drew) ?_
 intro w1 G2 G3 hgw1 hz_ hz2_ hne_ hn_ hn2_
 try simp only [Act.put, zq]
 have NE4 := Hd (Nat.ne_of_lt (Nat.lt_of_lt_of_le B0_.out.drew.lt hz_))
 have NE5 := Hd (Nat.ne_of_lt (Nat.lt_of_lt_of_le B1_.out.drew.lt hz_))
 have NE6 := Hd (Nat.ne_of_lt (Nat.lt_of_lt_of_le B0_.out.drew.lt hz2_))
 have NE7 := Hd (Nat.ne_of_lt (Nat.lt_of_lt_of_le B1_.out.drew.lt hz2_))
 have E8 := dq' B0_ hgw1
 have E9 := dq' B1_ hgw1
 have hbel10 := bel_.drew.trans (Below.mono hgw1 bel_.drew.size)
 have D11 := Hd hn_
 have D12 := Hd hn2_
 clear B0_ B1_ bel_ hn_ hn2_ hz_ hz2_ hne_ hgw1
 as_aux_lemma =>
 go_upto_region 4 with (fail)
 try simp only [Act.put, zq]
 refine wp_region_P (fun w_ => Blk w_ G2 26 (natsV .u64 lr) ∧ Blk w_ G3 26 (natsV .u64 ls)) 4 (by kernel_rfl) ⟨D11.out, D12.out⟩ ?_
 refine tk gS2 0 rfl (lg' (fun _ hS_ => blk_all (hS_.1)) Tryz.underlying26 (i24 L_lr.out)) ?_
 try simp only [Act.put, zq]
 refine tk gS2 1 rfl (lg' (fun _ hS_ => blk_all (hS_.2)) Tryz.underlying26 (i24 L_ls.out)) ?_
 try simp only [Act.put, zq]
 refine tk gS2 2 rfl (buildG (by rfl) _ _ rfl _ (built2n L_lr.out L_ls.out) (by simp [Act.eval])) ?_
 try simp only [Act.put, zq]
 refine tkp gS2 3 rfl ?_
 try simp only [Act.put, zq]
 refine wpAnyG_done (by kernel_rfl) ?_ _
 intro w13 hgw13
 try simp only [Act.put, zq]
 have C14 := gq' E8 hgw13
 have C15 := gq' E9 hgw13
 have C16 := gq' D11 hgw13
 have C17 := gq' D12 hgw13
 have hbel18 := hbel10.trans (Below.mono hgw13 hbel10.size)
 clear E8 E9 D11 D12 hbel10 hgw13
 go_wp2_with fail
 go_loopw [28] (fun v28 wr => ∃ i : Nat, i ≤ 2 ∧ v28 = .int .i64 i ∧ Blk wr G2 26 (natsV .u64 lr) ∧ Blk wr G3 26 (natsV .u64 ls) ∧ Blk wr w.heap.size 26 (natsV .u64 (zeros 4)) ∧ Blk wr (w.heap.size + 1) 26 (natsV .u64 (zeros 4)) ∧ Below w.heap.size w wr) (fun v28 _ => 2 - (intOf v28).toNat)
 case atStart => exact ⟨0, by omega, rfl, C16.out, C17.out, C14.out, C15.out, hbel18⟩
 case round =>
   clear C16 C17 C14 C15 hbel18
   obtain ⟨i, hi, rfl, k5, k6, k2, k3, hbq⟩ := hrel
   have K5 := Hd k5
   have K6 := Hd k6
   have K2 := Hd k2
   have K3 := Hd k3
   clear k5 k6 k2 k3
   obtain rfl | rfl | rfl := (show i = 0 ∨ i = 1 ∨ i = 2 by omega)
   · as_aux_lemma =>
     rw [show ((0 : Nat) : Int) = 0 from rfl]
     have ix := IX0.out
     go_wp2_with (first | (refine stN rfl 26 (.tmp 8) (.tmp 30) rfl wr rfl (natsV .u64 lr) rfl 26 (natsV .u64 (zeros 4)) (i24 L_lr.out) (lz4 L_lr.out) n1' ?_; intro w119 hgw119 hnw119; have NE122 := Hd (Nat.ne_of_lt (K2.out.lt)); have NE123 := Hd (Nat.ne_of_lt (K3.out.lt)); have C124 := Hd (K2.out.gr hgw119); clear K2; have C125 := Hd (K3.out.gr hgw119); clear K3; have C126 := Hd (K5.out.gr hgw119); clear K5; have C127 := Hd (K6.out.gr hgw119); clear K6; have hbel128 := hbq.trans (Below.mono hgw119 hbq.size); clear hbq; have D121 := Hd hnw119; clear hnw119 hgw119; generalize wr.heap.size = G120 at *) | (refine lm' (blk_all (D121.out)) Tryz.underlying26 (i24 L_lr.out) ?_))
     refine (Hc3.out _).mono ?_
     rintro e w129 ⟨rfl, hbw129⟩
     have C130 := gq' C124 hbw129
     have C131 := gq' C125 hbw129
     have C132 := gq' C126 hbw129
     have C133 := gq' C127 hbw129
     have C134 := gq' D121 hbw129
     have hbel135 := hbel128.trans (Below.mono hbw129 hbel128.size)
     clear C124 C125 C126 C127 D121 hbel128 hbw129
     go_wp2_with fail
     refine (Hc4.out _).mono ?_
     rintro e w136 ⟨rfl, hbw136⟩
     have C137 := gq' C130 hbw136
     have C138 := gq' C131 hbw136
     have C139 := gq' C132 hbw136
     have C140 := gq' C133 hbw136
     have C141 := gq' C134 hbw136
     have hbel142 := hbel135.trans (Below.mono hbw136 hbel135.size)
     clear C130 C131 C132 C133 C134 hbel135 hbw136
     go_wp2_with fail
     go_roundw
     case rel => exact ⟨1, by omega, rfl, C139.out, C140.out, C137.out, C138.out, hbel142⟩
     case measure => simp [intOf]
   · as_aux_lemma =>
     rw [show ((1 : Nat) : Int) = 1 from rfl]
     have ix := IX1.out
     go_wp2_with (first | (refine stN rfl 26 (.tmp 8) (.tmp 30) rfl wr rfl (natsV .u64 ls) rfl 26 (natsV .u64 (zeros 4)) (i24 L_ls.out) (lz4 L_ls.out) n1' ?_; intro w219 hgw219 hnw219; have NE222 := Hd (Nat.ne_of_lt (K2.out.lt)); have NE223 := Hd (Nat.ne_of_lt (K3.out.lt)); have C224 := Hd (K2.out.gr hgw219); clear K2; have C225 := Hd (K3.out.gr hgw219); clear K3; have C226 := Hd (K5.out.gr hgw219); clear K5; have C227 := Hd (K6.out.gr hgw219); clear K6; have hbel228 := hbq.trans (Below.mono hgw219 hbq.size); clear hbq; have D221 := Hd hnw219; clear hnw219 hgw219; generalize wr.heap.size = G220 at *) | (refine lm' (blk_all (D221.out)) Tryz.underlying26 (i24 L_ls.out) ?_))
     refine (Hc5.out _).mono ?_
     rintro e w229 ⟨rfl, hbw229⟩
     have C230 := gq' C224 hbw229
     have C231 := gq' C225 hbw229
     have C232 := gq' C226 hbw229
     have C233 := gq' C227 hbw229
     have C234 := gq' D221 hbw229
     have hbel235 := hbel228.trans (Below.mono hbw229 hbel228.size)
     clear C224 C225 C226 C227 D221 hbel228 hbw229
     go_wp2_with fail
     refine (Hc6.out _).mono ?_
     rintro e w236 ⟨rfl, hbw236⟩
     have C237 := gq' C230 hbw236
     have C238 := gq' C231 hbw236
     have C239 := gq' C232 hbw236
     have C240 := gq' C233 hbw236
     have C241 := gq' C234 hbw236
     have hbel242 := hbel235.trans (Below.mono hbw236 hbel235.size)
     clear C230 C231 C232 C233 C234 hbel235 hbw236
     go_wp2_with fail
     go_roundw
     case rel => exact ⟨2, by omega, rfl, C239.out, C240.out, C237.out, C238.out, hbel242⟩
     case measure => simp [intOf]
   · as_aux_lemma =>
     rw [show ((2 : Nat) : Int) = 2 from rfl]
     go_wp2_with fail
     as_aux_lemma =>
     refine wp_region_G (fun w_ => Blk w_ G2 26 (natsV .u64 lr) ∧ Blk w_ G3 26 (natsV .u64 ls)) 5 (by kernel_rfl) ⟨K5.out.drew, K6.out.drew⟩ ?_
     refine tk gS2 0 rfl (lg' (fun _ hS_ => blk_all (hS_.1)) Tryz.underlying26 (i24 L_lr.out)) ?_
     try simp only [Act.put, zq]
     refine tk gS2 1 rfl (lg' (fun _ hS_ => blk_all (hS_.2)) Tryz.underlying26 (i24 L_ls.out)) ?_
     try simp only [Act.put, zq]
     refine wpAnyG_store (i := 2) (by kernel_rfl) rfl K2.out.drew (lz4 L_lr.out) (StoresG.mk (cs := (natsV .u64 lr)) (by rfl) 26 _ _ rfl rfl rfl (i24 L_lr.out) n1') (.inr (fun _ hS_ => ⟨hS_.1.row _ ((Ne.symm NE4.out)), hS_.2.row _ ((Ne.symm NE6.out))⟩)) ?_
     intro w320 hgw320 hn_
     try simp only [Act.put, zq]
     have E321 := Hd (K3.out.drew.grown hgw320 (fun e => (show (w.heap.size + 1) ≠ w.heap.size by omega) (Option.some.inj e)))
     have E322 := Hd (K5.out.drew.grown hgw320 (fun e => (Ne.symm NE4.out) (Option.some.inj e)))
     have E323 := Hd (K6.out.drew.grown hgw320 (fun e => (Ne.symm NE6.out) (Option.some.inj e)))
     have D324 := Hd hn_
     have hbel325 := belStore hbq.drew hgw320 (show w.heap.size ≤ w.heap.size by omega)
     clear K3 K5 K6 hn_ K2 hgw320
     refine wpAnyG_store (i := 3) (by kernel_rfl) rfl E321.out (lz4 L_ls.out) (StoresG.mk (cs := (natsV .u64 ls)) (by rfl) 26 _ _ rfl rfl rfl (i24 L_ls.out) n1') (.inr (fun _ hS_ => ⟨hS_.1.row _ ((Ne.symm NE5.out)), hS_.2.row _ ((Ne.symm NE7.out))⟩)) ?_
     intro w326 hgw326 hn_
     try simp only [Act.put, zq]
     have E327 := Hd (D324.out.grown hgw326 (fun e => (show w.heap.size ≠ (w.heap.size + 1) by omega) (Option.some.inj e)))
     have E328 := Hd (E322.out.grown hgw326 (fun e => (Ne.symm NE5.out) (Option.some.inj e)))
     have E329 := Hd (E323.out.grown hgw326 (fun e => (Ne.symm NE7.out) (Option.some.inj e)))
     have D330 := Hd hn_
     have hbel331 := belStore hbel325 hgw326 (show w.heap.size ≤ (w.heap.size + 1) by omega)
     clear D324 E322 E323 hn_ E321 hgw326
     refine tkp gS2 4 rfl ?_
     try simp only [Act.put, zq]
     refine wpAnyG_done (by kernel_rfl) ?_ _
     intro w332 hgw332
     try simp only [Act.put, zq]
     have C333 := gq' E327 hgw332
     have C334 := gq' D330 hgw332
     have C335 := gq' E328 hgw332
     have C336 := gq' E329 hgw332
     have hbel337 := hbel331.trans (Below.mono hgw332 hbel331.size)
     clear E327 D330 E328 E329 hbel331 hgw332
     as_aux_lemma =>
     go_wp2_with fail
     refine bodyPost_ret (v := .tuple #[.agg (natsV .u64 lr).toArray, .agg (natsV .u64 ls).toArray, .int .i64 0]) ?_ rfl ⟨rfl, hbel337⟩
     exact results_three Tryz.results9 _ _ w.heap.size (w.heap.size + 1) 26 26 _ _ (0, 0) (0, 0) _ _ _ rfl rfl rfl C333.out C334.out Tryz.underlying26 rfl (by simpa using (i24 L_lr.out)) Tryz.underlying26 rfl (by simpa using (i24 L_ls.out))
theorem dsplit_len {A : Option Addr} {n c : Nat} (w : World) 
   (hn : n ≠ 64) :
   Calls Tryz.prog 10 #[.slice A n c] w fun e w' => e = .returned (.tuple #[.agg (natsV .u64 (zeros 4)).toArray, .agg (natsV .u64 (zeros 4)).toArray, .int .i64 72]) ∧ Below w.heap.size w w' := by
 have h64 : ((n : Int) != 64) = true := by rw [bne_iff_ne]; omega
 have h64n : ¬ (n = 64) := hn
 have B0_ := Hd (((Blk.new w  26 (natsV .u64 (zeros 4))).alloc (.cells (natsV .u64 (zeros 4)).toArray 26)).alloc (.cells (natsV .u64 (zeros 4)).toArray 26))
 have B1_ := Hd ((Blk.new2 w (.cells (natsV .u64 (zeros 4)).toArray 26) 26 (natsV .u64 (zeros 4))).alloc (.cells (natsV .u64 (zeros 4)).toArray 26))
 have B2_ := Hd (Blk.new3 w (.cells (natsV .u64 (zeros 4)).toArray 26) (.cells (natsV .u64 (zeros 4)).toArray 26) 26 (natsV .u64 (zeros 4)))
 have bel_ := ((((Below.refl w.heap.size w).alloc (Nat.le_refl _) (.cells (natsV .u64 (zeros 4)).toArray 26)).alloc (by simp) (.cells (natsV .u64 (zeros 4)).toArray 26)).alloc (by simp; omega) (.cells (natsV .u64 (zeros 4)).toArray 26))
 go_enter Tryz.func10, Tryz.ntmps10
 go_wp2_with fail
 as_aux_lemma =>
 refine wp_region_G (fun w_ => Blk w_ (w.heap.size + 1 + 1) 26 (natsV .u64 (zeros 4))) 5 (by kernel_rfl) B2_.out.drew ?_
 refine tk gS1 0 rfl (lg' (fun _ hS_ => blk_all (hS_)) Tryz.underlying26 (i24 z4l)) ?_
 try simp only [Act.put, zq]
 refine tk gS1 1 rfl (lg' (fun _ hS_ => blk_all (hS_)) Tryz.underlying26 (i24 z4l)) ?_
 try simp only [Act.put, zq]
 refine wpAnyG_store (i := 2) (by kernel_rfl) rfl B0_.out.drew (lz4 z4l) (StoresG.mk (cs := (natsV .u64 (zeros 4))) (by rfl) 26 _ _ rfl rfl rfl (i24 z4l) n1') (.inr (fun _ hS_ => hS_.row _ ((show (w.heap.size + 1 + 1) ≠ w.heap.size by omega)))) ?_
 intro w2 hgw2 hn_
 try simp only [Act.put, zq]
 have E3 := Hd (B2_.out.drew.grown hgw2 (fun e => (show (w.heap.size + 1 + 1) ≠ w.heap.size by omega) (Option.some.inj e)))
 have E4 := Hd (B1_.out.drew.grown hgw2 (fun e => (show (w.heap.size + 1) ≠ w.heap.size by omega) (Option.some.inj e)))
 have D5 := Hd hn_
 have hbel6 := belStore bel_.drew hgw2 (show w.heap.size ≤ w.heap.size by omega)
 clear B2_ B1_ hn_ B0_ hgw2
 refine wpAnyG_store (i := 3) (by kernel_rfl) rfl E4.out (lz4 z4l) (StoresG.mk (cs := (natsV .u64 (zeros 4))) (by rfl) 26 _ _ rfl rfl rfl (i24 z4l) n1') (.inr (fun _ hS_ => hS_.row _ ((show (w.heap.size + 1 + 1) ≠ (w.heap.size + 1) by omega)))) ?_
 intro w7 hgw7 hn_
 try simp only [Act.put, zq]
 have E8 := Hd (E3.out.grown hgw7 (fun e => (show (w.heap.size + 1 + 1) ≠ (w.heap.size + 1) by omega) (Option.some.inj e)))
 have E9 := Hd (D5.out.grown hgw7 (fun e => (show w.heap.size ≠ (w.heap.size + 1) by omega) (Option.some.inj e)))
 have D10 := Hd hn_
 have hbel11 := belStore hbel6 hgw7 (show w.heap.size ≤ (w.heap.size + 1) by omega)
 clear E3 D5 hn_ E4 hgw7
 refine tkp gS1 4 rfl ?_
 try simp only [Act.put, zq]
 refine wpAnyG_done (by kernel_rfl) ?_ _
 intro w12 hgw12
 try simp only [Act.put, zq]
 have C13 := gq' E8 hgw12
 have C14 := gq' E9 hgw12
 have C15 := gq' D10 hgw12
 have hbel16 := hbel11.trans (Below.mono hgw12 hbel11.size)
 clear E8 E9 D10 hbel11 hgw12
 as_aux_lemma =>
 go_wp2_with fail
 refine bodyPost_ret (v := .tuple #[.agg (natsV .u64 (zeros 4)).toArray, .agg (natsV .u64 (zeros 4)).toArray, .int .i64 72]) ?_ rfl ⟨rfl, hbel16⟩
 exact results_three Tryz.results10 _ _ w.heap.size (w.heap.size + 1) 26 26 _ _ (0, 0) (0, 0) _ _ _ rfl rfl rfl C14.out C15.out Tryz.underlying26 rfl (by simpa using (i24 z4l)) Tryz.underlying26 rfl (by simpa using (i24 z4l))
theorem dsplit_r0 {lr ls ln : List Nat} {b o c : Nat} {u1 u2 : Bool} (w : World) (hlr : lr.length = 4) (hls : ls.length = 4) (hln : ln.length = 4)
   (h64 : 64 ≤ c)
   (hcm : c ≤ maxLen)
   (z1 : lr = zeros 4)
   (c1 : ∀ W, Below w.heap.size w W → Calls Tryz.prog 23 #[.slice (some ⟨b, o, none⟩) 32 c] W fun e w' => e = .returned (.agg (natsV .u64 lr).toArray) ∧ Below W.heap.size W w')
   (c2 : ∀ W, Below w.heap.size w W → Calls Tryz.prog 23 #[.slice (some ⟨b, o + 32, none⟩) 32 (c - 32)] W fun e w' => e = .returned (.agg (natsV .u64 ls).toArray) ∧ Below W.heap.size W w')
   (c3 : Ans 17 #[] (.agg (natsV .u64 ln).toArray))
   (c4 : Ans 31 #[.agg (natsV .u64 lr).toArray, .agg (natsV .u64 ln).toArray] (.bool u1))
   (c5 : Ans 31 #[.agg (natsV .u64 ls).toArray, .agg (natsV .u64 ln).toArray] (.bool u2)) :
   Calls Tryz.prog 10 #[.slice (some ⟨b, o, none⟩) 64 c] w fun e w' => e = .returned (.tuple #[.agg (natsV .u64 (zeros 4)).toArray, .agg (natsV .u64 (zeros 4)).toArray, .int .i64 73]) ∧ Below w.heap.size w w' := by
 have L_lr := Hd hlr
 have L_ls := Hd hls
 have L_ln := Hd hln
 have Hc1 := Hd c1
 have Hc2 := Hd c2
 have Hc3 := Hd c3
 have Hc4 := Hd c4
 have Hc5 := Hd c5
 clear hlr hls hln c1 c2 c3 c4 c5
 unfold maxLen at hcm
 have h32 : ¬ (c = 32) := by omega
 have h32i : (32 : Int) ≤ (c : Int) := by omega
 have h64i : (64 : Int) ≤ (c : Int) := by omega
 have Q1 := Hd (fun w => (eql24 lr (zeros 4) L_lr.out rfl w).trans (by rw [decide_eq_true z1]))
 have B0_ := Hd (((Blk.new w  26 (natsV .u64 (zeros 4))).alloc (.cells (natsV .u64 (zeros 4)).toArray 26)).alloc (.cells (natsV .u64 (zeros 4)).toArray 26))
 have B1_ := Hd ((Blk.new2 w (.cells (natsV .u64 (zeros 4)).toArray 26) 26 (natsV .u64 (zeros 4))).alloc (.cells (natsV .u64 (zeros 4)).toArray 26))
 have B2_ := Hd (Blk.new3 w (.cells (natsV .u64 (zeros 4)).toArray 26) (.cells (natsV .u64 (zeros 4)).toArray 26) 26 (natsV .u64 (zeros 4)))
 clear z1
 have bel_ := ((((Below.refl w.heap.size w).alloc (Nat.le_refl _) (.cells (natsV .u64 (zeros 4)).toArray 26)).alloc (by simp) (.cells (natsV .u64 (zeros 4)).toArray 26)).alloc (by simp; omega) (.cells (natsV .u64 (zeros 4)).toArray 26))
 go_enter Tryz.func10, Tryz.ntmps10
 go_wp2_with fail
 refine (Hc1.out _ bel_).mono ?_
 rintro e w1 ⟨rfl, hbw1⟩
 have C2 := gq' B2_ hbw1
 have C3 := gq' B0_ hbw1
 have C4 := gq' B1_ hbw1
 have hbel5 := bel_.trans (Below.mono hbw1 bel_.size)
 clear B2_ B0_ B1_ bel_ hbw1
 go_wp2_with (first | (refine stN rfl 26 (.tmp 6) (.tmp 19) rfl w1 rfl (natsV .u64 lr) rfl 26 (natsV .u64 (zeros 4)) (i24 L_lr.out) (lz4 L_lr.out) n1' ?_; intro w6 hgw6 hnw6; have NE9 := Hd (Nat.ne_of_lt (C3.out.lt)); have NE10 := Hd (Nat.ne_of_lt (C4.out.lt)); have C11 := gq' C2 hgw6; clear C2; have C12 := gq' C3 hgw6; clear C3; have C13 := gq' C4 hgw6; clear C4; have hbel14 := hbel5.trans (Below.mono hgw6 hbel5.size); clear hbel5; have D8 := Hd hnw6; clear hnw6 hgw6; generalize w1.heap.size = G7 at *))
 refine (Hc2.out _ hbel14).mono ?_
 rintro e w15 ⟨rfl, hbw15⟩
 have C16 := gq' C11 hbw15
 have C17 := gq' C12 hbw15
 have C18 := gq' C13 hbw15
 have C19 := gq' D8 hbw15
 have hbel20 := hbel14.trans (Below.mono hbw15 hbel14.size)
 clear C11 C12 C13 D8 hbel14 hbw15
 go_wp2_with (first | (refine stN rfl 26 (.tmp 7) (.tmp 22) rfl w15 rfl (natsV .u64 ls) rfl 26 (natsV .u64 (zeros 4)) (i24 L_ls.out) (lz4 L_ls.out) n1' ?_; intro w21 hgw21 hnw21; have NE24 := Hd (Nat.ne_of_lt (C17.out.lt)); have NE25 := Hd (Nat.ne_of_lt (C18.out.lt)); have C26 := gq' C16 hgw21; clear C16; have C27 := gq' C17 hgw21; clear C17; have C28 := gq' C18 hgw21; clear C18; have C29 := gq' C19 hgw21; clear C19; have hbel30 := hbel20.trans (Below.mono hgw21 hbel20.size); clear hbel20; have D23 := Hd hnw21; clear hnw21 hgw21; generalize w15.heap.size = G22 at *))
 refine (Hc3.out _).mono ?_
 rintro e w31 ⟨rfl, hbw31⟩
 have C32 := gq' C26 hbw31
 have C33 := gq' C27 hbw31
 have C34 := gq' C28 hbw31
 have C35 := gq' C29 hbw31
 have C36 := gq' D23 hbw31
 have hbel37 := hbel30.trans (Below.mono hbw31 hbel30.size)
 clear C26 C27 C28 C29 D23 hbel30 hbw31
 go_wp2_with (first | (refine stN rfl 26 (.tmp 8) (.tmp 23) rfl w31 rfl (natsV .u64 ln) rfl 26 (natsV .u64 (zeros 4)) (i24 L_ln.out) (lz4 L_ln.out) n1' ?_; intro w38 hgw38 hnw38; have NE41 := Hd (Nat.ne_of_lt (C33.out.lt)); have NE42 := Hd (Nat.ne_of_lt (C34.out.lt)); have C43 := gq' C32 hgw38; clear C32; have C44 := gq' C33 hgw38; clear C33; have C45 := gq' C34 hgw38; clear C34; have C46 := gq' C35 hgw38; clear C35; have C47 := gq' C36 hgw38; clear C36; have hbel48 := hbel37.trans (Below.mono hgw38 hbel37.size); clear hbel37; have D40 := Hd hnw38; clear hnw38 hgw38; generalize w31.heap.size = G39 at *) | (refine lm' (blk_all (C46.out)) Tryz.underlying26 (i24 L_lr.out) ?_) | (refine lm' (blk_all (D40.out)) Tryz.underlying26 (i24 L_ln.out) ?_))
 refine (Hc4.out _).mono ?_
 rintro e w49 ⟨rfl, hbw49⟩
 have C50 := gq' C43 hbw49
 have C51 := gq' C44 hbw49
 have C52 := gq' C45 hbw49
 have C53 := gq' C46 hbw49
 have C54 := gq' C47 hbw49
 have C55 := gq' D40 hbw49
 have hbel56 := hbel48.trans (Below.mono hbw49 hbel48.size)
 clear C43 C44 C45 C46 C47 D40 hbel48 hbw49
 go_wp2_with (first | (refine lm' (blk_all (C54.out)) Tryz.underlying26 (i24 L_ls.out) ?_) | (refine lm' (blk_all (C55.out)) Tryz.underlying26 (i24 L_ln.out) ?_))
 refine (Hc5.out _).mono ?_
 rintro e w57 ⟨rfl, hbw57⟩
 have C58 := gq' C50 hbw57
 have C59 := gq' C51 hbw57
 have C60 := gq' C52 hbw57
 have C61 := gq' C53 hbw57
 have C62 := gq' C54 hbw57
 have C63 := gq' C55 hbw57
 have hbel64 := hbel56.trans (Below.mono hbw57 hbel56.size)
 have qa := Q1.out
 clear C50 C51 C52 C53 C54 C55 hbel56 hbw57
 go_wp2_with (first | (refine lm' (blk_all (C61.out)) Tryz.underlying26 (i24 L_lr.out) ?_) | (refine lm' (blk_all (C58.out)) Tryz.underlying26 (i24 z4l) ?_) | (refine ldwM 26 (.tmp 7) rfl G22 0 rfl (natsV .u64 ls) _ (blk_all (C62.out)) Tryz.underlying26 rfl (i24 L_ls.out) 3 false rfl 33 rfl rfl ?_) | (refine ldwM 26 (.tmp 5) rfl (w.heap.size + 1 + 1) 0 rfl (natsV .u64 (zeros 4)) _ (blk_all (C58.out)) Tryz.underlying26 rfl (i24 z4l) 3 false rfl 33 rfl rfl ?_))
 as_aux_lemma =>
 refine wp_region_G (fun w_ => Blk w_ (w.heap.size + 1 + 1) 26 (natsV .u64 (zeros 4))) 5 (by kernel_rfl) C58.out.drew ?_
 refine tk gS1 0 rfl (lg' (fun _ hS_ => blk_all (hS_)) Tryz.underlying26 (i24 z4l)) ?_
 try simp only [Act.put, zq]
 refine tk gS1 1 rfl (lg' (fun _ hS_ => blk_all (hS_)) Tryz.underlying26 (i24 z4l)) ?_
 try simp only [Act.put, zq]
 refine wpAnyG_store (i := 2) (by kernel_rfl) rfl C59.out.drew (lz4 z4l) (StoresG.mk (cs := (natsV .u64 (zeros 4))) (by rfl) 26 _ _ rfl rfl rfl (i24 z4l) n1') (.inr (fun _ hS_ => hS_.row _ ((show (w.heap.size + 1 + 1) ≠ w.heap.size by omega)))) ?_
 intro w66 hgw66 hn_
 try simp only [Act.put, zq]
 have E67 := Hd (C58.out.drew.grown hgw66 (fun e => (show (w.heap.size + 1 + 1) ≠ w.heap.size by omega) (Option.some.inj e)))
 have E68 := Hd (C60.out.drew.grown hgw66 (fun e => (show (w.heap.size + 1) ≠ w.heap.size by omega) (Option.some.inj e)))
 have E69 := Hd (C61.out.drew.grown hgw66 (fun e => (Ne.symm NE9.out) (Option.some.inj e)))
 have E70 := Hd (C62.out.drew.grown hgw66 (fun e => (Ne.symm NE24.out) (Option.some.inj e)))
 have E71 := Hd (C63.out.drew.grown hgw66 (fun e => (Ne.symm NE41.out) (Option.some.inj e)))
 have D72 := Hd hn_
 have hbel73 := belStore hbel64.drew hgw66 (show w.heap.size ≤ w.heap.size by omega)
 clear C58 C60 C61 C62 C63 hn_ C59 hgw66
 refine wpAnyG_store (i := 3) (by kernel_rfl) rfl E68.out (lz4 z4l) (StoresG.mk (cs := (natsV .u64 (zeros 4))) (by rfl) 26 _ _ rfl rfl rfl (i24 z4l) n1') (.inr (fun _ hS_ => hS_.row _ ((show (w.heap.size + 1 + 1) ≠ (w.heap.size + 1) by omega)))) ?_
 intro w74 hgw74 hn_
 try simp only [Act.put, zq]
 have E75 := Hd (E67.out.grown hgw74 (fun e => (show (w.heap.size + 1 + 1) ≠ (w.heap.size + 1) by omega) (Option.some.inj e)))
 have E76 := Hd (D72.out.grown hgw74 (fun e => (show w.heap.size ≠ (w.heap.size + 1) by omega) (Option.some.inj e)))
 have E77 := Hd (E69.out.grown hgw74 (fun e => (Ne.symm NE10.out) (Option.some.inj e)))
 have E78 := Hd (E70.out.grown hgw74 (fun e => (Ne.symm NE25.out) (Option.some.inj e)))
 have E79 := Hd (E71.out.grown hgw74 (fun e => (Ne.symm NE42.out) (Option.some.inj e)))
 have D80 := Hd hn_
 have hbel81 := belStore hbel73 hgw74 (show w.heap.size ≤ (w.heap.size + 1) by omega)
 clear E67 D72 E69 E70 E71 hn_ E68 hgw74
 refine tkp gS1 4 rfl ?_
 try simp only [Act.put, zq]
 refine wpAnyG_done (by kernel_rfl) ?_ _
 intro w82 hgw82
 try simp only [Act.put, zq]
 have C83 := gq' E75 hgw82
 have C84 := gq' E76 hgw82
 have C85 := gq' D80 hgw82
 have C86 := gq' E77 hgw82
 have C87 := gq' E78 hgw82
 have C88 := gq' E79 hgw82
 have hbel89 := hbel81.trans (Below.mono hgw82 hbel81.size)
 clear E75 E76 D80 E77 E78 E79 hbel81 hgw82
 as_aux_lemma =>
 go_wp2_with fail
 refine bodyPost_ret (v := .tuple #[.agg (natsV .u64 (zeros 4)).toArray, .agg (natsV .u64 (zeros 4)).toArray, .int .i64 73]) ?_ rfl ⟨rfl, hbel89⟩
 exact results_three Tryz.results10 _ _ w.heap.size (w.heap.size + 1) 26 26 _ _ (0, 0) (0, 0) _ _ _ rfl rfl rfl C84.out C85.out Tryz.underlying26 rfl (by simpa using (i24 z4l)) Tryz.underlying26 rfl (by simpa using (i24 z4l))
theorem dsplit_s0 {lr ls ln : List Nat} {b o c : Nat} {u1 u2 : Bool} (w : World) (hlr : lr.length = 4) (hls : ls.length = 4) (hln : ln.length = 4)
   (h64 : 64 ≤ c)
   (hcm : c ≤ maxLen)
   (z1 : ¬ lr = zeros 4)
   (z2 : ls = zeros 4)
   (c1 : ∀ W, Below w.heap.size w W → Calls Tryz.prog 23 #[.slice (some ⟨b, o, none⟩) 32 c] W fun e w' => e = .returned (.agg (natsV .u64 lr).toArray) ∧ Below W.heap.size W w')
   (c2 : ∀ W, Below w.heap.size w W → Calls Tryz.prog 23 #[.slice (some ⟨b, o + 32, none⟩) 32 (c - 32)] W fun e w' => e = .returned (.agg (natsV .u64 ls).toArray) ∧ Below W.heap.size W w')
   (c3 : Ans 17 #[] (.agg (natsV .u64 ln).toArray))
   (c4 : Ans 31 #[.agg (natsV .u64 lr).toArray, .agg (natsV .u64 ln).toArray] (.bool u1))
   (c5 : Ans 31 #[.agg (natsV .u64 ls).toArray, .agg (natsV .u64 ln).toArray] (.bool u2)) :
   Calls Tryz.prog 10 #[.slice (some ⟨b, o, none⟩) 64 c] w fun e w' => e = .returned (.tuple #[.agg (natsV .u64 (zeros 4)).toArray, .agg (natsV .u64 (zeros 4)).toArray, .int .i64 73]) ∧ Below w.heap.size w w' := by
 have L_lr := Hd hlr
 have L_ls := Hd hls
 have L_ln := Hd hln
 have Hc1 := Hd c1
 have Hc2 := Hd c2
 have Hc3 := Hd c3
 have Hc4 := Hd c4
 have Hc5 := Hd c5
 clear hlr hls hln c1 c2 c3 c4 c5
 unfold maxLen at hcm
 have h32 : ¬ (c = 32) := by omega
 have h32i : (32 : Int) ≤ (c : Int) := by omega
 have h64i : (64 : Int) ≤ (c : Int) := by omega
 have Q1 := Hd (fun w => (eql24 lr (zeros 4) L_lr.out rfl w).trans (by rw [decide_eq_false z1]))
 have Q2 := Hd (fun w => (eql24 ls (zeros 4) L_ls.out rfl w).trans (by rw [decide_eq_true z2]))
 have B0_ := Hd (((Blk.new w  26 (natsV .u64 (zeros 4))).alloc (.cells (natsV .u64 (zeros 4)).toArray 26)).alloc (.cells (natsV .u64 (zeros 4)).toArray 26))
 have B1_ := Hd ((Blk.new2 w (.cells (natsV .u64 (zeros 4)).toArray 26) 26 (natsV .u64 (zeros 4))).alloc (.cells (natsV .u64 (zeros 4)).toArray 26))
 have B2_ := Hd (Blk.new3 w (.cells (natsV .u64 (zeros 4)).toArray 26) (.cells (natsV .u64 (zeros 4)).toArray 26) 26 (natsV .u64 (zeros 4)))
 clear z1 z2
 have bel_ := ((((Below.refl w.heap.size w).alloc (Nat.le_refl _) (.cells (natsV .u64 (zeros 4)).toArray 26)).alloc (by simp) (.cells (natsV .u64 (zeros 4)).toArray 26)).alloc (by simp; omega) (.cells (natsV .u64 (zeros 4)).toArray 26))
 go_enter Tryz.func10, Tryz.ntmps10
 go_wp2_with fail
 refine (Hc1.out _ bel_).mono ?_
 rintro e w1 ⟨rfl, hbw1⟩
 have C2 := gq' B2_ hbw1
 have C3 := gq' B0_ hbw1
 have C4 := gq' B1_ hbw1
 have hbel5 := bel_.trans (Below.mono hbw1 bel_.size)
 clear B2_ B0_ B1_ bel_ hbw1
 go_wp2_with (first | (refine stN rfl 26 (.tmp 6) (.tmp 19) rfl w1 rfl (natsV .u64 lr) rfl 26 (natsV .u64 (zeros 4)) (i24 L_lr.out) (lz4 L_lr.out) n1' ?_; intro w6 hgw6 hnw6; have NE9 := Hd (Nat.ne_of_lt (C3.out.lt)); have NE10 := Hd (Nat.ne_of_lt (C4.out.lt)); have C11 := gq' C2 hgw6; clear C2; have C12 := gq' C3 hgw6; clear C3; have C13 := gq' C4 hgw6; clear C4; have hbel14 := hbel5.trans (Below.mono hgw6 hbel5.size); clear hbel5; have D8 := Hd hnw6; clear hnw6 hgw6; generalize w1.heap.size = G7 at *))
 refine (Hc2.out _ hbel14).mono ?_
 rintro e w15 ⟨rfl, hbw15⟩
 have C16 := gq' C11 hbw15
 have C17 := gq' C12 hbw15
 have C18 := gq' C13 hbw15
 have C19 := gq' D8 hbw15
 have hbel20 := hbel14.trans (Below.mono hbw15 hbel14.size)
 clear C11 C12 C13 D8 hbel14 hbw15
 go_wp2_with (first | (refine stN rfl 26 (.tmp 7) (.tmp 22) rfl w15 rfl (natsV .u64 ls) rfl 26 (natsV .u64 (zeros 4)) (i24 L_ls.out) (lz4 L_ls.out) n1' ?_; intro w21 hgw21 hnw21; have NE24 := Hd (Nat.ne_of_lt (C17.out.lt)); have NE25 := Hd (Nat.ne_of_lt (C18.out.lt)); have C26 := gq' C16 hgw21; clear C16; have C27 := gq' C17 hgw21; clear C17; have C28 := gq' C18 hgw21; clear C18; have C29 := gq' C19 hgw21; clear C19; have hbel30 := hbel20.trans (Below.mono hgw21 hbel20.size); clear hbel20; have D23 := Hd hnw21; clear hnw21 hgw21; generalize w15.heap.size = G22 at *))
 refine (Hc3.out _).mono ?_
 rintro e w31 ⟨rfl, hbw31⟩
 have C32 := gq' C26 hbw31
 have C33 := gq' C27 hbw31
 have C34 := gq' C28 hbw31
 have C35 := gq' C29 hbw31
 have C36 := gq' D23 hbw31
 have hbel37 := hbel30.trans (Below.mono hbw31 hbel30.size)
 clear C26 C27 C28 C29 D23 hbel30 hbw31
 go_wp2_with (first | (refine stN rfl 26 (.tmp 8) (.tmp 23) rfl w31 rfl (natsV .u64 ln) rfl 26 (natsV .u64 (zeros 4)) (i24 L_ln.out) (lz4 L_ln.out) n1' ?_; intro w38 hgw38 hnw38; have NE41 := Hd (Nat.ne_of_lt (C33.out.lt)); have NE42 := Hd (Nat.ne_of_lt (C34.out.lt)); have C43 := gq' C32 hgw38; clear C32; have C44 := gq' C33 hgw38; clear C33; have C45 := gq' C34 hgw38; clear C34; have C46 := gq' C35 hgw38; clear C35; have C47 := gq' C36 hgw38; clear C36; have hbel48 := hbel37.trans (Below.mono hgw38 hbel37.size); clear hbel37; have D40 := Hd hnw38; clear hnw38 hgw38; generalize w31.heap.size = G39 at *) | (refine lm' (blk_all (C46.out)) Tryz.underlying26 (i24 L_lr.out) ?_) | (refine lm' (blk_all (D40.out)) Tryz.underlying26 (i24 L_ln.out) ?_))
 refine (Hc4.out _).mono ?_
 rintro e w49 ⟨rfl, hbw49⟩
 have C50 := gq' C43 hbw49
 have C51 := gq' C44 hbw49
 have C52 := gq' C45 hbw49
 have C53 := gq' C46 hbw49
 have C54 := gq' C47 hbw49
 have C55 := gq' D40 hbw49
 have hbel56 := hbel48.trans (Below.mono hbw49 hbel48.size)
 clear C43 C44 C45 C46 C47 D40 hbel48 hbw49
 go_wp2_with (first | (refine lm' (blk_all (C54.out)) Tryz.underlying26 (i24 L_ls.out) ?_) | (refine lm' (blk_all (C55.out)) Tryz.underlying26 (i24 L_ln.out) ?_))
 refine (Hc5.out _).mono ?_
 rintro e w57 ⟨rfl, hbw57⟩
 have C58 := gq' C50 hbw57
 have C59 := gq' C51 hbw57
 have C60 := gq' C52 hbw57
 have C61 := gq' C53 hbw57
 have C62 := gq' C54 hbw57
 have C63 := gq' C55 hbw57
 have hbel64 := hbel56.trans (Below.mono hbw57 hbel56.size)
 have qa := Q1.out
 have qb := Q2.out
 clear C50 C51 C52 C53 C54 C55 hbel56 hbw57
 go_wp2_with (first | (refine lm' (blk_all (C61.out)) Tryz.underlying26 (i24 L_lr.out) ?_) | (refine lm' (blk_all (C58.out)) Tryz.underlying26 (i24 z4l) ?_) | (refine ldwM 26 (.tmp 7) rfl G22 0 rfl (natsV .u64 ls) _ (blk_all (C62.out)) Tryz.underlying26 rfl (i24 L_ls.out) 3 false rfl 33 rfl rfl ?_) | (refine ldwM 26 (.tmp 5) rfl (w.heap.size + 1 + 1) 0 rfl (natsV .u64 (zeros 4)) _ (blk_all (C58.out)) Tryz.underlying26 rfl (i24 z4l) 3 false rfl 33 rfl rfl ?_))
 as_aux_lemma =>
 refine wp_region_G (fun w_ => Blk w_ (w.heap.size + 1 + 1) 26 (natsV .u64 (zeros 4))) 5 (by kernel_rfl) C58.out.drew ?_
 refine tk gS1 0 rfl (lg' (fun _ hS_ => blk_all (hS_)) Tryz.underlying26 (i24 z4l)) ?_
 try simp only [Act.put, zq]
 refine tk gS1 1 rfl (lg' (fun _ hS_ => blk_all (hS_)) Tryz.underlying26 (i24 z4l)) ?_
 try simp only [Act.put, zq]
 refine wpAnyG_store (i := 2) (by kernel_rfl) rfl C59.out.drew (lz4 z4l) (StoresG.mk (cs := (natsV .u64 (zeros 4))) (by rfl) 26 _ _ rfl rfl rfl (i24 z4l) n1') (.inr (fun _ hS_ => hS_.row _ ((show (w.heap.size + 1 + 1) ≠ w.heap.size by omega)))) ?_
 intro w66 hgw66 hn_
 try simp only [Act.put, zq]
 have E67 := Hd (C58.out.drew.grown hgw66 (fun e => (show (w.heap.size + 1 + 1) ≠ w.heap.size by omega) (Option.some.inj e)))
 have E68 := Hd (C60.out.drew.grown hgw66 (fun e => (show (w.heap.size + 1) ≠ w.heap.size by omega) (Option.some.inj e)))
 have E69 := Hd (C61.out.drew.grown hgw66 (fun e => (Ne.symm NE9.out) (Option.some.inj e)))
 have E70 := Hd (C62.out.drew.grown hgw66 (fun e => (Ne.symm NE24.out) (Option.some.inj e)))
 have E71 := Hd (C63.out.drew.grown hgw66 (fun e => (Ne.symm NE41.out) (Option.some.inj e)))
 have D72 := Hd hn_
 have hbel73 := belStore hbel64.drew hgw66 (show w.heap.size ≤ w.heap.size by omega)
 clear C58 C60 C61 C62 C63 hn_ C59 hgw66
 refine wpAnyG_store (i := 3) (by kernel_rfl) rfl E68.out (lz4 z4l) (StoresG.mk (cs := (natsV .u64 (zeros 4))) (by rfl) 26 _ _ rfl rfl rfl (i24 z4l) n1') (.inr (fun _ hS_ => hS_.row _ ((show (w.heap.size + 1 + 1) ≠ (w.heap.size + 1) by omega)))) ?_
 intro w74 hgw74 hn_
 try simp only [Act.put, zq]
 have E75 := Hd (E67.out.grown hgw74 (fun e => (show (w.heap.size + 1 + 1) ≠ (w.heap.size + 1) by omega) (Option.some.inj e)))
 have E76 := Hd (D72.out.grown hgw74 (fun e => (show w.heap.size ≠ (w.heap.size + 1) by omega) (Option.some.inj e)))
 have E77 := Hd (E69.out.grown hgw74 (fun e => (Ne.symm NE10.out) (Option.some.inj e)))
 have E78 := Hd (E70.out.grown hgw74 (fun e => (Ne.symm NE25.out) (Option.some.inj e)))
 have E79 := Hd (E71.out.grown hgw74 (fun e => (Ne.symm NE42.out) (Option.some.inj e)))
 have D80 := Hd hn_
 have hbel81 := belStore hbel73 hgw74 (show w.heap.size ≤ (w.heap.size + 1) by omega)
 clear E67 D72 E69 E70 E71 hn_ E68 hgw74
 refine tkp gS1 4 rfl ?_
 try simp only [Act.put, zq]
 refine wpAnyG_done (by kernel_rfl) ?_ _
 intro w82 hgw82
 try simp only [Act.put, zq]
 have C83 := gq' E75 hgw82
 have C84 := gq' E76 hgw82
 have C85 := gq' D80 hgw82
 have C86 := gq' E77 hgw82
 have C87 := gq' E78 hgw82
 have C88 := gq' E79 hgw82
 have hbel89 := hbel81.trans (Below.mono hgw82 hbel81.size)
 clear E75 E76 D80 E77 E78 E79 hbel81 hgw82
 as_aux_lemma =>
 go_wp2_with fail
 refine bodyPost_ret (v := .tuple #[.agg (natsV .u64 (zeros 4)).toArray, .agg (natsV .u64 (zeros 4)).toArray, .int .i64 73]) ?_ rfl ⟨rfl, hbel89⟩
 exact results_three Tryz.results10 _ _ w.heap.size (w.heap.size + 1) 26 26 _ _ (0, 0) (0, 0) _ _ _ rfl rfl rfl C84.out C85.out Tryz.underlying26 rfl (by simpa using (i24 z4l)) Tryz.underlying26 rfl (by simpa using (i24 z4l))
theorem dsplit_rl {lr ls ln : List Nat} {b o c : Nat} {u1 u2 : Bool} (w : World) (hlr : lr.length = 4) (hls : ls.length = 4) (hln : ln.length = 4)
   (h64 : 64 ≤ c)
   (hcm : c ≤ maxLen)
   (z1 : ¬ lr = zeros 4)
   (z2 : ¬ ls = zeros 4)
   (c1 : ∀ W, Below w.heap.size w W → Calls Tryz.prog 23 #[.slice (some ⟨b, o, none⟩) 32 c] W fun e w' => e = .returned (.agg (natsV .u64 lr).toArray) ∧ Below W.heap.size W w')
   (c2 : ∀ W, Below w.heap.size w W → Calls Tryz.prog 23 #[.slice (some ⟨b, o + 32, none⟩) 32 (c - 32)] W fun e w' => e = .returned (.agg (natsV .u64 ls).toArray) ∧ Below W.heap.size W w')
   (c3 : Ans 17 #[] (.agg (natsV .u64 ln).toArray))
   (c4 : Ans 31 #[.agg (natsV .u64 lr).toArray, .agg (natsV .u64 ln).toArray] (.bool false))
   (c5 : Ans 31 #[.agg (natsV .u64 ls).toArray, .agg (natsV .u64 ln).toArray] (.bool u2)) :
   Calls Tryz.prog 10 #[.slice (some ⟨b, o, none⟩) 64 c] w fun e w' => e = .returned (.tuple #[.agg (natsV .u64 (zeros 4)).toArray, .agg (natsV .u64 (zeros 4)).toArray, .int .i64 73]) ∧ Below w.heap.size w w' := by
 have L_lr := Hd hlr
 have L_ls := Hd hls
 have L_ln := Hd hln
 have Hc1 := Hd c1
 have Hc2 := Hd c2
 have Hc3 := Hd c3
 have Hc4 := Hd c4
 have Hc5 := Hd c5
 clear hlr hls hln c1 c2 c3 c4 c5
 unfold maxLen at hcm
 have h32 : ¬ (c = 32) := by omega
 have h32i : (32 : Int) ≤ (c : Int) := by omega
 have h64i : (64 : Int) ≤ (c : Int) := by omega
 have Q1 := Hd (fun w => (eql24 lr (zeros 4) L_lr.out rfl w).trans (by rw [decide_eq_false z1]))
 have Q2 := Hd (fun w => (eql24 ls (zeros 4) L_ls.out rfl w).trans (by rw [decide_eq_false z2]))
 have B0_ := Hd (((Blk.new w  26 (natsV .u64 (zeros 4))).alloc (.cells (natsV .u64 (zeros 4)).toArray 26)).alloc (.cells (natsV .u64 (zeros 4)).toArray 26))
 have B1_ := Hd ((Blk.new2 w (.cells (natsV .u64 (zeros 4)).toArray 26) 26 (natsV .u64 (zeros 4))).alloc (.cells (natsV .u64 (zeros 4)).toArray 26))
 have B2_ := Hd (Blk.new3 w (.cells (natsV .u64 (zeros 4)).toArray 26) (.cells (natsV .u64 (zeros 4)).toArray 26) 26 (natsV .u64 (zeros 4)))
 clear z1 z2
 have bel_ := ((((Below.refl w.heap.size w).alloc (Nat.le_refl _) (.cells (natsV .u64 (zeros 4)).toArray 26)).alloc (by simp) (.cells (natsV .u64 (zeros 4)).toArray 26)).alloc (by simp; omega) (.cells (natsV .u64 (zeros 4)).toArray 26))
 go_enter Tryz.func10, Tryz.ntmps10
 go_wp2_with fail
 refine (Hc1.out _ bel_).mono ?_
 rintro e w1 ⟨rfl, hbw1⟩
 have C2 := gq' B2_ hbw1
 have C3 := gq' B0_ hbw1
 have C4 := gq' B1_ hbw1
 have hbel5 := bel_.trans (Below.mono hbw1 bel_.size)
 clear B2_ B0_ B1_ bel_ hbw1
 go_wp2_with (first | (refine stN rfl 26 (.tmp 6) (.tmp 19) rfl w1 rfl (natsV .u64 lr) rfl 26 (natsV .u64 (zeros 4)) (i24 L_lr.out) (lz4 L_lr.out) n1' ?_; intro w6 hgw6 hnw6; have NE9 := Hd (Nat.ne_of_lt (C3.out.lt)); have NE10 := Hd (Nat.ne_of_lt (C4.out.lt)); have C11 := gq' C2 hgw6; clear C2; have C12 := gq' C3 hgw6; clear C3; have C13 := gq' C4 hgw6; clear C4; have hbel14 := hbel5.trans (Below.mono hgw6 hbel5.size); clear hbel5; have D8 := Hd hnw6; clear hnw6 hgw6; generalize w1.heap.size = G7 at *))
 refine (Hc2.out _ hbel14).mono ?_
 rintro e w15 ⟨rfl, hbw15⟩
 have C16 := gq' C11 hbw15
 have C17 := gq' C12 hbw15
 have C18 := gq' C13 hbw15
 have C19 := gq' D8 hbw15
 have hbel20 := hbel14.trans (Below.mono hbw15 hbel14.size)
 clear C11 C12 C13 D8 hbel14 hbw15
 go_wp2_with (first | (refine stN rfl 26 (.tmp 7) (.tmp 22) rfl w15 rfl (natsV .u64 ls) rfl 26 (natsV .u64 (zeros 4)) (i24 L_ls.out) (lz4 L_ls.out) n1' ?_; intro w21 hgw21 hnw21; have NE24 := Hd (Nat.ne_of_lt (C17.out.lt)); have NE25 := Hd (Nat.ne_of_lt (C18.out.lt)); have C26 := gq' C16 hgw21; clear C16; have C27 := gq' C17 hgw21; clear C17; have C28 := gq' C18 hgw21; clear C18; have C29 := gq' C19 hgw21; clear C19; have hbel30 := hbel20.trans (Below.mono hgw21 hbel20.size); clear hbel20; have D23 := Hd hnw21; clear hnw21 hgw21; generalize w15.heap.size = G22 at *))
 refine (Hc3.out _).mono ?_
 rintro e w31 ⟨rfl, hbw31⟩
 have C32 := gq' C26 hbw31
 have C33 := gq' C27 hbw31
 have C34 := gq' C28 hbw31
 have C35 := gq' C29 hbw31
 have C36 := gq' D23 hbw31
 have hbel37 := hbel30.trans (Below.mono hbw31 hbel30.size)
 clear C26 C27 C28 C29 D23 hbel30 hbw31
 go_wp2_with (first | (refine stN rfl 26 (.tmp 8) (.tmp 23) rfl w31 rfl (natsV .u64 ln) rfl 26 (natsV .u64 (zeros 4)) (i24 L_ln.out) (lz4 L_ln.out) n1' ?_; intro w38 hgw38 hnw38; have NE41 := Hd (Nat.ne_of_lt (C33.out.lt)); have NE42 := Hd (Nat.ne_of_lt (C34.out.lt)); have C43 := gq' C32 hgw38; clear C32; have C44 := gq' C33 hgw38; clear C33; have C45 := gq' C34 hgw38; clear C34; have C46 := gq' C35 hgw38; clear C35; have C47 := gq' C36 hgw38; clear C36; have hbel48 := hbel37.trans (Below.mono hgw38 hbel37.size); clear hbel37; have D40 := Hd hnw38; clear hnw38 hgw38; generalize w31.heap.size = G39 at *) | (refine lm' (blk_all (C46.out)) Tryz.underlying26 (i24 L_lr.out) ?_) | (refine lm' (blk_all (D40.out)) Tryz.underlying26 (i24 L_ln.out) ?_))
 refine (Hc4.out _).mono ?_
 rintro e w49 ⟨rfl, hbw49⟩
 have C50 := gq' C43 hbw49
 have C51 := gq' C44 hbw49
 have C52 := gq' C45 hbw49
 have C53 := gq' C46 hbw49
 have C54 := gq' C47 hbw49
 have C55 := gq' D40 hbw49
 have hbel56 := hbel48.trans (Below.mono hbw49 hbel48.size)
 clear C43 C44 C45 C46 C47 D40 hbel48 hbw49
 go_wp2_with (first | (refine lm' (blk_all (C54.out)) Tryz.underlying26 (i24 L_ls.out) ?_) | (refine lm' (blk_all (C55.out)) Tryz.underlying26 (i24 L_ln.out) ?_))
 refine (Hc5.out _).mono ?_
 rintro e w57 ⟨rfl, hbw57⟩
 have C58 := gq' C50 hbw57
 have C59 := gq' C51 hbw57
 have C60 := gq' C52 hbw57
 have C61 := gq' C53 hbw57
 have C62 := gq' C54 hbw57
 have C63 := gq' C55 hbw57
 have hbel64 := hbel56.trans (Below.mono hbw57 hbel56.size)
 have qa := Q1.out
 have qb := Q2.out
 clear C50 C51 C52 C53 C54 C55 hbel56 hbw57
 go_wp2_with (first | (refine lm' (blk_all (C61.out)) Tryz.underlying26 (i24 L_lr.out) ?_) | (refine lm' (blk_all (C58.out)) Tryz.underlying26 (i24 z4l) ?_) | (refine ldwM 26 (.tmp 7) rfl G22 0 rfl (natsV .u64 ls) _ (blk_all (C62.out)) Tryz.underlying26 rfl (i24 L_ls.out) 3 false rfl 33 rfl rfl ?_) | (refine ldwM 26 (.tmp 5) rfl (w.heap.size + 1 + 1) 0 rfl (natsV .u64 (zeros 4)) _ (blk_all (C58.out)) Tryz.underlying26 rfl (i24 z4l) 3 false rfl 33 rfl rfl ?_))
 as_aux_lemma =>
 refine wp_region_G (fun w_ => Blk w_ (w.heap.size + 1 + 1) 26 (natsV .u64 (zeros 4))) 5 (by kernel_rfl) C58.out.drew ?_
 refine tk gS1 0 rfl (lg' (fun _ hS_ => blk_all (hS_)) Tryz.underlying26 (i24 z4l)) ?_
 try simp only [Act.put, zq]
 refine tk gS1 1 rfl (lg' (fun _ hS_ => blk_all (hS_)) Tryz.underlying26 (i24 z4l)) ?_
 try simp only [Act.put, zq]
 refine wpAnyG_store (i := 2) (by kernel_rfl) rfl C59.out.drew (lz4 z4l) (StoresG.mk (cs := (natsV .u64 (zeros 4))) (by rfl) 26 _ _ rfl rfl rfl (i24 z4l) n1') (.inr (fun _ hS_ => hS_.row _ ((show (w.heap.size + 1 + 1) ≠ w.heap.size by omega)))) ?_
 intro w66 hgw66 hn_
 try simp only [Act.put, zq]
 have E67 := Hd (C58.out.drew.grown hgw66 (fun e => (show (w.heap.size + 1 + 1) ≠ w.heap.size by omega) (Option.some.inj e)))
 have E68 := Hd (C60.out.drew.grown hgw66 (fun e => (show (w.heap.size + 1) ≠ w.heap.size by omega) (Option.some.inj e)))
 have E69 := Hd (C61.out.drew.grown hgw66 (fun e => (Ne.symm NE9.out) (Option.some.inj e)))
 have E70 := Hd (C62.out.drew.grown hgw66 (fun e => (Ne.symm NE24.out) (Option.some.inj e)))
 have E71 := Hd (C63.out.drew.grown hgw66 (fun e => (Ne.symm NE41.out) (Option.some.inj e)))
 have D72 := Hd hn_
 have hbel73 := belStore hbel64.drew hgw66 (show w.heap.size ≤ w.heap.size by omega)
 clear C58 C60 C61 C62 C63 hn_ C59 hgw66
 refine wpAnyG_store (i := 3) (by kernel_rfl) rfl E68.out (lz4 z4l) (StoresG.mk (cs := (natsV .u64 (zeros 4))) (by rfl) 26 _ _ rfl rfl rfl (i24 z4l) n1') (.inr (fun _ hS_ => hS_.row _ ((show (w.heap.size + 1 + 1) ≠ (w.heap.size + 1) by omega)))) ?_
 intro w74 hgw74 hn_
 try simp only [Act.put, zq]
 have E75 := Hd (E67.out.grown hgw74 (fun e => (show (w.heap.size + 1 + 1) ≠ (w.heap.size + 1) by omega) (Option.some.inj e)))
 have E76 := Hd (D72.out.grown hgw74 (fun e => (show w.heap.size ≠ (w.heap.size + 1) by omega) (Option.some.inj e)))
 have E77 := Hd (E69.out.grown hgw74 (fun e => (Ne.symm NE10.out) (Option.some.inj e)))
 have E78 := Hd (E70.out.grown hgw74 (fun e => (Ne.symm NE25.out) (Option.some.inj e)))
 have E79 := Hd (E71.out.grown hgw74 (fun e => (Ne.symm NE42.out) (Option.some.inj e)))
 have D80 := Hd hn_
 have hbel81 := belStore hbel73 hgw74 (show w.heap.size ≤ (w.heap.size + 1) by omega)
 clear E67 D72 E69 E70 E71 hn_ E68 hgw74
 refine tkp gS1 4 rfl ?_
 try simp only [Act.put, zq]
 refine wpAnyG_done (by kernel_rfl) ?_ _
 intro w82 hgw82
 try simp only [Act.put, zq]
 have C83 := gq' E75 hgw82
 have C84 := gq' E76 hgw82
 have C85 := gq' D80 hgw82
 have C86 := gq' E77 hgw82
 have C87 := gq' E78 hgw82
 have C88 := gq' E79 hgw82
 have hbel89 := hbel81.trans (Below.mono hgw82 hbel81.size)
 clear E75 E76 D80 E77 E78 E79 hbel81 hgw82
 as_aux_lemma =>
 go_wp2_with fail
 refine bodyPost_ret (v := .tuple #[.agg (natsV .u64 (zeros 4)).toArray, .agg (natsV .u64 (zeros 4)).toArray, .int .i64 73]) ?_ rfl ⟨rfl, hbel89⟩
 exact results_three Tryz.results10 _ _ w.heap.size (w.heap.size + 1) 26 26 _ _ (0, 0) (0, 0) _ _ _ rfl rfl rfl C84.out C85.out Tryz.underlying26 rfl (by simpa using (i24 z4l)) Tryz.underlying26 rfl (by simpa using (i24 z4l))
theorem dsplit_sl {lr ls ln : List Nat} {b o c : Nat} {u1 u2 : Bool} (w : World) (hlr : lr.length = 4) (hls : ls.length = 4) (hln : ln.length = 4)
   (h64 : 64 ≤ c)
   (hcm : c ≤ maxLen)
   (z1 : ¬ lr = zeros 4)
   (z2 : ¬ ls = zeros 4)
   (c1 : ∀ W, Below w.heap.size w W → Calls Tryz.prog 23 #[.slice (some ⟨b, o, none⟩) 32 c] W fun e w' => e = .returned (.agg (natsV .u64 lr).toArray) ∧ Below W.heap.size W w')
   (c2 : ∀ W, Below w.heap.size w W → Calls Tryz.prog 23 #[.slice (some ⟨b, o + 32, none⟩) 32 (c - 32)] W fun e w' => e = .returned (.agg (natsV .u64 ls).toArray) ∧ Below W.heap.size W w')
   (c3 : Ans 17 #[] (.agg (natsV .u64 ln).toArray))
   (c4 : Ans 31 #[.agg (natsV .u64 lr).toArray, .agg (natsV .u64 ln).toArray] (.bool true))
   (c5 : Ans 31 #[.agg (natsV .u64 ls).toArray, .agg (natsV .u64 ln).toArray] (.bool false)) :
   Calls Tryz.prog 10 #[.slice (some ⟨b, o, none⟩) 64 c] w fun e w' => e = .returned (.tuple #[.agg (natsV .u64 (zeros 4)).toArray, .agg (natsV .u64 (zeros 4)).toArray, .int .i64 73]) ∧ Below w.heap.size w w' := by
 have L_lr := Hd hlr
 have L_ls := Hd hls
 have L_ln := Hd hln
 have Hc1 := Hd c1
 have Hc2 := Hd c2
 have Hc3 := Hd c3
 have Hc4 := Hd c4
 have Hc5 := Hd c5
 clear hlr hls hln c1 c2 c3 c4 c5
 unfold maxLen at hcm
 have h32 : ¬ (c = 32) := by omega
 have h32i : (32 : Int) ≤ (c : Int) := by omega
 have h64i : (64 : Int) ≤ (c : Int) := by omega
 have Q1 := Hd (fun w => (eql24 lr (zeros 4) L_lr.out rfl w).trans (by rw [decide_eq_false z1]))
 have Q2 := Hd (fun w => (eql24 ls (zeros 4) L_ls.out rfl w).trans (by rw [decide_eq_false z2]))
 have B0_ := Hd (((Blk.new w  26 (natsV .u64 (zeros 4))).alloc (.cells (natsV .u64 (zeros 4)).toArray 26)).alloc (.cells (natsV .u64 (zeros 4)).toArray 26))
 have B1_ := Hd ((Blk.new2 w (.cells (natsV .u64 (zeros 4)).toArray 26) 26 (natsV .u64 (zeros 4))).alloc (.cells (natsV .u64 (zeros 4)).toArray 26))
 have B2_ := Hd (Blk.new3 w (.cells (natsV .u64 (zeros 4)).toArray 26) (.cells (natsV .u64 (zeros 4)).toArray 26) 26 (natsV .u64 (zeros 4)))
 clear z1 z2
 have bel_ := ((((Below.refl w.heap.size w).alloc (Nat.le_refl _) (.cells (natsV .u64 (zeros 4)).toArray 26)).alloc (by simp) (.cells (natsV .u64 (zeros 4)).toArray 26)).alloc (by simp; omega) (.cells (natsV .u64 (zeros 4)).toArray 26))
 go_enter Tryz.func10, Tryz.ntmps10
 go_wp2_with fail
 refine (Hc1.out _ bel_).mono ?_
 rintro e w1 ⟨rfl, hbw1⟩
 have C2 := gq' B2_ hbw1
 have C3 := gq' B0_ hbw1
 have C4 := gq' B1_ hbw1
 have hbel5 := bel_.trans (Below.mono hbw1 bel_.size)
 clear B2_ B0_ B1_ bel_ hbw1
 go_wp2_with (first | (refine stN rfl 26 (.tmp 6) (.tmp 19) rfl w1 rfl (natsV .u64 lr) rfl 26 (natsV .u64 (zeros 4)) (i24 L_lr.out) (lz4 L_lr.out) n1' ?_; intro w6 hgw6 hnw6; have NE9 := Hd (Nat.ne_of_lt (C3.out.lt)); have NE10 := Hd (Nat.ne_of_lt (C4.out.lt)); have C11 := gq' C2 hgw6; clear C2; have C12 := gq' C3 hgw6; clear C3; have C13 := gq' C4 hgw6; clear C4; have hbel14 := hbel5.trans (Below.mono hgw6 hbel5.size); clear hbel5; have D8 := Hd hnw6; clear hnw6 hgw6; generalize w1.heap.size = G7 at *))
 refine (Hc2.out _ hbel14).mono ?_
 rintro e w15 ⟨rfl, hbw15⟩
 have C16 := gq' C11 hbw15
 have C17 := gq' C12 hbw15
 have C18 := gq' C13 hbw15
 have C19 := gq' D8 hbw15
 have hbel20 := hbel14.trans (Below.mono hbw15 hbel14.size)
 clear C11 C12 C13 D8 hbel14 hbw15
 go_wp2_with (first | (refine stN rfl 26 (.tmp 7) (.tmp 22) rfl w15 rfl (natsV .u64 ls) rfl 26 (natsV .u64 (zeros 4)) (i24 L_ls.out) (lz4 L_ls.out) n1' ?_; intro w21 hgw21 hnw21; have NE24 := Hd (Nat.ne_of_lt (C17.out.lt)); have NE25 := Hd (Nat.ne_of_lt (C18.out.lt)); have C26 := gq' C16 hgw21; clear C16; have C27 := gq' C17 hgw21; clear C17; have C28 := gq' C18 hgw21; clear C18; have C29 := gq' C19 hgw21; clear C19; have hbel30 := hbel20.trans (Below.mono hgw21 hbel20.size); clear hbel20; have D23 := Hd hnw21; clear hnw21 hgw21; generalize w15.heap.size = G22 at *))
 refine (Hc3.out _).mono ?_
 rintro e w31 ⟨rfl, hbw31⟩
 have C32 := gq' C26 hbw31
 have C33 := gq' C27 hbw31
 have C34 := gq' C28 hbw31
 have C35 := gq' C29 hbw31
 have C36 := gq' D23 hbw31
 have hbel37 := hbel30.trans (Below.mono hbw31 hbel30.size)
 clear C26 C27 C28 C29 D23 hbel30 hbw31
 go_wp2_with (first | (refine stN rfl 26 (.tmp 8) (.tmp 23) rfl w31 rfl (natsV .u64 ln) rfl 26 (natsV .u64 (zeros 4)) (i24 L_ln.out) (lz4 L_ln.out) n1' ?_; intro w38 hgw38 hnw38; have NE41 := Hd (Nat.ne_of_lt (C33.out.lt)); have NE42 := Hd (Nat.ne_of_lt (C34.out.lt)); have C43 := gq' C32 hgw38; clear C32; have C44 := gq' C33 hgw38; clear C33; have C45 := gq' C34 hgw38; clear C34; have C46 := gq' C35 hgw38; clear C35; have C47 := gq' C36 hgw38; clear C36; have hbel48 := hbel37.trans (Below.mono hgw38 hbel37.size); clear hbel37; have D40 := Hd hnw38; clear hnw38 hgw38; generalize w31.heap.size = G39 at *) | (refine lm' (blk_all (C46.out)) Tryz.underlying26 (i24 L_lr.out) ?_) | (refine lm' (blk_all (D40.out)) Tryz.underlying26 (i24 L_ln.out) ?_))
 refine (Hc4.out _).mono ?_
 rintro e w49 ⟨rfl, hbw49⟩
 have C50 := gq' C43 hbw49
 have C51 := gq' C44 hbw49
 have C52 := gq' C45 hbw49
 have C53 := gq' C46 hbw49
 have C54 := gq' C47 hbw49
 have C55 := gq' D40 hbw49
 have hbel56 := hbel48.trans (Below.mono hbw49 hbel48.size)
 clear C43 C44 C45 C46 C47 D40 hbel48 hbw49
 go_wp2_with (first | (refine lm' (blk_all (C54.out)) Tryz.underlying26 (i24 L_ls.out) ?_) | (refine lm' (blk_all (C55.out)) Tryz.underlying26 (i24 L_ln.out) ?_))
 refine (Hc5.out _).mono ?_
 rintro e w57 ⟨rfl, hbw57⟩
 have C58 := gq' C50 hbw57
 have C59 := gq' C51 hbw57
 have C60 := gq' C52 hbw57
 have C61 := gq' C53 hbw57
 have C62 := gq' C54 hbw57
 have C63 := gq' C55 hbw57
 have hbel64 := hbel56.trans (Below.mono hbw57 hbel56.size)
 have qa := Q1.out
 have qb := Q2.out
 clear C50 C51 C52 C53 C54 C55 hbel56 hbw57
 go_wp2_with (first | (refine lm' (blk_all (C61.out)) Tryz.underlying26 (i24 L_lr.out) ?_) | (refine lm' (blk_all (C58.out)) Tryz.underlying26 (i24 z4l) ?_) | (refine ldwM 26 (.tmp 7) rfl G22 0 rfl (natsV .u64 ls) _ (blk_all (C62.out)) Tryz.underlying26 rfl (i24 L_ls.out) 3 false rfl 33 rfl rfl ?_) | (refine ldwM 26 (.tmp 5) rfl (w.heap.size + 1 + 1) 0 rfl (natsV .u64 (zeros 4)) _ (blk_all (C58.out)) Tryz.underlying26 rfl (i24 z4l) 3 false rfl 33 rfl rfl ?_))
 as_aux_lemma =>
 refine wp_region_G (fun w_ => Blk w_ (w.heap.size + 1 + 1) 26 (natsV .u64 (zeros 4))) 5 (by kernel_rfl) C58.out.drew ?_
 refine tk gS1 0 rfl (lg' (fun _ hS_ => blk_all (hS_)) Tryz.underlying26 (i24 z4l)) ?_
 try simp only [Act.put, zq]
 refine tk gS1 1 rfl (lg' (fun _ hS_ => blk_all (hS_)) Tryz.underlying26 (i24 z4l)) ?_
 try simp only [Act.put, zq]
 refine wpAnyG_store (i := 2) (by kernel_rfl) rfl C59.out.drew (lz4 z4l) (StoresG.mk (cs := (natsV .u64 (zeros 4))) (by rfl) 26 _ _ rfl rfl rfl (i24 z4l) n1') (.inr (fun _ hS_ => hS_.row _ ((show (w.heap.size + 1 + 1) ≠ w.heap.size by omega)))) ?_
 intro w66 hgw66 hn_
 try simp only [Act.put, zq]
 have E67 := Hd (C58.out.drew.grown hgw66 (fun e => (show (w.heap.size + 1 + 1) ≠ w.heap.size by omega) (Option.some.inj e)))
 have E68 := Hd (C60.out.drew.grown hgw66 (fun e => (show (w.heap.size + 1) ≠ w.heap.size by omega) (Option.some.inj e)))
 have E69 := Hd (C61.out.drew.grown hgw66 (fun e => (Ne.symm NE9.out) (Option.some.inj e)))
 have E70 := Hd (C62.out.drew.grown hgw66 (fun e => (Ne.symm NE24.out) (Option.some.inj e)))
 have E71 := Hd (C63.out.drew.grown hgw66 (fun e => (Ne.symm NE41.out) (Option.some.inj e)))
 have D72 := Hd hn_
 have hbel73 := belStore hbel64.drew hgw66 (show w.heap.size ≤ w.heap.size by omega)
 clear C58 C60 C61 C62 C63 hn_ C59 hgw66
 refine wpAnyG_store (i := 3) (by kernel_rfl) rfl E68.out (lz4 z4l) (StoresG.mk (cs := (natsV .u64 (zeros 4))) (by rfl) 26 _ _ rfl rfl rfl (i24 z4l) n1') (.inr (fun _ hS_ => hS_.row _ ((show (w.heap.size + 1 + 1) ≠ (w.heap.size + 1) by omega)))) ?_
 intro w74 hgw74 hn_
 try simp only [Act.put, zq]
 have E75 := Hd (E67.out.grown hgw74 (fun e => (show (w.heap.size + 1 + 1) ≠ (w.heap.size + 1) by omega) (Option.some.inj e)))
 have E76 := Hd (D72.out.grown hgw74 (fun e => (show w.heap.size ≠ (w.heap.size + 1) by omega) (Option.some.inj e)))
 have E77 := Hd (E69.out.grown hgw74 (fun e => (Ne.symm NE10.out) (Option.some.inj e)))
 have E78 := Hd (E70.out.grown hgw74 (fun e => (Ne.symm NE25.out) (Option.some.inj e)))
 have E79 := Hd (E71.out.grown hgw74 (fun e => (Ne.symm NE42.out) (Option.some.inj e)))
 have D80 := Hd hn_
 have hbel81 := belStore hbel73 hgw74 (show w.heap.size ≤ (w.heap.size + 1) by omega)
 clear E67 D72 E69 E70 E71 hn_ E68 hgw74
 refine tkp gS1 4 rfl ?_
 try simp only [Act.put, zq]
 refine wpAnyG_done (by kernel_rfl) ?_ _
 intro w82 hgw82
 try simp only [Act.put, zq]
 have C83 := gq' E75 hgw82
 have C84 := gq' E76 hgw82
 have C85 := gq' D80 hgw82
 have C86 := gq' E77 hgw82
 have C87 := gq' E78 hgw82
 have C88 := gq' E79 hgw82
 have hbel89 := hbel81.trans (Below.mono hgw82 hbel81.size)
 clear E75 E76 D80 E77 E78 E79 hbel81 hgw82
 as_aux_lemma =>
 go_wp2_with fail
 refine bodyPost_ret (v := .tuple #[.agg (natsV .u64 (zeros 4)).toArray, .agg (natsV .u64 (zeros 4)).toArray, .int .i64 73]) ?_ rfl ⟨rfl, hbel89⟩
 exact results_three Tryz.results10 _ _ w.heap.size (w.heap.size + 1) 26 26 _ _ (0, 0) (0, 0) _ _ _ rfl rfl rfl C84.out C85.out Tryz.underlying26 rfl (by simpa using (i24 z4l)) Tryz.underlying26 rfl (by simpa using (i24 z4l))
theorem dsplit_ok {lr ls ln : List Nat} {b o c : Nat} {u1 u2 : Bool} (w : World) (hlr : lr.length = 4) (hls : ls.length = 4) (hln : ln.length = 4)
   (h64 : 64 ≤ c)
   (hcm : c ≤ maxLen)
   (z1 : ¬ lr = zeros 4)
   (z2 : ¬ ls = zeros 4)
   (c1 : ∀ W, Below w.heap.size w W → Calls Tryz.prog 23 #[.slice (some ⟨b, o, none⟩) 32 c] W fun e w' => e = .returned (.agg (natsV .u64 lr).toArray) ∧ Below W.heap.size W w')
   (c2 : ∀ W, Below w.heap.size w W → Calls Tryz.prog 23 #[.slice (some ⟨b, o + 32, none⟩) 32 (c - 32)] W fun e w' => e = .returned (.agg (natsV .u64 ls).toArray) ∧ Below W.heap.size W w')
   (c3 : Ans 17 #[] (.agg (natsV .u64 ln).toArray))
   (c4 : Ans 31 #[.agg (natsV .u64 lr).toArray, .agg (natsV .u64 ln).toArray] (.bool true))
   (c5 : Ans 31 #[.agg (natsV .u64 ls).toArray, .agg (natsV .u64 ln).toArray] (.bool true)) :
   Calls Tryz.prog 10 #[.slice (some ⟨b, o, none⟩) 64 c] w fun e w' => e = .returned (.tuple #[.agg (natsV .u64 lr).toArray, .agg (natsV .u64 ls).toArray, .int .i64 0]) ∧ Below w.heap.size w w' := by
 have L_lr := Hd hlr
 have L_ls := Hd hls
 have L_ln := Hd hln
 have Hc1 := Hd c1
 have Hc2 := Hd c2
 have Hc3 := Hd c3
 have Hc4 := Hd c4
 have Hc5 := Hd c5
 clear hlr hls hln c1 c2 c3 c4 c5
 unfold maxLen at hcm
 have h32 : ¬ (c = 32) := by omega
 have h32i : (32 : Int) ≤ (c : Int) := by omega
 have h64i : (64 : Int) ≤ (c : Int) := by omega
 have Q1 := Hd (fun w => (eql24 lr (zeros 4) L_lr.out rfl w).trans (by rw [decide_eq_false z1]))
 have Q2 := Hd (fun w => (eql24 ls (zeros 4) L_ls.out rfl w).trans (by rw [decide_eq_false z2]))
 have B0_ := Hd (((Blk.new w  26 (natsV .u64 (zeros 4))).alloc (.cells (natsV .u64 (zeros 4)).toArray 26)).alloc (.cells (natsV .u64 (zeros 4)).toArray 26))
 have B1_ := Hd ((Blk.new2 w (.cells (natsV .u64 (zeros 4)).toArray 26) 26 (natsV .u64 (zeros 4))).alloc (.cells (natsV .u64 (zeros 4)).toArray 26))
 have B2_ := Hd (Blk.new3 w (.cells (natsV .u64 (zeros 4)).toArray 26) (.cells (natsV .u64 (zeros 4)).toArray 26) 26 (natsV .u64 (zeros 4)))
 clear z1 z2
 have bel_ := ((((Below.refl w.heap.size w).alloc (Nat.le_refl _) (.cells (natsV .u64 (zeros 4)).toArray 26)).alloc (by simp) (.cells (natsV .u64 (zeros 4)).toArray 26)).alloc (by simp; omega) (.cells (natsV .u64 (zeros 4)).toArray 26))
 go_enter Tryz.func10, Tryz.ntmps10
 go_wp2_with fail
 refine (Hc1.out _ bel_).mono ?_
 rintro e w1 ⟨rfl, hbw1⟩
 have C2 := gq' B2_ hbw1
 have C3 := gq' B0_ hbw1
 have C4 := gq' B1_ hbw1
 have hbel5 := bel_.trans (Below.mono hbw1 bel_.size)
 clear B2_ B0_ B1_ bel_ hbw1
 go_wp2_with (first | (refine stN rfl 26 (.tmp 6) (.tmp 19) rfl w1 rfl (natsV .u64 lr) rfl 26 (natsV .u64 (zeros 4)) (i24 L_lr.out) (lz4 L_lr.out) n1' ?_; intro w6 hgw6 hnw6; have NE9 := Hd (Nat.ne_of_lt (C3.out.lt)); have NE10 := Hd (Nat.ne_of_lt (C4.out.lt)); have C11 := gq' C2 hgw6; clear C2; have C12 := gq' C3 hgw6; clear C3; have C13 := gq' C4 hgw6; clear C4; have hbel14 := hbel5.trans (Below.mono hgw6 hbel5.size); clear hbel5; have D8 := Hd hnw6; clear hnw6 hgw6; generalize w1.heap.size = G7 at *))
 refine (Hc2.out _ hbel14).mono ?_
 rintro e w15 ⟨rfl, hbw15⟩
 have C16 := gq' C11 hbw15
 have C17 := gq' C12 hbw15
 have C18 := gq' C13 hbw15
 have C19 := gq' D8 hbw15
 have hbel20 := hbel14.trans (Below.mono hbw15 hbel14.size)
 clear C11 C12 C13 D8 hbel14 hbw15
 go_wp2_with (first | (refine stN rfl 26 (.tmp 7) (.tmp 22) rfl w15 rfl (natsV .u64 ls) rfl 26 (natsV .u64 (zeros 4)) (i24 L_ls.out) (lz4 L_ls.out) n1' ?_; intro w21 hgw21 hnw21; have NE24 := Hd (Nat.ne_of_lt (C17.out.lt)); have NE25 := Hd (Nat.ne_of_lt (C18.out.lt)); have C26 := gq' C16 hgw21; clear C16; have C27 := gq' C17 hgw21; clear C17; have C28 := gq' C18 hgw21; clear C18; have C29 := gq' C19 hgw21; clear C19; have hbel30 := hbel20.trans (Below.mono hgw21 hbel20.size); clear hbel20; have D23 := Hd hnw21; clear hnw21 hgw21; generalize w15.heap.size = G22 at *))
 refine (Hc3.out _).mono ?_
 rintro e w31 ⟨rfl, hbw31⟩
 have C32 := gq' C26 hbw31
 have C33 := gq' C27 hbw31
 have C34 := gq' C28 hbw31
 have C35 := gq' C29 hbw31
 have C36 := gq' D23 hbw31
 have hbel37 := hbel30.trans (Below.mono hbw31 hbel30.size)
 clear C26 C27 C28 C29 D23 hbel30 hbw31
 go_wp2_with (first | (refine stN rfl 26 (.tmp 8) (.tmp 23) rfl w31 rfl (natsV .u64 ln) rfl 26 (natsV .u64 (zeros 4)) (i24 L_ln.out) (lz4 L_ln.out) n1' ?_; intro w38 hgw38 hnw38; have NE41 := Hd (Nat.ne_of_lt (C33.out.lt)); have NE42 := Hd (Nat.ne_of_lt (C34.out.lt)); have C43 := gq' C32 hgw38; clear C32; have C44 := gq' C33 hgw38; clear C33; have C45 := gq' C34 hgw38; clear C34; have C46 := gq' C35 hgw38; clear C35; have C47 := gq' C36 hgw38; clear C36; have hbel48 := hbel37.trans (Below.mono hgw38 hbel37.size); clear hbel37; have D40 := Hd hnw38; clear hnw38 hgw38; generalize w31.heap.size = G39 at *) | (refine lm' (blk_all (C46.out)) Tryz.underlying26 (i24 L_lr.out) ?_) | (refine lm' (blk_all (D40.out)) Tryz.underlying26 (i24 L_ln.out) ?_))
 refine (Hc4.out _).mono ?_
 rintro e w49 ⟨rfl, hbw49⟩
 have C50 := gq' C43 hbw49
 have C51 := gq' C44 hbw49
 have C52 := gq' C45 hbw49
 have C53 := gq' C46 hbw49
 have C54 := gq' C47 hbw49
 have C55 := gq' D40 hbw49
 have hbel56 := hbel48.trans (Below.mono hbw49 hbel48.size)
 clear C43 C44 C45 C46 C47 D40 hbel48 hbw49
 go_wp2_with (first | (refine lm' (blk_all (C54.out)) Tryz.underlying26 (i24 L_ls.out) ?_) | (refine lm' (blk_all (C55.out)) Tryz.underlying26 (i24 L_ln.out) ?_))
 refine (Hc5.out _).mono ?_
 rintro e w57 ⟨rfl, hbw57⟩
 have C58 := gq' C50 hbw57
 have C59 := gq' C51 hbw57
 have C60 := gq' C52 hbw57
 have C61 := gq' C53 hbw57
 have C62 := gq' C54 hbw57
 have C63 := gq' C55 hbw57
 have hbel64 := hbel56.trans (Below.mono hbw57 hbel56.size)
 have qa := Q1.out
 have qb := Q2.out
 clear C50 C51 C52 C53 C54 C55 hbel56 hbw57
 go_wp2_with (first | (refine lm' (blk_all (C61.out)) Tryz.underlying26 (i24 L_lr.out) ?_) | (refine lm' (blk_all (C58.out)) Tryz.underlying26 (i24 z4l) ?_) | (refine ldwM 26 (.tmp 7) rfl G22 0 rfl (natsV .u64 ls) _ (blk_all (C62.out)) Tryz.underlying26 rfl (i24 L_ls.out) 3 false rfl 33 rfl rfl ?_) | (refine ldwM 26 (.tmp 5) rfl (w.heap.size + 1 + 1) 0 rfl (natsV .u64 (zeros 4)) _ (blk_all (C58.out)) Tryz.underlying26 rfl (i24 z4l) 3 false rfl 33 rfl rfl ?_))
 as_aux_lemma =>
 refine wp_region_G (fun w_ => Blk w_ G7 26 (natsV .u64 lr) ∧ Blk w_ G22 26 (natsV .u64 ls)) 5 (by kernel_rfl) ⟨C61.out.drew, C62.out.drew⟩ ?_
 refine tk gS2 0 rfl (lg' (fun _ hS_ => blk_all (hS_.1)) Tryz.underlying26 (i24 L_lr.out)) ?_
 try simp only [Act.put, zq]
 refine tk gS2 1 rfl (lg' (fun _ hS_ => blk_all (hS_.2)) Tryz.underlying26 (i24 L_ls.out)) ?_
 try simp only [Act.put, zq]
 refine wpAnyG_store (i := 2) (by kernel_rfl) rfl C59.out.drew (lz4 L_lr.out) (StoresG.mk (cs := (natsV .u64 lr)) (by rfl) 26 _ _ rfl rfl rfl (i24 L_lr.out) n1') (.inr (fun _ hS_ => ⟨hS_.1.row _ ((Ne.symm NE9.out)), hS_.2.row _ ((Ne.symm NE24.out))⟩)) ?_
 intro w66 hgw66 hn_
 try simp only [Act.put, zq]
 have E67 := Hd (C58.out.drew.grown hgw66 (fun e => (show (w.heap.size + 1 + 1) ≠ w.heap.size by omega) (Option.some.inj e)))
 have E68 := Hd (C60.out.drew.grown hgw66 (fun e => (show (w.heap.size + 1) ≠ w.heap.size by omega) (Option.some.inj e)))
 have E69 := Hd (C61.out.drew.grown hgw66 (fun e => (Ne.symm NE9.out) (Option.some.inj e)))
 have E70 := Hd (C62.out.drew.grown hgw66 (fun e => (Ne.symm NE24.out) (Option.some.inj e)))
 have E71 := Hd (C63.out.drew.grown hgw66 (fun e => (Ne.symm NE41.out) (Option.some.inj e)))
 have D72 := Hd hn_
 have hbel73 := belStore hbel64.drew hgw66 (show w.heap.size ≤ w.heap.size by omega)
 clear C58 C60 C61 C62 C63 hn_ C59 hgw66
 refine wpAnyG_store (i := 3) (by kernel_rfl) rfl E68.out (lz4 L_ls.out) (StoresG.mk (cs := (natsV .u64 ls)) (by rfl) 26 _ _ rfl rfl rfl (i24 L_ls.out) n1') (.inr (fun _ hS_ => ⟨hS_.1.row _ ((Ne.symm NE10.out)), hS_.2.row _ ((Ne.symm NE25.out))⟩)) ?_
 intro w74 hgw74 hn_
 try simp only [Act.put, zq]
 have E75 := Hd (E67.out.grown hgw74 (fun e => (show (w.heap.size + 1 + 1) ≠ (w.heap.size + 1) by omega) (Option.some.inj e)))
 have E76 := Hd (D72.out.grown hgw74 (fun e => (show w.heap.size ≠ (w.heap.size + 1) by omega) (Option.some.inj e)))
 have E77 := Hd (E69.out.grown hgw74 (fun e => (Ne.symm NE10.out) (Option.some.inj e)))
 have E78 := Hd (E70.out.grown hgw74 (fun e => (Ne.symm NE25.out) (Option.some.inj e)))
 have E79 := Hd (E71.out.grown hgw74 (fun e => (Ne.symm NE42.out) (Option.some.inj e)))
 have D80 := Hd hn_
 have hbel81 := belStore hbel73 hgw74 (show w.heap.size ≤ (w.heap.size + 1) by omega)
 clear E67 D72 E69 E70 E71 hn_ E68 hgw74
 refine tkp gS2 4 rfl ?_
 try simp only [Act.put, zq]
 refine wpAnyG_done (by kernel_rfl) ?_ _
 intro w82 hgw82
 try simp only [Act.put, zq]
 have C83 := gq' E75 hgw82
 have C84 := gq' E76 hgw82
 have C85 := gq' D80 hgw82
 have C86 := gq' E77 hgw82
 have C87 := gq' E78 hgw82
 have C88 := gq' E79 hgw82
 have hbel89 := hbel81.trans (Below.mono hgw82 hbel81.size)
 clear E75 E76 D80 E77 E78 E79 hbel81 hgw82
 as_aux_lemma =>
 go_wp2_with fail
 refine bodyPost_ret (v := .tuple #[.agg (natsV .u64 lr).toArray, .agg (natsV .u64 ls).toArray, .int .i64 0]) ?_ rfl ⟨rfl, hbel89⟩
 exact results_three Tryz.results10 _ _ w.heap.size (w.heap.size + 1) 26 26 _ _ (0, 0) (0, 0) _ _ _ rfl rfl rfl C84.out C85.out Tryz.underlying26 rfl (by simpa using (i24 L_lr.out)) Tryz.underlying26 rfl (by simpa using (i24 L_ls.out))
end Go.Proofs.YtdkkombpkojjaaaGreat
