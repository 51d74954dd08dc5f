/- Parts of proofs of statements, each text behind those that it stands on. No condition of its own. -/
import Derived.Laws.Cover3
import Derived.Test.YtdkkombpkojjaaaD15
import Derived.Test.YtdkkombpkojjaaaD18
namespace Go.Proofs.Ytdkkombpkojjaaa
set_option maxRecDepth 100000
set_option maxHeartbeats 3200000
open Go.RowKit
set_option linter.unusedVariables false
set_option linter.unusedSimpArgs false
theorem arr32 (b o c : Nat) (w : World) : (Instr.arrayAt 49 (.slice (some ⟨b, o, none⟩) 32 c)).run Try.prog w = .ok (.pointer (some ⟨b, o, none⟩)) w := run_arrayAt w 49 5 32 _ 32 c Try.underlying49 (Nat.le_refl _)
theorem built2n {la lb : List Nat} (ha : la.length = 4) (hb : lb.length = 4) : Try.prog.built 90 [(0, .agg (natsV .u64 la).toArray), (1, .agg (natsV .u64 lb).toArray)] = some (natsV .u64 (la ++ lb)).toArray := by
 obtain ⟨a, b, c, d, rfl⟩ := four_ol ha
 obtain ⟨e, f, g, h, rfl⟩ := four_ol hb
 kernel_rfl
theorem ix2_1 {la lb : List Nat} (ha : la.length = 4) (hb : lb.length = 4) (w : World) : (Instr.index 90 (.agg (natsV .u64 (la ++ lb)).toArray) (.int .i64 1)).run Try.prog w = .ok (.agg (natsV .u64 lb).toArray) w := by
 obtain ⟨a, b, c, d, rfl⟩ := four_ol ha
 obtain ⟨e, f, g, h, rfl⟩ := four_ol hb
 kernel_rfl
theorem wsplit_len {A : Option Addr} {n c : Nat} (w : World) 
   (hn : n ≠ 64) :
   Calls Try.prog 32 #[.slice A n c] w fun e w' => e = .returned (.tuple #[.agg (natsV .u64 (zeros 4)).toArray, .agg (natsV .u64 (zeros 4)).toArray, .int .i64 72]) ∧ Below w.heap.size w w' := by
 have h64 : ((n : Int) != 64) = true := by rw [bne_iff_ne]; omega
 have h64n : ¬ (n = 64) := hn
 have B0_ := Hd ((Blk.new w  24 (natsV .u64 (zeros 4))).alloc (.cells (natsV .u64 (zeros 4)).toArray 24))
 have B1_ := Hd (Blk.new2 w (.cells (natsV .u64 (zeros 4)).toArray 24) 24 (natsV .u64 (zeros 4)))
 have bel_ := (((Below.refl w.heap.size w).alloc (Nat.le_refl _) (.cells (natsV .u64 (zeros 4)).toArray 24)).alloc (by simp) (.cells (natsV .u64 (zeros 4)).toArray 24))
 go_enter Try.func32, Try.ntmps32
 go_wp2_with (first | (refine stB rfl 24 (.tmp 2) (.tmp 13) rfl w.heap.size rfl (natsV .u64 (zeros 4)) rfl 24 (natsV .u64 (zeros 4)) B0_.out (i24 z4l) (lz4 z4l) n1' ?_; generalize hW : World.setRow _ _ _ = w1; obtain ⟨hgw1, hnw1⟩ := setfacts hW B0_.out; clear hW; have E2 := Hd (B1_.out.grown hgw1 (fun e => (show (w.heap.size + 1) ≠ w.heap.size by omega) (Option.some.inj e))); clear B1_; have D3 := Hd hnw1; clear hnw1 B0_; have hbel4 := belStore bel_ hgw1 (show w.heap.size ≤ w.heap.size by omega); clear hgw1; clear bel_) | (refine stB rfl 24 (.tmp 3) (.tmp 14) rfl (w.heap.size + 1) rfl (natsV .u64 (zeros 4)) rfl 24 (natsV .u64 (zeros 4)) E2.out (i24 z4l) (lz4 z4l) n1' ?_; generalize hW : World.setRow _ _ _ = w5; obtain ⟨hgw5, hnw5⟩ := setfacts hW E2.out; clear hW; have E6 := Hd (D3.out.grown hgw5 (fun e => (show w.heap.size ≠ (w.heap.size + 1) by omega) (Option.some.inj e))); clear D3; have D7 := Hd hnw5; clear hnw5 E2; have hbel8 := belStore hbel4 hgw5 (show w.heap.size ≤ (w.heap.size + 1) by omega); clear hgw5; clear hbel4))
 refine bodyPost_ret (v := .tuple #[.agg (natsV .u64 (zeros 4)).toArray, .agg (natsV .u64 (zeros 4)).toArray, .int .i64 72]) ?_ rfl ⟨rfl, hbel8⟩
 exact results_three Try.results32 _ _ w.heap.size (w.heap.size + 1) 24 24 _ _ (0, 0) (0, 0) _ _ _ rfl rfl rfl E6.out D7.out Try.underlying24 rfl (by simpa using (i24 z4l)) Try.underlying24 rfl (by simpa using (i24 z4l))
theorem wsplit_bad1 {B1 B2 lr ls : List Nat} {b o c : Nat} {ea eb : Int} (w : World) (hB1 : B1.length = 32) (hB2 : B2.length = 32) (hlr : lr.length = 4) (hls : ls.length = 4)
   (h64 : 64 ≤ c)
   (hcm : c ≤ maxLen)
   (hr1 : ∀ W, Below w.heap.size w W → W.rangeAt b o (natsV .u8 B1))
   (hr2 : ∀ W, Below w.heap.size w W → W.rangeAt b (o + 32) (natsV .u8 B2))
   (c1 : Ans 25 #[.agg (natsV .u8 B1).toArray] (.agg (natsV .u64 lr).toArray))
   (c2 : Ans 25 #[.agg (natsV .u8 B2).toArray] (.agg (natsV .u64 ls).toArray))
   (c3 : Ans 57 #[.agg (natsV .u64 lr).toArray] (.int .i64 ea))
   (c4 : Ans 56 #[.agg #[.int .i64 2, .int .i64 ea]] (.int .i64 73)) :
   Calls Try.prog 32 #[.slice (some ⟨b, o, none⟩) 64 c] w fun e w' => e = .returned (.tuple #[.agg (natsV .u64 (zeros 4)).toArray, .agg (natsV .u64 (zeros 4)).toArray, .int .i64 73]) ∧ Below w.heap.size w w' := by
 have L_B1 := Hd hB1
 have L_B2 := Hd hB2
 have L_lr := Hd hlr
 have L_ls := Hd hls
 have Hc1 := Hd c1
 have Hc2 := Hd c2
 have Hc3 := Hd c3
 have Hc4 := Hd c4
 clear hB1 hB2 hlr hls c1 c2 c3 c4
 unfold maxLen at hcm
 have HR1 := Hd hr1
 have HR2 := Hd hr2
 clear hr1 hr2
 have h32 : ¬ (c = 32) := by omega
 have h32i : (32 : Int) ≤ (c : Int) := by omega
 have h64i : (64 : Int) ≤ (c : Int) := by omega
 have IX0 := Hd (fun w => ix2_0 L_lr.out L_ls.out w)
 have IX1 := Hd (fun w => ix2_1 L_lr.out L_ls.out w)
 have B0_ := Hd ((Blk.new w  24 (natsV .u64 (zeros 4))).alloc (.cells (natsV .u64 (zeros 4)).toArray 24))
 have B1_ := Hd (Blk.new2 w (.cells (natsV .u64 (zeros 4)).toArray 24) 24 (natsV .u64 (zeros 4)))
 have bel_ := (((Below.refl w.heap.size w).alloc (Nat.le_refl _) (.cells (natsV .u64 (zeros 4)).toArray 24)).alloc (by simp) (.cells (natsV .u64 (zeros 4)).toArray 24))
 go_enter Try.func32, Try.ntmps32
 go_wp2_with fail
 as_aux_lemma =>
 refine wp_region_G (fun w_ => Below w.heap.size w w_) 13 (by kernel_rfl) bel_.drew ?_
 refine tkp gB0 0 rfl ?_
 try simp only [Act.put, zq]
 refine tkp gB0 1 rfl ?_
 try simp only [Act.put, zq]
 refine tk gB0 2 rfl (pureG (by rfl) (by intro w; have q := arr32 b o c w; go_simp; first | done | with_reducible rfl)) ?_
 try simp only [Act.put, zq]
 refine tk gB0 3 rfl (lg' (fun _ hS_ => HR1.out _ (hS_)) Try.underlying49 (i90 L_B1.out)) ?_
 try simp only [Act.put, zq]
 refine tk gB0 4 rfl (cg' Try.func25 (fun W_ hS_ => Hc1.out W_)) ?_
 try simp only [Act.put, zq]
 refine tkp gB0 5 rfl ?_
 try simp only [Act.put, zq]
 refine tkp gB0 6 rfl ?_
 try simp only [Act.put, zq]
 refine tk gB0 7 rfl (pureG (by rfl) (by intro w; have q := arr32 b (o + 32) (c - 32) w; go_simp; first | done | with_reducible rfl)) ?_
 try simp only [Act.put, zq]
 refine tk gB0 8 rfl (lg' (fun _ hS_ => HR2.out _ (hS_)) Try.underlying49 (i90 L_B2.out)) ?_
 try simp only [Act.put, zq]
 refine tk gB0 9 rfl (cg' Try.func25 (fun W_ hS_ => Hc2.out W_)) ?_
 try simp only [Act.put, zq]
 refine wpAnyG_def2 (i := 10) (j := 11) (k := 12) (l := 13) gB0 (by kernel_rfl) (by kernel_rfl) (by kernel_rfl) (by kernel_rfl) (by kernel_rfl) (by kernel_rfl) (by decide) rfl rfl rfl rfl rfl (allocG (by rfl) rfl _ alloc24) (allocG (by rfl) rfl _ alloc24) (fun _ => allocG (by rfl) rfl _ alloc24) (fun _ => allocG (by rfl) rfl _ alloc24) (fun _ _ => rfl) (lz4 L_lr.out) (lz4 L_ls.out) (fun _ _ => StoresG.mk (cs := (natsV .u64 lr)) (by rfl) 24 _ _ rfl rfl rfl (i24 L_lr.out) n1') (fun _ _ => StoresG.mk (cs := (natsV .u64 ls)) (by rfl) 24 _ _ rfl rfl rfl (i24 L_ls.out) n1') (fun g_ w_ hS_ hz_ hb_ => below_setRow' (gr_bel hS_ hb_) (Nat.le_trans hS_.size hz_) _) (bel_.drew) ?_
 intro w1 G2 G3 hgw1 hz_ hz2_ hne_ hn_ hn2_
 try simp only [Act.put, zq]
 have NE4 := Hd (Nat.ne_of_lt (Nat.lt_of_lt_of_le B0_.out.drew.lt hz_))
 have NE5 := Hd (Nat.ne_of_lt (Nat.lt_of_lt_of_le B1_.out.drew.lt hz_))
 have NE6 := Hd (Nat.ne_of_lt (Nat.lt_of_lt_of_le B0_.out.drew.lt hz2_))
 have NE7 := Hd (Nat.ne_of_lt (Nat.lt_of_lt_of_le B1_.out.drew.lt hz2_))
 have E8 := dq' B0_ hgw1
 have E9 := dq' B1_ hgw1
 have hbel10 := bel_.drew.trans (Below.mono hgw1 bel_.drew.size)
 have D11 := Hd hn_
 have D12 := Hd hn2_
 clear B0_ B1_ bel_ hn_ hn2_ hz_ hz2_ hne_ hgw1
 as_aux_lemma =>
 go_upto_region 4 with (fail)
 try simp only [Act.put, zq]
 refine wp_region_P (fun w_ => Blk w_ G2 24 (natsV .u64 lr) ∧ Blk w_ G3 24 (natsV .u64 ls)) 4 (by kernel_rfl) ⟨D11.out, D12.out⟩ ?_
 refine tk gS2 0 rfl (lg' (fun _ hS_ => blk_all (hS_.1)) Try.underlying24 (i24 L_lr.out)) ?_
 try simp only [Act.put, zq]
 refine tk gS2 1 rfl (lg' (fun _ hS_ => blk_all (hS_.2)) Try.underlying24 (i24 L_ls.out)) ?_
 try simp only [Act.put, zq]
 refine tk gS2 2 rfl (buildG (by rfl) _ _ rfl _ (built2n L_lr.out L_ls.out) (by simp [Act.eval])) ?_
 try simp only [Act.put, zq]
 refine tkp gS2 3 rfl ?_
 try simp only [Act.put, zq]
 refine wpAnyG_done (by kernel_rfl) ?_ _
 intro w13 hgw13
 try simp only [Act.put, zq]
 have C14 := gq' E8 hgw13
 have C15 := gq' E9 hgw13
 have C16 := gq' D11 hgw13
 have C17 := gq' D12 hgw13
 have hbel18 := hbel10.trans (Below.mono hgw13 hbel10.size)
 clear E8 E9 D11 D12 hbel10 hgw13
 go_wp2_with fail
 go_loopw [28] (fun v28 wr => ∃ i : Nat, i ≤ 0 ∧ v28 = .int .i64 i ∧ Blk wr G2 24 (natsV .u64 lr) ∧ Blk wr G3 24 (natsV .u64 ls) ∧ Blk wr w.heap.size 24 (natsV .u64 (zeros 4)) ∧ Blk wr (w.heap.size + 1) 24 (natsV .u64 (zeros 4)) ∧ Below w.heap.size w wr) (fun v28 _ => 2 - (intOf v28).toNat)
 case atStart => exact ⟨0, by omega, rfl, C16.out, C17.out, C14.out, C15.out, hbel18⟩
 case round =>
   clear C16 C17 C14 C15 hbel18
   obtain ⟨i, hi, rfl, k5, k6, k2, k3, hbq⟩ := hrel
   have K5 := Hd k5
   have K6 := Hd k6
   have K2 := Hd k2
   have K3 := Hd k3
   clear k5 k6 k2 k3
   obtain rfl := (show i = 0 by omega)
   rw [show ((0 : Nat) : Int) = 0 from rfl]
   have ix := IX0.out
   go_wp2_with (first | (refine stN rfl 24 (.tmp 8) (.tmp 30) rfl wr rfl (natsV .u64 lr) rfl 24 (natsV .u64 (zeros 4)) (i24 L_lr.out) (lz4 L_lr.out) n1' ?_; intro w119 hgw119 hnw119; have NE122 := Hd (Nat.ne_of_lt (K2.out.lt)); have NE123 := Hd (Nat.ne_of_lt (K3.out.lt)); have C124 := Hd (K2.out.gr hgw119); clear K2; have C125 := Hd (K3.out.gr hgw119); clear K3; have C126 := Hd (K5.out.gr hgw119); clear K5; have C127 := Hd (K6.out.gr hgw119); clear K6; have hbel128 := hbq.trans (Below.mono hgw119 hbq.size); clear hbq; have D121 := Hd hnw119; clear hnw119 hgw119; generalize wr.heap.size = G120 at *) | (refine lm' (blk_all (D121.out)) Try.underlying24 (i24 L_lr.out) ?_))
   refine (Hc3.out _).mono ?_
   rintro e w129 ⟨rfl, hbw129⟩
   have C130 := gq' C124 hbw129
   have C131 := gq' C125 hbw129
   have C132 := gq' C126 hbw129
   have C133 := gq' C127 hbw129
   have C134 := gq' D121 hbw129
   have hbel135 := hbel128.trans (Below.mono hbw129 hbel128.size)
   clear C124 C125 C126 C127 D121 hbel128 hbw129
   go_wp2_with fail
   refine (Hc4.out _).mono ?_
   rintro e w136 ⟨rfl, hbw136⟩
   have C137 := gq' C130 hbw136
   have C138 := gq' C131 hbw136
   have C139 := gq' C132 hbw136
   have C140 := gq' C133 hbw136
   have C141 := gq' C134 hbw136
   have hbel142 := hbel135.trans (Below.mono hbw136 hbel135.size)
   clear C130 C131 C132 C133 C134 hbel135 hbw136
   go_wp2_with (first | (refine stB rfl 24 (.tmp 2) (.tmp 37) rfl w.heap.size rfl (natsV .u64 (zeros 4)) rfl 24 (natsV .u64 (zeros 4)) C137.out (i24 z4l) (lz4 z4l) n1' ?_; generalize hW : World.setRow _ _ _ = w143; obtain ⟨hgw143, hnw143⟩ := setfacts hW C137.out; clear hW; have E144 := Hd (C138.out.grown hgw143 (fun e => (show (w.heap.size + 1) ≠ w.heap.size by omega) (Option.some.inj e))); clear C138; have E145 := Hd (C139.out.grown hgw143 (fun e => (Ne.symm NE4.out) (Option.some.inj e))); clear C139; have E146 := Hd (C140.out.grown hgw143 (fun e => (Ne.symm NE6.out) (Option.some.inj e))); clear C140; have E147 := Hd (C141.out.grown hgw143 (fun e => (Ne.symm NE122.out) (Option.some.inj e))); clear C141; have D148 := Hd hnw143; clear hnw143 C137; have hbel149 := belStore hbel142 hgw143 (show w.heap.size ≤ w.heap.size by omega); clear hgw143; clear hbel142) | (refine stB rfl 24 (.tmp 3) (.tmp 38) rfl (w.heap.size + 1) rfl (natsV .u64 (zeros 4)) rfl 24 (natsV .u64 (zeros 4)) E144.out (i24 z4l) (lz4 z4l) n1' ?_; generalize hW : World.setRow _ _ _ = w150; obtain ⟨hgw150, hnw150⟩ := setfacts hW E144.out; clear hW; have E151 := Hd (D148.out.grown hgw150 (fun e => (show w.heap.size ≠ (w.heap.size + 1) by omega) (Option.some.inj e))); clear D148; have E152 := Hd (E145.out.grown hgw150 (fun e => (Ne.symm NE5.out) (Option.some.inj e))); clear E145; have E153 := Hd (E146.out.grown hgw150 (fun e => (Ne.symm NE7.out) (Option.some.inj e))); clear E146; have E154 := Hd (E147.out.grown hgw150 (fun e => (Ne.symm NE123.out) (Option.some.inj e))); clear E147; have D155 := Hd hnw150; clear hnw150 E144; have hbel156 := belStore hbel149 hgw150 (show w.heap.size ≤ (w.heap.size + 1) by omega); clear hgw150; clear hbel149))
   refine bodyPost_ret (v := .tuple #[.agg (natsV .u64 (zeros 4)).toArray, .agg (natsV .u64 (zeros 4)).toArray, .int .i64 73]) ?_ rfl ⟨rfl, hbel156⟩
   exact results_three Try.results32 _ _ w.heap.size (w.heap.size + 1) 24 24 _ _ (0, 0) (0, 0) _ _ _ rfl rfl rfl E151.out D155.out Try.underlying24 rfl (by simpa using (i24 z4l)) Try.underlying24 rfl (by simpa using (i24 z4l))
theorem wsplit_bad2 {B1 B2 lr ls : List Nat} {b o c : Nat} {ea eb : Int} (w : World) (hB1 : B1.length = 32) (hB2 : B2.length = 32) (hlr : lr.length = 4) (hls : ls.length = 4)
   (h64 : 64 ≤ c)
   (hcm : c ≤ maxLen)
   (hr1 : ∀ W, Below w.heap.size w W → W.rangeAt b o (natsV .u8 B1))
   (hr2 : ∀ W, Below w.heap.size w W → W.rangeAt b (o + 32) (natsV .u8 B2))
   (c1 : Ans 25 #[.agg (natsV .u8 B1).toArray] (.agg (natsV .u64 lr).toArray))
   (c2 : Ans 25 #[.agg (natsV .u8 B2).toArray] (.agg (natsV .u64 ls).toArray))
   (c3 : Ans 57 #[.agg (natsV .u64 lr).toArray] (.int .i64 ea))
   (c4 : Ans 56 #[.agg #[.int .i64 2, .int .i64 ea]] (.int .i64 0))
   (c5 : Ans 57 #[.agg (natsV .u64 ls).toArray] (.int .i64 eb))
   (c6 : Ans 56 #[.agg #[.int .i64 2, .int .i64 eb]] (.int .i64 73)) :
   Calls Try.prog 32 #[.slice (some ⟨b, o, none⟩) 64 c] w fun e w' => e = .returned (.tuple #[.agg (natsV .u64 (zeros 4)).toArray, .agg (natsV .u64 (zeros 4)).toArray, .int .i64 73]) ∧ Below w.heap.size w w' := by
 have L_B1 := Hd hB1
 have L_B2 := Hd hB2
 have L_lr := Hd hlr
 have L_ls := Hd hls
 have Hc1 := Hd c1
 have Hc2 := Hd c2
 have Hc3 := Hd c3
 have Hc4 := Hd c4
 have Hc5 := Hd c5
 have Hc6 := Hd c6
 clear hB1 hB2 hlr hls c1 c2 c3 c4 c5 c6
 unfold maxLen at hcm
 have HR1 := Hd hr1
 have HR2 := Hd hr2
 clear hr1 hr2
 have h32 : ¬ (c = 32) := by omega
 have h32i : (32 : Int) ≤ (c : Int) := by omega
 have h64i : (64 : Int) ≤ (c : Int) := by omega
 have IX0 := Hd (fun w => ix2_0 L_lr.out L_ls.out w)
 have IX1 := Hd (fun w => ix2_1 L_lr.out L_ls.out w)
 have B0_ := Hd ((Blk.new w  24 (natsV .u64 (zeros 4))).alloc (.cells (natsV .u64 (zeros 4)).toArray 24))
 have B1_ := Hd (Blk.new2 w (.cells (natsV .u64 (zeros 4)).toArray 24) 24 (natsV .u64 (zeros 4)))
 have bel_ := (((Below.refl w.heap.size w).alloc (Nat.le_refl _) (.cells (natsV .u64 (zeros 4)).toArray 24)).alloc (by simp) (.cells (natsV .u64 (zeros 4)).toArray 24))
 go_enter Try.func32, Try.ntmps32
 go_wp2_with fail
 as_aux_lemma =>
 refine wp_region_G (fun w_ => Below w.heap.size w w_) 13 (by kernel_rfl) bel_.drew ?_
 refine tkp gB0 0 rfl ?_
 try simp only [Act.put, zq]
 refine tkp gB0 1 rfl ?_
 try simp only [Act.put, zq]
 refine tk gB0 2 rfl (pureG (by rfl) (by intro w; have q := arr32 b o c w; go_simp; first | done | with_reducible rfl)) ?_
 try simp only [Act.put, zq]
 refine tk gB0 3 rfl (lg' (fun _ hS_ => HR1.out _ (hS_)) Try.underlying49 (i90 L_B1.out)) ?_
 try simp only [Act.put, zq]
 refine tk gB0 4 rfl (cg' Try.func25 (fun W_ hS_ => Hc1.out W_)) ?_
 try simp only [Act.put, zq]
 refine tkp gB0 5 rfl ?_
 try simp only [Act.put, zq]
 refine tkp gB0 6 rfl ?_
 try simp only [Act.put, zq]
 refine tk gB0 7 rfl (pureG (by rfl) (by intro w; have q := arr32 b (o + 32) (c - 32) w; go_simp; first | done | with_reducible rfl)) ?_
 try simp only [Act.put, zq]
 refine tk gB0 8 rfl (lg' (fun _ hS_ => HR2.out _ (hS_)) Try.underlying49 (i90 L_B2.out)) ?_
 try simp only [Act.put, zq]
 refine tk gB0 9 rfl (cg' Try.func25 (fun W_ hS_ => Hc2.out W_)) ?_
 try simp only [Act.put, zq]
 refine wpAnyG_def2 (i := 10) (j := 11) (k := 12) (l := 13) gB0 (by kernel_rfl) (by kernel_rfl) (by kernel_rfl) (by kernel_rfl) (by kernel_rfl) (by kernel_rfl) (by decide) rfl rfl rfl rfl rfl (allocG (by rfl) rfl _ alloc24) (allocG (by rfl) rfl _ alloc24) (fun _ => allocG (by rfl) rfl _ alloc24) (fun _ => allocG (by rfl) rfl _ alloc24) (fun _ _ => rfl) (lz4 L_lr.out) (lz4 L_ls.out) (fun _ _ => StoresG.mk (cs := (natsV .u64 lr)) (by rfl) 24 _ _ rfl rfl rfl (i24 L_lr.out) n1') (fun _ _ => StoresG.mk (cs := (natsV .u64 ls)) (by rfl) 24 _ _ rfl rfl rfl (i24 L_ls.out) n1') (fun g_ w_ hS_ hz_ hb_ => below_setRow' (gr_bel hS_ hb_) (Nat.le_trans hS_.size hz_) _) (bel_.drew) ?_
 intro w1 G2 G3 hgw1 hz_ hz2_ hne_ hn_ hn2_
 try simp only [Act.put, zq]
 have NE4 := Hd (Nat.ne_of_lt (Nat.lt_of_lt_of_le B0_.out.drew.lt hz_))
 have NE5 := Hd (Nat.ne_of_lt (Nat.lt_of_lt_of_le B1_.out.drew.lt hz_))
 have NE6 := Hd (Nat.ne_of_lt (Nat.lt_of_lt_of_le B0_.out.drew.lt hz2_))
 have NE7 := Hd (Nat.ne_of_lt (Nat.lt_of_lt_of_le B1_.out.drew.lt hz2_))
 have E8 := dq' B0_ hgw1
 have E9 := dq' B1_ hgw1
 have hbel10 := bel_.drew.trans (Below.mono hgw1 bel_.drew.size)
 have D11 := Hd hn_
 have D12 := Hd hn2_
 clear B0_ B1_ bel_ hn_ hn2_ hz_ hz2_ hne_ hgw1
 as_aux_lemma =>
 go_upto_region 4 with (fail)
 try simp only [Act.put, zq]
 refine wp_region_P (fun w_ => Blk w_ G2 24 (natsV .u64 lr) ∧ Blk w_ G3 24 (natsV .u64 ls)) 4 (by kernel_rfl) ⟨D11.out, D12.out⟩ ?_
 refine tk gS2 0 rfl (lg' (fun _ hS_ => blk_all (hS_.1)) Try.underlying24 (i24 L_lr.out)) ?_
 try simp only [Act.put, zq]
 refine tk gS2 1 rfl (lg' (fun _ hS_ => blk_all (hS_.2)) Try.underlying24 (i24 L_ls.out)) ?_
 try simp only [Act.put, zq]
 refine tk gS2 2 rfl (buildG (by rfl) _ _ rfl _ (built2n L_lr.out L_ls.out) (by simp [Act.eval])) ?_
 try simp only [Act.put, zq]
 refine tkp gS2 3 rfl ?_
 try simp only [Act.put, zq]
 refine wpAnyG_done (by kernel_rfl) ?_ _
 intro w13 hgw13
 try simp only [Act.put, zq]
 have C14 := gq' E8 hgw13
 have C15 := gq' E9 hgw13
 have C16 := gq' D11 hgw13
 have C17 := gq' D12 hgw13
 have hbel18 := hbel10.trans (Below.mono hgw13 hbel10.size)
 clear E8 E9 D11 D12 hbel10 hgw13
 go_wp2_with fail
 go_loopw [28] (fun v28 wr => ∃ i : Nat, i ≤ 1 ∧ v28 = .int .i64 i ∧ Blk wr G2 24 (natsV .u64 lr) ∧ Blk wr G3 24 (natsV .u64 ls) ∧ Blk wr w.heap.size 24 (natsV .u64 (zeros 4)) ∧ Blk wr (w.heap.size + 1) 24 (natsV .u64 (zeros 4)) ∧ Below w.heap.size w wr) (fun v28 _ => 2 - (intOf v28).toNat)
 case atStart => exact ⟨0, by omega, rfl, C16.out, C17.out, C14.out, C15.out, hbel18⟩
 case round =>
   clear C16 C17 C14 C15 hbel18
   obtain ⟨i, hi, rfl, k5, k6, k2, k3, hbq⟩ := hrel
   have K5 := Hd k5
   have K6 := Hd k6
   have K2 := Hd k2
   have K3 := Hd k3
   clear k5 k6 k2 k3
   obtain rfl | rfl := (show i = 0 ∨ i = 1 by omega)
   · as_aux_lemma =>
     rw [show ((0 : Nat) : Int) = 0 from rfl]
     have ix := IX0.out
     go_wp2_with (first | (refine stN rfl 24 (.tmp 8) (.tmp 30) rfl wr rfl (natsV .u64 lr) rfl 24 (natsV .u64 (zeros 4)) (i24 L_lr.out) (lz4 L_lr.out) n1' ?_; intro w119 hgw119 hnw119; have NE122 := Hd (Nat.ne_of_lt (K2.out.lt)); have NE123 := Hd (Nat.ne_of_lt (K3.out.lt)); have C124 := Hd (K2.out.gr hgw119); clear K2; have C125 := Hd (K3.out.gr hgw119); clear K3; have C126 := Hd (K5.out.gr hgw119); clear K5; have C127 := Hd (K6.out.gr hgw119); clear K6; have hbel128 := hbq.trans (Below.mono hgw119 hbq.size); clear hbq; have D121 := Hd hnw119; clear hnw119 hgw119; generalize wr.heap.size = G120 at *) | (refine lm' (blk_all (D121.out)) Try.underlying24 (i24 L_lr.out) ?_))
     refine (Hc3.out _).mono ?_
     rintro e w129 ⟨rfl, hbw129⟩
     have C130 := gq' C124 hbw129
     have C131 := gq' C125 hbw129
     have C132 := gq' C126 hbw129
     have C133 := gq' C127 hbw129
     have C134 := gq' D121 hbw129
     have hbel135 := hbel128.trans (Below.mono hbw129 hbel128.size)
     clear C124 C125 C126 C127 D121 hbel128 hbw129
     go_wp2_with fail
     refine (Hc4.out _).mono ?_
     rintro e w136 ⟨rfl, hbw136⟩
     have C137 := gq' C130 hbw136
     have C138 := gq' C131 hbw136
     have C139 := gq' C132 hbw136
     have C140 := gq' C133 hbw136
     have C141 := gq' C134 hbw136
     have hbel142 := hbel135.trans (Below.mono hbw136 hbel135.size)
     clear C130 C131 C132 C133 C134 hbel135 hbw136
     go_wp2_with fail
     go_roundw
     case rel => exact ⟨1, by omega, rfl, C139.out, C140.out, C137.out, C138.out, hbel142⟩
     case measure => simp [intOf]
   · as_aux_lemma =>
     rw [show ((1 : Nat) : Int) = 1 from rfl]
     have ix := IX1.out
     go_wp2_with (first | (refine stN rfl 24 (.tmp 8) (.tmp 30) rfl wr rfl (natsV .u64 ls) rfl 24 (natsV .u64 (zeros 4)) (i24 L_ls.out) (lz4 L_ls.out) n1' ?_; intro w219 hgw219 hnw219; have NE222 := Hd (Nat.ne_of_lt (K2.out.lt)); have NE223 := Hd (Nat.ne_of_lt (K3.out.lt)); have C224 := Hd (K2.out.gr hgw219); clear K2; have C225 := Hd (K3.out.gr hgw219); clear K3; have C226 := Hd (K5.out.gr hgw219); clear K5; have C227 := Hd (K6.out.gr hgw219); clear K6; have hbel228 := hbq.trans (Below.mono hgw219 hbq.size); clear hbq; have D221 := Hd hnw219; clear hnw219 hgw219; generalize wr.heap.size = G220 at *) | (refine lm' (blk_all (D221.out)) Try.underlying24 (i24 L_ls.out) ?_))
     refine (Hc5.out _).mono ?_
     rintro e w229 ⟨rfl, hbw229⟩
     have C230 := gq' C224 hbw229
     have C231 := gq' C225 hbw229
     have C232 := gq' C226 hbw229
     have C233 := gq' C227 hbw229
     have C234 := gq' D221 hbw229
     have hbel235 := hbel228.trans (Below.mono hbw229 hbel228.size)
     clear C224 C225 C226 C227 D221 hbel228 hbw229
     go_wp2_with fail
     refine (Hc6.out _).mono ?_
     rintro e w236 ⟨rfl, hbw236⟩
     have C237 := gq' C230 hbw236
     have C238 := gq' C231 hbw236
     have C239 := gq' C232 hbw236
     have C240 := gq' C233 hbw236
     have C241 := gq' C234 hbw236
     have hbel242 := hbel235.trans (Below.mono hbw236 hbel235.size)
     clear C230 C231 C232 C233 C234 hbel235 hbw236
     go_wp2_with (first | (refine stB rfl 24 (.tmp 2) (.tmp 37) rfl w.heap.size rfl (natsV .u64 (zeros 4)) rfl 24 (natsV .u64 (zeros 4)) C237.out (i24 z4l) (lz4 z4l) n1' ?_; generalize hW : World.setRow _ _ _ = w243; obtain ⟨hgw243, hnw243⟩ := setfacts hW C237.out; clear hW; have E244 := Hd (C238.out.grown hgw243 (fun e => (show (w.heap.size + 1) ≠ w.heap.size by omega) (Option.some.inj e))); clear C238; have E245 := Hd (C239.out.grown hgw243 (fun e => (Ne.symm NE4.out) (Option.some.inj e))); clear C239; have E246 := Hd (C240.out.grown hgw243 (fun e => (Ne.symm NE6.out) (Option.some.inj e))); clear C240; have E247 := Hd (C241.out.grown hgw243 (fun e => (Ne.symm NE222.out) (Option.some.inj e))); clear C241; have D248 := Hd hnw243; clear hnw243 C237; have hbel249 := belStore hbel242 hgw243 (show w.heap.size ≤ w.heap.size by omega); clear hgw243; clear hbel242) | (refine stB rfl 24 (.tmp 3) (.tmp 38) rfl (w.heap.size + 1) rfl (natsV .u64 (zeros 4)) rfl 24 (natsV .u64 (zeros 4)) E244.out (i24 z4l) (lz4 z4l) n1' ?_; generalize hW : World.setRow _ _ _ = w250; obtain ⟨hgw250, hnw250⟩ := setfacts hW E244.out; clear hW; have E251 := Hd (D248.out.grown hgw250 (fun e => (show w.heap.size ≠ (w.heap.size + 1) by omega) (Option.some.inj e))); clear D248; have E252 := Hd (E245.out.grown hgw250 (fun e => (Ne.symm NE5.out) (Option.some.inj e))); clear E245; have E253 := Hd (E246.out.grown hgw250 (fun e => (Ne.symm NE7.out) (Option.some.inj e))); clear E246; have E254 := Hd (E247.out.grown hgw250 (fun e => (Ne.symm NE223.out) (Option.some.inj e))); clear E247; have D255 := Hd hnw250; clear hnw250 E244; have hbel256 := belStore hbel249 hgw250 (show w.heap.size ≤ (w.heap.size + 1) by omega); clear hgw250; clear hbel249))
     refine bodyPost_ret (v := .tuple #[.agg (natsV .u64 (zeros 4)).toArray, .agg (natsV .u64 (zeros 4)).toArray, .int .i64 73]) ?_ rfl ⟨rfl, hbel256⟩
     exact results_three Try.results32 _ _ w.heap.size (w.heap.size + 1) 24 24 _ _ (0, 0) (0, 0) _ _ _ rfl rfl rfl E251.out D255.out Try.underlying24 rfl (by simpa using (i24 z4l)) Try.underlying24 rfl (by simpa using (i24 z4l))
theorem wsplit_ok {B1 B2 lr ls : List Nat} {b o c : Nat} {ea eb : Int} (w : World) (hB1 : B1.length = 32) (hB2 : B2.length = 32) (hlr : lr.length = 4) (hls : ls.length = 4)
   (h64 : 64 ≤ c)
   (hcm : c ≤ maxLen)
   (hr1 : ∀ W, Below w.heap.size w W → W.rangeAt b o (natsV .u8 B1))
   (hr2 : ∀ W, Below w.heap.size w W → W.rangeAt b (o + 32) (natsV .u8 B2))
   (c1 : Ans 25 #[.agg (natsV .u8 B1).toArray] (.agg (natsV .u64 lr).toArray))
   (c2 : Ans 25 #[.agg (natsV .u8 B2).toArray] (.agg (natsV .u64 ls).toArray))
   (c3 : Ans 57 #[.agg (natsV .u64 lr).toArray] (.int .i64 ea))
   (c4 : Ans 56 #[.agg #[.int .i64 2, .int .i64 ea]] (.int .i64 0))
   (c5 : Ans 57 #[.agg (natsV .u64 ls).toArray] (.int .i64 eb))
   (c6 : Ans 56 #[.agg #[.int .i64 2, .int .i64 eb]] (.int .i64 0)) :
   Calls Try.prog 32 #[.slice (some ⟨b, o, none⟩) 64 c] w fun e w' => e = .returned (.tuple #[.agg (natsV .u64 lr).toArray, .agg (natsV .u64 ls).toArray, .int .i64 0]) ∧ Below w.heap.size w w' := by
 have L_B1 := Hd hB1
 have L_B2 := Hd hB2
 have L_lr := Hd hlr
 have L_ls := Hd hls
 have Hc1 := Hd c1
 have Hc2 := Hd c2
 have Hc3 := Hd c3
 have Hc4 := Hd c4
 have Hc5 := Hd c5
 have Hc6 := Hd c6
 clear hB1 hB2 hlr hls c1 c2 c3 c4 c5 c6
 unfold maxLen at hcm
 have HR1 := Hd hr1
 have HR2 := Hd hr2
 clear hr1 hr2
 have h32 : ¬ (c = 32) := by omega
 have h32i : (32 : Int) ≤ (c : Int) := by omega
 have h64i : (64 : Int) ≤ (c : Int) := by omega
 have IX0 := Hd (fun w => ix2_0 L_lr.out L_ls.out w)
 have IX1 := Hd (fun w => ix2_1 L_lr.out L_ls.out w)
 have B0_ := Hd ((Blk.new w  24 (natsV .u64 (zeros 4))).alloc (.cells (natsV .u64 (zeros 4)).toArray 24))
 have B1_ := Hd (Blk.new2 w (.cells (natsV .u64 (zeros 4)).toArray 24) 24 (natsV .u64 (zeros 4)))
 have bel_ := (((Below.refl w.heap.size w).alloc (Nat.le_refl _) (.cells (natsV .u64 (zeros 4)).toArray 24)).alloc (by simp) (.cells (natsV .u64 (zeros 4)).toArray 24))
 go_enter Try.func32, Try.ntmps32
 go_wp2_with fail
 as_aux_lemma =>
 refine wp_region_G (fun w_ => Below w.heap.size w w_) 13 (by kernel_rfl) bel_.drew ?_
 refine tkp gB0 0 rfl ?_
 try simp only [Act.put, zq]
 refine tkp gB0 1 rfl ?_
 try simp only [Act.put, zq]
 refine tk gB0 2 rfl (pureG (by rfl) (by intro w; have q := arr32 b o c w; go_simp; first | done | with_reducible rfl)) ?_
 try simp only [Act.put, zq]
 refine tk gB0 3 rfl (lg' (fun _ hS_ => HR1.out _ (hS_)) Try.underlying49 (i90 L_B1.out)) ?_
 try simp only [Act.put, zq]
 refine tk gB0 4 rfl (cg' Try.func25 (fun W_ hS_ => Hc1.out W_)) ?_
 try simp only [Act.put, zq]
 refine tkp gB0 5 rfl ?_
 try simp only [Act.put, zq]
 refine tkp gB0 6 rfl ?_
 try simp only [Act.put, zq]
 refine tk gB0 7 rfl (pureG (by rfl) (by intro w; have q := arr32 b (o + 32) (c - 32) w; go_simp; first | done | with_reducible rfl)) ?_
 try simp only [Act.put, zq]
 refine tk gB0 8 rfl (lg' (fun _ hS_ => HR2.out _ (hS_)) Try.underlying49 (i90 L_B2.out)) ?_
 try simp only [Act.put, zq]
 refine tk gB0 9 rfl (cg' Try.func25 (fun W_ hS_ => Hc2.out W_)) ?_
 try simp only [Act.put, zq]
 refine wpAnyG_def2 (i := 10) (j := 11) (k := 12) (l := 13) gB0 (by kernel_rfl) (by kernel_rfl) (by kernel_rfl) (by kernel_rfl) (by kernel_rfl) (by kernel_rfl) (by decide) rfl rfl rfl rfl rfl (allocG (by rfl) rfl _ alloc24) (allocG (by rfl) rfl _ alloc24) (fun _ => allocG (by rfl) rfl _ alloc24) (fun _ => allocG (by rfl) rfl _ alloc24) (fun _ _ => rfl) (lz4 L_lr.out) (lz4 L_ls.out) (fun _ _ => StoresG.mk (cs := (natsV .u64 lr)) (by rfl) 24 _ _ rfl rfl rfl (i24 L_lr.out) n1') (fun _ _ => StoresG.mk (cs := (natsV .u64 ls)) (by rfl) 24 _ _ rfl rfl rfl (i24 L_ls.out) n1') (fun g_ w_ hS_ hz_ hb_ => below_setRow' (gr_bel hS_ hb_) (Nat.le_trans hS_.size hz_) _) (bel_.drew) ?_
 intro w1 G2 G3 hgw1 hz_ hz2_ hne_ hn_ hn2_
 try simp only [Act.put, zq]
 have NE4 := Hd (Nat.ne_of_lt (Nat.lt_of_lt_of_le B0_.out.drew.lt hz_))
 have NE5 := Hd (Nat.ne_of_lt (Nat.lt_of_lt_of_le B1_.out.drew.lt hz_))
 have NE6 := Hd (Nat.ne_of_lt (Nat.lt_of_lt_of_le B0_.out.drew.lt hz2_))
 have NE7 := Hd (Nat.ne_of_lt (Nat.lt_of_lt_of_le B1_.out.drew.lt hz2_))
 have E8 := dq' B0_ hgw1
 have E9 := dq' B1_ hgw1
 have hbel10 := bel_.drew.trans (Below.mono hgw1 bel_.drew.size)
 have D11 := Hd hn_
 have D12 := Hd hn2_
 clear B0_ B1_ bel_ hn_ hn2_ hz_ hz2_ hne_ hgw1
 as_aux_lemma =>
 go_upto_region 4 with (fail)
 try simp only [Act.put, zq]
 refine wp_region_P (fun w_ => Blk w_ G2 24 (natsV .u64 lr) ∧ Blk w_ G3 24 (natsV .u64 ls)) 4 (by kernel_rfl) ⟨D11.out, D12.out⟩ ?_
 refine tk gS2 0 rfl (lg' (fun _ hS_ => blk_all (hS_.1)) Try.underlying24 (i24 L_lr.out)) ?_
 try simp only [Act.put, zq]
 refine tk gS2 1 rfl (lg' (fun _ hS_ => blk_all (hS_.2)) Try.underlying24 (i24 L_ls.out)) ?_
 try simp only [Act.put, zq]
 refine tk gS2 2 rfl (buildG (by rfl) _ _ rfl _ (built2n L_lr.out L_ls.out) (by simp [Act.eval])) ?_
 try simp only [Act.put, zq]
 refine tkp gS2 3 rfl ?_
 try simp only [Act.put, zq]
 refine wpAnyG_done (by kernel_rfl) ?_ _
 intro w13 hgw13
 try simp only [Act.put, zq]
 have C14 := gq' E8 hgw13
 have C15 := gq' E9 hgw13
 have C16 := gq' D11 hgw13
 have C17 := gq' D12 hgw13
 have hbel18 := hbel10.trans (Below.mono hgw13 hbel10.size)
 clear E8 E9 D11 D12 hbel10 hgw13
 go_wp2_with fail
 go_loopw [28] (fun v28 wr => ∃ i : Nat, i ≤ 2 ∧ v28 = .int .i64 i ∧ Blk wr G2 24 (natsV .u64 lr) ∧ Blk wr G3 24 (natsV .u64 ls) ∧ Blk wr w.heap.size 24 (natsV .u64 (zeros 4)) ∧ Blk wr (w.heap.size + 1) 24 (natsV .u64 (zeros 4)) ∧ Below w.heap.size w wr) (fun v28 _ => 2 - (intOf v28).toNat)
 case atStart => exact ⟨0, by omega, rfl, C16.out, C17.out, C14.out, C15.out, hbel18⟩
 case round =>
   clear C16 C17 C14 C15 hbel18
   obtain ⟨i, hi, rfl, k5, k6, k2, k3, hbq⟩ := hrel
   have K5 := Hd k5
   have K6 := Hd k6
   have K2 := Hd k2
   have K3 := Hd k3
   clear k5 k6 k2 k3
   obtain rfl | rfl | rfl := (show i = 0 ∨ i = 1 ∨ i = 2 by omega)
   · as_aux_lemma =>
     rw [show ((0 : Nat) : Int) = 0 from rfl]
     have ix := IX0.out
     go_wp2_with (first | (refine stN rfl 24 (.tmp 8) (.tmp 30) rfl wr rfl (natsV .u64 lr) rfl 24 (natsV .u64 (zeros 4)) (i24 L_lr.out) (lz4 L_lr.out) n1' ?_; intro w119 hgw119 hnw119; have NE122 := Hd (Nat.ne_of_lt (K2.out.lt)); have NE123 := Hd (Nat.ne_of_lt (K3.out.lt)); have C124 := Hd (K2.out.gr hgw119); clear K2; have C125 := Hd (K3.out.gr hgw119); clear K3; have C126 := Hd (K5.out.gr hgw119); clear K5; have C127 := Hd (K6.out.gr hgw119); clear K6; have hbel128 := hbq.trans (Below.mono hgw119 hbq.size); clear hbq; have D121 := Hd hnw119; clear hnw119 hgw119; generalize wr.heap.size = G120 at *) | (refine lm' (blk_all (D121.out)) Try.underlying24 (i24 L_lr.out) ?_))
     refine (Hc3.out _).mono ?_
     rintro e w129 ⟨rfl, hbw129⟩
     have C130 := gq' C124 hbw129
     have C131 := gq' C125 hbw129
     have C132 := gq' C126 hbw129
     have C133 := gq' C127 hbw129
     have C134 := gq' D121 hbw129
     have hbel135 := hbel128.trans (Below.mono hbw129 hbel128.size)
     clear C124 C125 C126 C127 D121 hbel128 hbw129
     go_wp2_with fail
     refine (Hc4.out _).mono ?_
     rintro e w136 ⟨rfl, hbw136⟩
     have C137 := gq' C130 hbw136
     have C138 := gq' C131 hbw136
     have C139 := gq' C132 hbw136
     have C140 := gq' C133 hbw136
     have C141 := gq' C134 hbw136
     have hbel142 := hbel135.trans (Below.mono hbw136 hbel135.size)
     clear C130 C131 C132 C133 C134 hbel135 hbw136
     go_wp2_with fail
     go_roundw
     case rel => exact ⟨1, by omega, rfl, C139.out, C140.out, C137.out, C138.out, hbel142⟩
     case measure => simp [intOf]
   · as_aux_lemma =>
     rw [show ((1 : Nat) : Int) = 1 from rfl]
     have ix := IX1.out
     go_wp2_with (first | (refine stN rfl 24 (.tmp 8) (.tmp 30) rfl wr rfl (natsV .u64 ls) rfl 24 (natsV .u64 (zeros 4)) (i24 L_ls.out) (lz4 L_ls.out) n1' ?_; intro w219 hgw219 hnw219; have NE222 := Hd (Nat.ne_of_lt (K2.out.lt)); have NE223 := Hd (Nat.ne_of_lt (K3.out.lt)); have C224 := Hd (K2.out.gr hgw219); clear K2; have C225 := Hd (K3.out.gr hgw219); clear K3; have C226 := Hd (K5.out.gr hgw219); clear K5; have C227 := Hd (K6.out.gr hgw219); clear K6; have hbel228 := hbq.trans (Below.mono hgw219 hbq.size); clear hbq; have D221 := Hd hnw219; clear hnw219 hgw219; generalize wr.heap.size = G220 at *) | (refine lm' (blk_all (D221.out)) Try.underlying24 (i24 L_ls.out) ?_))
     refine (Hc5.out _).mono ?_
     rintro e w229 ⟨rfl, hbw229⟩
     have C230 := gq' C224 hbw229
     have C231 := gq' C225 hbw229
     have C232 := gq' C226 hbw229
     have C233 := gq' C227 hbw229
     have C234 := gq' D221 hbw229
     have hbel235 := hbel228.trans (Below.mono hbw229 hbel228.size)
     clear C224 C225 C226 C227 D221 hbel228 hbw229
     go_wp2_with fail
     refine (Hc6.out _).mono ?_
     rintro e w236 ⟨rfl, hbw236⟩
     have C237 := gq' C230 hbw236
     have C238 := gq' C231 hbw236
     have C239 := gq' C232 hbw236
     have C240 := gq' C233 hbw236
     have C241 := gq' C234 hbw236
     have hbel242 := hbel235.trans (Below.mono hbw236 hbel235.size)
     clear C230 C231 C232 C233 C234 hbel235 hbw236
     go_wp2_with fail
     go_roundw
     case rel => exact ⟨2, by omega, rfl, C239.out, C240.out, C237.out, C238.out, hbel242⟩
     case measure => simp [intOf]
   · as_aux_lemma =>
     rw [show ((2 : Nat) : Int) = 2 from rfl]
     go_wp2_with fail
     as_aux_lemma =>
     refine wp_region_G (fun w_ => Blk w_ G2 24 (natsV .u64 lr) ∧ Blk w_ G3 24 (natsV .u64 ls)) 5 (by kernel_rfl) ⟨K5.out.drew, K6.out.drew⟩ ?_
     refine tk gS2 0 rfl (lg' (fun _ hS_ => blk_all (hS_.1)) Try.underlying24 (i24 L_lr.out)) ?_
     try simp only [Act.put, zq]
     refine tk gS2 1 rfl (lg' (fun _ hS_ => blk_all (hS_.2)) Try.underlying24 (i24 L_ls.out)) ?_
     try simp only [Act.put, zq]
     refine wpAnyG_store (i := 2) (by kernel_rfl) rfl K2.out.drew (lz4 L_lr.out) (StoresG.mk (cs := (natsV .u64 lr)) (by rfl) 24 _ _ rfl rfl rfl (i24 L_lr.out) n1') (.inr (fun _ hS_ => ⟨hS_.1.row _ ((Ne.symm NE4.out)), hS_.2.row _ ((Ne.symm NE6.out))⟩)) ?_
     intro w320 hgw320 hn_
     try simp only [Act.put, zq]
     have E321 := Hd (K3.out.drew.grown hgw320 (fun e => (show (w.heap.size + 1) ≠ w.heap.size by omega) (Option.some.inj e)))
     have E322 := Hd (K5.out.drew.grown hgw320 (fun e => (Ne.symm NE4.out) (Option.some.inj e)))
     have E323 := Hd (K6.out.drew.grown hgw320 (fun e => (Ne.symm NE6.out) (Option.some.inj e)))
     have D324 := Hd hn_
     have hbel325 := belStore hbq.drew hgw320 (show w.heap.size ≤ w.heap.size by omega)
     clear K3 K5 K6 hn_ K2 hgw320
     refine wpAnyG_store (i := 3) (by kernel_rfl) rfl E321.out (lz4 L_ls.out) (StoresG.mk (cs := (natsV .u64 ls)) (by rfl) 24 _ _ rfl rfl rfl (i24 L_ls.out) n1') (.inr (fun _ hS_ => ⟨hS_.1.row _ ((Ne.symm NE5.out)), hS_.2.row _ ((Ne.symm NE7.out))⟩)) ?_
     intro w326 hgw326 hn_
     try simp only [Act.put, zq]
     have E327 := Hd (D324.out.grown hgw326 (fun e => (show w.heap.size ≠ (w.heap.size + 1) by omega) (Option.some.inj e)))
     have E328 := Hd (E322.out.grown hgw326 (fun e => (Ne.symm NE5.out) (Option.some.inj e)))
     have E329 := Hd (E323.out.grown hgw326 (fun e => (Ne.symm NE7.out) (Option.some.inj e)))
     have D330 := Hd hn_
     have hbel331 := belStore hbel325 hgw326 (show w.heap.size ≤ (w.heap.size + 1) by omega)
     clear D324 E322 E323 hn_ E321 hgw326
     refine tkp gS2 4 rfl ?_
     try simp only [Act.put, zq]
     refine wpAnyG_done (by kernel_rfl) ?_ _
     intro w332 hgw332
     try simp only [Act.put, zq]
     have C333 := gq' E327 hgw332
     have C334 := gq' D330 hgw332
     have C335 := gq' E328 hgw332
     have C336 := gq' E329 hgw332
     have hbel337 := hbel331.trans (Below.mono hgw332 hbel331.size)
     clear E327 D330 E328 E329 hbel331 hgw332
     as_aux_lemma =>
     go_wp2_with fail
     refine bodyPost_ret (v := .tuple #[.agg (natsV .u64 lr).toArray, .agg (natsV .u64 ls).toArray, .int .i64 0]) ?_ rfl ⟨rfl, hbel337⟩
     exact results_three Try.results32 _ _ w.heap.size (w.heap.size + 1) 24 24 _ _ (0, 0) (0, 0) _ _ _ rfl rfl rfl C333.out C334.out Try.underlying24 rfl (by simpa using (i24 L_lr.out)) Try.underlying24 rfl (by simpa using (i24 L_ls.out))
end Go.Proofs.Ytdkkombpkojjaaa
