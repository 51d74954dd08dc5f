/- Parts of proofs of statements, each text behind those that it stands on. No condition of its own. -/
import Derived.Test.YtdkkombpkojjaaaD06
import Derived.Test.YtdkkombpkojjaaaD07
namespace Go.Proofs.Ytdkkombpkojjaaa
set_option maxRecDepth 100000
set_option maxHeartbeats 3200000
open Go.RowKit
set_option linter.unusedVariables false
set_option linter.unusedSimpArgs false
theorem results_tmp_cell {P : Program} {fn : Func} {p q : Tmp} {ty : TypeId} (h : fn.results = #[.tmp q, .cell p ty]) (tmps : Array Value) (w : World) (g : Nat) (t : TypeId) (cs : Array Value) (fr : Nat × Nat) (d : TypeDesc) (v : Value)
   (hp : tmps.getD p undef = .pointer (some ⟨g, 0, none⟩)) (hv : tmps.getD q undef = v) (hg : w.heap[g]? = some (.cells cs t fr))
   (hu : P.underlying ty = some d) (hd : (match d with | .struct _ | .array _ _ => true | _ => false) = true) (hi : (P.info? ty).map (·.size) = some cs.size) :
   (results fn tmps).run P w = .ok (.tuple #[v, .agg cs]) w := by
 have hp' : tmps[p]?.getD undef = .pointer (some ⟨g, 0, none⟩) := by simpa using hp
 have hv' : tmps[q]?.getD undef = v := by simpa using hv
 simp [results, h, hp', hv', asAddr, run_loadVar_row w g t ty cs fr d hg hu hd hi]
theorem digit_any (r nx m N : Nat) (w : World) (hr : r < m) (hm : m < 2 ^ 256) (hm2 : 2 ^ 255 ≤ m) (hn : nx < 4294967296) (hN : N = r * 4294967296 + nx) :
   Calls Try.prog 92 #[.agg (natsV .u64 (wds 4 r)).toArray, .int .u64 (nx : Nat), .agg (natsV .u64 (wds 4 m)).toArray] w fun e w' => e = .returned (.tuple #[.int .u64 (N / m : Nat), .agg (natsV .u64 (wds 4 (N % m))).toArray]) ∧ Below w.heap.size w w' := by
 obtain ⟨q0, hq0⟩ : ∃ q0, q0 = min (dgt (2 ^ 64) r 3 / (dgt (2 ^ 64) m 3 / 4294967296)) 4294967295 := ⟨_, rfl⟩
 have HST := Hd (dig_start r m nx q0 hr hm hm2 hn hq0)
 rw [← hN] at HST
 have hN2 : r * 2 ^ 32 + nx = N := hN.symm
 have hq32 : q0 < 4294967296 := by omega
 have hm0 : 0 < m := by omega
 have hmm := hm
 have HR3 := top_word r (by omega)
 have HM3 := top_word m hm
 have hr3 : dgt (2 ^ 64) r 3 / 4294967296 < 4294967296 := by have := dgt_lt (B := 2 ^ 64) (by decide) r 3; omega
 have hr3l := dgt_lt (B := 2 ^ 64) (by decide) r 3
 have hm3l := dgt_lt (B := 2 ^ 64) (by decide) m 3
 have hmh : 0 < dgt (2 ^ 64) m 3 / 4294967296 := by rw [HM3]; omega
 have HT := Hd (fun w => times_any m q0 w hm (by omega))
 clear HR3 HM3
 rw [cyM_top m q0 hm] at HT
 have hto : m * q0 / 2 ^ 256 < 4294967296 := by
   have : m * q0 < 2 ^ 256 * 4294967296 := Nat.mul_lt_mul_of_lt_of_le hm (Nat.le_of_lt hq32) (by decide)
   generalize m * q0 = z at *
   omega
 have HSL := Hd (fun w => Shl_any r 32 w (by omega) (by decide) (by decide))
 rw [show (32 : Int).toNat = 32 from rfl] at HSL
 have HLS := Hd (low_set r nx hn)
 rw [hN2] at HLS
 have HL0 := Hd (wds_at 4 (r * 2 ^ 32) 0 (by decide))
 have hLl := dgt_lt (B := 2 ^ 64) (by decide) (r * 2 ^ 32) 0
 have E1 := wds_mod 4 4 N (Nat.le_refl _)
 have E2 := wds_mod 4 4 (m * q0) (Nat.le_refl _)
 have HSB := Hd (fun w => Sub_any (N % 2 ^ 256) (m * q0 % 2 ^ 256) w (Nat.mod_lt _ (by decide)) (Nat.mod_lt _ (by decide)))
 have E3 := wds_mod 4 4 (N % 2 ^ 256 + 2 ^ 256 - m * q0 % 2 ^ 256) (Nat.le_refl _)
 rw [show 64 * 4 = 256 from rfl] at E1 E2 E3
 rw [E1, E2, ← E3] at HSB
 have HAD := Hd (fun (R : Nat) (h : R < 2 ^ 256) w => Add_any R m w h hm)
 have HAM := Hd (fun R => show wds 4 (R + m) = wds 4 ((R + m) % 2 ^ 256) from (wds_mod 4 4 (R + m) (Nat.le_refl _)).symm)
 have HSTEP := Hd (fun (o : Int) (q R : Nat) (h : DigInv N m o q R) (ho : o < 0) => dig_step h ho hm hm0)
 have HDONE := Hd (fun (o : Int) (q R : Nat) (h : DigInv N m o q R) (ho : ¬ o < 0) => dig_done h ho hm hm0)
 have A3r := Hd (wds_at 4 r 3 (by decide))
 have A3m := Hd (wds_at 4 m 3 (by decide))
 have LR := Hd (wds_len 4 r)
 have LM := Hd (wds_len 4 m)
 have LT := Hd (wds_len 4 (m * q0))
 have LL := Hd (wds_len 4 (r * 2 ^ 32))
 have LN := Hd (wds_len 4 N)
 clear E1 E2 E3
 obtain ⟨R0, hR0⟩ : ∃ R0, R0 = (N % 2 ^ 256 + 2 ^ 256 - m * q0 % 2 ^ 256) % 2 ^ 256 := ⟨_, rfl⟩
 rw [← hR0] at HST HSB
 clear hR0
 have hb01 : lt01 (N % 2 ^ 256) (m * q0 % 2 ^ 256) ≤ 1 := by unfold lt01; split <;> omega
 generalize lt01 (N % 2 ^ 256) (m * q0 % 2 ^ 256) = bb at *
 generalize m * q0 / 2 ^ 256 = to at *
 obtain ⟨lt_, hlt_⟩ : ∃ x, x = wds 4 (m * q0) := ⟨_, rfl⟩
 rw [← hlt_] at HT HSB LT
 obtain ⟨ll, hll⟩ : ∃ x, x = wds 4 (r * 2 ^ 32) := ⟨_, rfl⟩
 rw [← hll] at HSL HLS LL HL0
 obtain ⟨ln, hln⟩ : ∃ x, x = wds 4 N := ⟨_, rfl⟩
 rw [← hln] at HLS HSB LN
 obtain ⟨l0, hl0⟩ : ∃ x, x = dgt (2 ^ 64) (r * 2 ^ 32) 0 := ⟨_, rfl⟩
 rw [← hl0] at HLS HL0 hLl
 have LD := Hd (wds_len 4 R0)
 clear hlt_ hll hln hl0 hN hN2
 obtain ⟨r3, h_r3⟩ : ∃ r3, r3 = dgt (2 ^ 64) r 3 := ⟨_, rfl⟩
 obtain ⟨m3, h_m3⟩ : ∃ m3, m3 = dgt (2 ^ 64) m 3 := ⟨_, rfl⟩
 rw [← h_r3] at hr3 hr3l hq0 HST A3r
 rw [← h_m3] at hm3l hmh hq0 A3m
 clear h_r3 h_m3
 obtain ⟨lr, hlr⟩ : ∃ x, x = wds 4 r := ⟨_, rfl⟩
 rw [← hlr] at HSL A3r LR ⊢
 obtain ⟨lm, hlm⟩ : ∃ x, x = wds 4 m := ⟨_, rfl⟩
 rw [← hlm] at HT HAD A3m LM ⊢
 clear hlr hlm
 obtain ⟨r3h, h1_⟩ : ∃ x, x = r3 / 4294967296 := ⟨_, rfl⟩
 obtain ⟨m3h, h2_⟩ : ∃ x, x = m3 / 4294967296 := ⟨_, rfl⟩
 obtain ⟨qq, h3_⟩ : ∃ x, x = r3 / m3h := ⟨_, rfl⟩
 rw [← h2_] at hmh hq0
 rw [← h3_] at hq0
 rw [← h1_] at HST
 rw [← h1_] at hr3
 have e1 : (r3 : Int) / 4294967296 = (r3h : Int) := by omega
 have e2 : (m3 : Int) / 4294967296 = (m3h : Int) := by omega
 have e3 : (r3 : Int) / (m3h : Int) = (qq : Int) := by rw [h3_]; simp
 have e4 : min (qq : Int) 4294967295 = (q0 : Int) := by omega
 have hmi : (m3h : Int) ≠ 0 := by omega
 have hmi2 : ((m3h : Int) == 0) = false := by rw [beq_eq_false_iff_ne]; omega
 have eor : bits .or .u64 (l0 : Int) (nx : Int) = ((l0 ||| nx : Nat) : Int) := u64_or_nat l0 nx hLl (by omega)
 obtain ⟨l1, hl1⟩ : ∃ x, x = l0 ||| nx := ⟨_, rfl⟩
 rw [← hl1] at eor HLS
 have hqql : qq < 18446744073709551616 := by rw [h3_]; exact Nat.lt_of_le_of_lt (Nat.div_le_self _ _) hr3l
 have B1 := Hd (((Blk.new w 24 (natsV .u64 lr)).alloc (.cells (natsV .u64 lm).toArray 24)).alloc (.cells (natsV .u64 (zeros 4)).toArray 24))
 have B2 := Hd ((Blk.new2 w (.cells (natsV .u64 lr).toArray 24) 24 (natsV .u64 lm)).alloc (.cells (natsV .u64 (zeros 4)).toArray 24))
 have B3 := Hd (Blk.new3 w (.cells (natsV .u64 lr).toArray 24) (.cells (natsV .u64 lm).toArray 24) 24 (natsV .u64 (zeros 4)))
 clear h1_ h2_ h3_ hl1 hq0
 have BEL := Hd ((((Below.refl w.heap.size w).alloc (Nat.le_refl _) (.cells (natsV .u64 lr).toArray 24)).alloc (by simp) (.cells (natsV .u64 lm).toArray 24)).alloc (by simp; omega) (.cells (natsV .u64 (zeros 4)).toArray 24))
 have c3r := B1.out.nat 3 (by rw [LR.out]; decide)
 have c3m := B2.out.nat 3 (by rw [LM.out]; decide)
 rw [A3r.out] at c3r
 rw [A3m.out] at c3m
 have g3r := natsV_get .u64 lr 3 (by rw [LR.out]; decide)
 have g3m := natsV_get .u64 lm 3 (by rw [LM.out]; decide)
 rw [A3r.out] at g3r
 rw [A3m.out] at g3m
 have HMM := Hd hmm
 have u25 := Try.underlying24
 clear hr hm hm2 hmm
 by_cases hA : qq < 4294967295
 · obtain rfl : q0 = qq := by omega
   have rqq : IntKind.u64.wrap (q0 : Int) = (q0 : Int) := by rw [IntKind.wrap_u64]; omega
   have hA2 : (q0 : Int) < 4294967295 := by omega
   clear e4 hA
   as_aux_lemma =>
   go_enter Try.func92, Try.ntmps92
   go_wp2_with (refine ld24 rfl (.tmp 5) rfl (w.heap.size + 1) rfl lm B2.out LM.out ?_)
   clear c3r c3m e2 e3 hmi hmi2 g3m
   refine (HT.out _).mono ?_
   rintro e w1 ⟨rfl, hb1⟩
   have C1 := Hd (B1.out.below' hb1)
   have C2 := Hd (B2.out.below' hb1)
   have C3 := Hd (B3.out.below' hb1)
   have bel1 := BEL.out.trans (hb1.mono BEL.out.size)
   have C3lt := C3.out.lt
   have Z12 := Hd (Blk.new w1 24 (natsV .u64 (zeros 4)))
   have hz13 := Hd (below_setRow' (bel1.alloc bel1.size (.cells (natsV .u64 (zeros 4)).toArray 24)) bel1.size (natsV .u64 lt_).toArray)
   have Y14 := Hd ((C1.out.alloc (.cells (natsV .u64 (zeros 4)).toArray 24)).row (natsV .u64 lt_).toArray (Nat.ne_of_lt C1.out.lt))
   have Y15 := Hd ((C2.out.alloc (.cells (natsV .u64 (zeros 4)).toArray 24)).row (natsV .u64 lt_).toArray (Nat.ne_of_lt C2.out.lt))
   have Y16 := Hd ((C3.out.alloc (.cells (natsV .u64 (zeros 4)).toArray 24)).row (natsV .u64 lt_).toArray (Nat.ne_of_lt C3.out.lt))
   have Y17 := Hd (Z12.out.setRow (natsV .u64 lt_))
   clear B1 B2 B3 BEL hb1 HT
   go_wp2_with (first | (refine st24 rfl (.tmp 9) (.tmp 25) rfl w1.heap.size rfl lt_ rfl LT.out (zeros 4) Z12.out rfl ?_; generalize hW : World.setRow _ _ _ = w11; have D19 := Hd (show Blk w11 w.heap.size 24 (natsV .u64 lr) from (by rw [← hW]; exact Y14.out)); have D20 := Hd (show Blk w11 (w.heap.size + 1) 24 (natsV .u64 lm) from (by rw [← hW]; exact Y15.out)); have D21 := Hd (show Blk w11 (w.heap.size + 1 + 1) 24 (natsV .u64 (zeros 4)) from (by rw [← hW]; exact Y16.out)); have D22 := Hd (show Blk w11 w1.heap.size 24 (natsV .u64 lt_) from (by rw [← hW]; exact Y17.out)); have hbel23 : Below w.heap.size w w11 := (by rw [← hW]; exact hz13.out); clear hW Z12 hz13 C1 C2 C3 Y14 Y15 Y16 Y17 bel1; have hne9 : w.heap.size + 1 + 1 < w1.heap.size := C3lt; clear C3lt; generalize w1.heap.size = G18 at *; have c3r := D19.out.nat 3 (by rw [LR.out]; decide); rw [A3r.out] at c3r) | (refine ld24 rfl (.tmp 3) rfl w.heap.size rfl lr D19.out LR.out ?_))
   clear c3r e1 g3r
   refine (HSL.out _).mono ?_
   rintro e w5 ⟨rfl, hb5⟩
   have E1 := Hd (D19.out.below' hb5)
   have E2 := Hd (D20.out.below' hb5)
   have E3 := Hd (D21.out.below' hb5)
   have E4 := Hd (D22.out.below' hb5)
   have bel5 := hbel23.trans (hb5.mono hbel23.size)
   have F1 := Hd (E1.out.setRow (natsV .u64 ll))
   have F2 := Hd (E2.out.row (natsV .u64 ll).toArray (show w.heap.size + 1 ≠ w.heap.size by omega))
   have F3 := Hd (E3.out.row (natsV .u64 ll).toArray (show w.heap.size + 1 + 1 ≠ w.heap.size by omega))
   have F4 := Hd (E4.out.row (natsV .u64 ll).toArray (show G18 ≠ w.heap.size by omega))
   have bel6 := below_setRow' bel5 (Nat.le_refl _) (natsV .u64 ll).toArray
   have G1 := Hd (F1.out.natSet 0 l1)
   clear D19 D20 D21 D22 hbel23 hb5 HSL
   rw [HLS.out] at G1
   have G2 := Hd (F2.out.other ⟨w.heap.size, 0, none⟩ (.int .u64 (l1 : Nat)) (by simp))
   have G3 := Hd (F3.out.other ⟨w.heap.size, 0, none⟩ (.int .u64 (l1 : Nat)) (by simp; omega))
   have G4 := Hd (F4.out.other ⟨w.heap.size, 0, none⟩ (.int .u64 (l1 : Nat)) (by simp; omega))
   have bel7 := bel6.setCell (p := ⟨w.heap.size, 0, none⟩) (Nat.le_refl _) (.int .u64 (l1 : Nat))
   have c0 := F1.out.nat 0 (by rw [LL.out]; decide)
   rw [HL0.out] at c0
   have f0 := F1.out.free 0
   go_wp2_with (first | (refine st24 rfl (.tmp 3) (.tmp 35) rfl w.heap.size rfl ll rfl LL.out lr E1.out LR.out ?_) | (refine ld24 rfl (.tmp 3) rfl w.heap.size rfl ln G1.out LN.out ?_) | (refine ld24 rfl (.tmp 9) rfl G18 rfl lt_ G4.out LT.out ?_))
   clear c0 f0 eor
   refine (HSB.out _).mono ?_
   rintro e w8 ⟨rfl, hb8⟩
   have H1 := Hd (G1.out.below' hb8)
   have H2 := Hd (G2.out.below' hb8)
   have H3 := Hd (G3.out.below' hb8)
   have bel8 := bel7.trans (hb8.mono bel7.size)
   have J1 := Hd (H1.out.setRow (natsV .u64 (wds 4 R0)))
   have J2 := Hd (H2.out.row (natsV .u64 (wds 4 R0)).toArray (show w.heap.size + 1 ≠ w.heap.size by omega))
   have J3 := Hd (H3.out.row (natsV .u64 (wds 4 R0)).toArray (show w.heap.size + 1 + 1 ≠ w.heap.size by omega))
   have bel9 := below_setRow' bel8 (Nat.le_refl _) (natsV .u64 (wds 4 R0)).toArray
   clear E1 E2 E3 E4 F1 F2 F3 F4 G1 G2 G3 G4 bel5 bel6 bel7 hb8 HSB
   obtain ⟨o0, ho0⟩ : ∃ o : Int, o = (r3h : Int) - (to : Int) - (bb : Int) := ⟨_, rfl⟩
   rw [← ho0] at HST
   have hox := dig_q_lt HST.out
   have eo1 : IntKind.i64.wrap ((r3h : Int) - (to : Int)) = (r3h : Int) - (to : Int) := IntWalk.i64_in _ (by omega)
   have eto : IntKind.i64.wrap (to : Int) = (to : Int) := IntWalk.i64_in _ (by omega)
   have erh : IntKind.i64.wrap (r3h : Int) = (r3h : Int) := IntWalk.i64_in _ (by omega)
   go_wp2_with (refine st24 rfl (.tmp 3) (.tmp 45) rfl w.heap.size rfl (wds 4 R0) rfl LD.out ln H1.out LN.out ?_)
   rw [← ho0]
   clear eo1 eto erh hto hb01 hr3 ho0 H1 H2 H3 bel8
   go_loopw [8, 11, 13] (fun qv ov _ wr => ∃ (o : Int) (q R : Nat), DigInv N m o q R ∧ qv = .int .u64 (q : Nat) ∧ ov = .int .i64 o ∧ Blk wr w.heap.size 24 (natsV .u64 (wds 4 R)) ∧ Blk wr (w.heap.size + 1) 24 (natsV .u64 lm) ∧ Blk wr (w.heap.size + 1 + 1) 24 (natsV .u64 (zeros 4)) ∧ Below w.heap.size w wr) (fun qv _ _ _ => (intOf qv).toNat)
   case atStart => exact ⟨o0, _, R0, HST.out, rfl, rfl, J1.out, J2.out, J3.out, bel9⟩
   case round =>
     clear J1 J2 J3 bel9 HST hox
     obtain ⟨o, q, R, hinv, rfl, rfl, k1, k2, k3, hbel⟩ := hrel
     have K1 := Hd k1
     have K2 := Hd k2
     have K3 := Hd k3
     have hq := dig_q_lt hinv
     have hq1 := hq.1
     have hq2 := hq.2.1
     have hq3 := hq.2.2.1
     have HR := Hd hq.2.2.2
     have HI := Hd hinv
     have LRR := Hd (wds_len 4 R)
     clear k1 k2 k3 hq hinv
     by_cases ho : o < 0
     · have HS := Hd (HSTEP.out o q R HI.out ho)
       have hqq := HS.out.1
       have hac : addC R m ≤ 1 := by have := HR.out; have := HMM.out; unfold addC; omega
       have HA := Hd (fun w => HAD.out R HR.out w)
       rw [HAM.out R] at HA
       have HS2 := Hd HS.out.2
       have LN2 := Hd (wds_len 4 ((R + m) % 2 ^ 256))
       generalize (R + m) % 2 ^ 256 = R2 at *
       obtain ⟨ac, hac_⟩ : ∃ ac, ac = addC R m := ⟨_, rfl⟩
       rw [← hac_] at hac HA HS2
       clear HS hac_
       obtain ⟨lR, hlR⟩ : ∃ x, x = wds 4 R := ⟨_, rfl⟩
       rw [← hlR] at K1 HA LRR
       obtain ⟨lR2, hlR2⟩ : ∃ x, x = wds 4 R2 := ⟨_, rfl⟩
       rw [← hlR2] at HA LN2
       have HL2 := Hd hlR2
       clear hlR hlR2
       have eq1 : IntKind.u64.wrap ((q : Int) - 1) = ((q - 1 : Nat) : Int) := by rw [IntKind.wrap_u64]; omega
       have eo2 : IntKind.i64.wrap (o + (ac : Int)) = o + (ac : Int) := IntWalk.i64_in _ (by omega)
       obtain ⟨q2, hq2_⟩ : ∃ q2, q2 = q - 1 := ⟨_, rfl⟩
       rw [← hq2_] at eq1 HS2
       have HQ2 := Hd hq2_
       clear hq2_
       go_wp2_with (first | (refine ld24 rfl (.tmp 3) rfl w.heap.size rfl lR K1.out LRR.out ?_) | (refine ld24 rfl (.tmp 5) rfl (w.heap.size + 1) rfl lm K2.out LM.out ?_))
       refine (HA.out _).mono ?_
       rintro e wa ⟨rfl, hba⟩
       have P1 := Hd (K1.out.below' hba)
       have P2 := Hd (K2.out.below' hba)
       have P3 := Hd (K3.out.below' hba)
       have belp := hbel.trans (hba.mono hbel.size)
       have R1_ := Hd (P1.out.setRow (natsV .u64 lR2))
       have R2_ := Hd (P2.out.row (natsV .u64 lR2).toArray (show w.heap.size + 1 ≠ w.heap.size by omega))
       have R3_ := Hd (P3.out.row (natsV .u64 lR2).toArray (show w.heap.size + 1 + 1 ≠ w.heap.size by omega))
       have belr := below_setRow' belp (Nat.le_refl _) (natsV .u64 lR2).toArray
       clear K1 K2 K3 hba hbel HA
       go_wp2_with (refine st24 rfl (.tmp 3) (.tmp 56) rfl w.heap.size rfl lR2 rfl LN2.out lR P1.out LRR.out ?_)
       go_roundw
       case rel => exact ⟨o + (ac : Int), q2, R2, HS2.out, rfl, rfl, by rw [← HL2.out]; exact R1_.out, R2_.out, R3_.out, belr⟩
       case measure => have := HQ2.out; simp [intOf]; omega
     · have HE := Hd (HDONE.out o q R HI.out (by omega))
       obtain ⟨lR, hlR⟩ : ∃ x, x = wds 4 R := ⟨_, rfl⟩
       rw [← hlR] at K1 LRR
       have HLR := Hd hlR
       clear hlR
       have i25 : (Try.prog.info? 24).map (·.size) = some (natsV .u64 lR).length := by rw [info24, natsV_length, LRR.out]
       go_wp2_with fail
       refine wp_region_held_drew (S := (fun w' => w'.rangeAt w.heap.size 0 (natsV .u64 lR))) (by kernel_rfl) (blk_rangeV K1.out.drew) (fun hHeld => ?_)
       refine th1 0 rfl hHeld ?_
       try simp only [Act.put, zq]
       refine th0 1 rfl (yieldsIf_load_mid (by rfl) _ _ rfl _ _ rfl _ _ (by intro w hSw; exact hSw) u25 rfl i25) hHeld ?_
       try simp only [Act.put, zq]
       refine th1 2 rfl hHeld ?_
       try simp only [Act.put, zq]
       refine wpAnyH_ready (rs := [3]) (by kernel_rfl) (by simp) ?_
       refine AllReadyH.cons (o := _) rfl (fun K hK => ?_) AllReadyH.nil
       rw [if_pos (by rfl)]
       refine wst24 (.tmp 7) (.tmp 64) rfl (w.heap.size + 1 + 1) rfl lR rfl LRR.out (zeros 4) K3.out.drew rfl ?_
       refine hK.out _ _ (blk_rangeV (K1.out.drew.row (natsV .u64 lR).toArray (show w.heap.size ≠ w.heap.size + 1 + 1 by omega))) (fun hHeld2 => ?_)
       clear hK K hHeld
       have hHeld := hHeld2
       clear hHeld2
       try simp only [Act.put, zq]
       refine wpAnyH_done (by kernel_rfl) ?_ _
       have j2 := K3.out.drew.setRow (natsV .u64 lR)
       have hb2 := below_setRow' hbel.drew (show w.heap.size ≤ w.heap.size + 1 + 1 by omega) (natsV .u64 lR).toArray
       clear hHeld
       go_wp2_with fail
       refine bodyPost_ret (v := .tuple #[.int .u64 (q : Nat), .agg (natsV .u64 lR).toArray]) ?_ rfl ⟨by rw [HLR.out, HE.out.1, HE.out.2], hb2⟩
       exact results_tmp_cell Try.results92 _ _ (w.heap.size + 1 + 1) 24 _ (0, 0) _ _ rfl rfl j2 Try.underlying24 rfl (by rw [info24, size_nats, LRR.out])
 · by_cases hB : 4294967295 < qq
   · obtain rfl : q0 = 4294967295 := by omega
     rw [show ((4294967295 : Nat) : Int) = 4294967295 from rfl] at HT
     have hA2 : ¬ ((qq : Int) < 4294967295) := by omega
     have hA3 : (4294967295 : Int) < (qq : Int) := by omega
     have hA6 : ¬ ((qq : Int) ≤ 4294967295) := by omega
     have rqq : IntKind.u64.wrap (qq : Int) = (qq : Int) := by rw [IntKind.wrap_u64]; omega
     have hA7 : (4294967295 : Int) ≤ (qq : Int) := by omega
     clear e4 hA hB
     as_aux_lemma =>
     go_enter Try.func92, Try.ntmps92
     go_wp2_with (refine ld24 rfl (.tmp 5) rfl (w.heap.size + 1) rfl lm B2.out LM.out ?_)
     clear c3r c3m e2 e3 hmi hmi2 g3m
     refine (HT.out _).mono ?_
     rintro e w1 ⟨rfl, hb1⟩
     have C1 := Hd (B1.out.below' hb1)
     have C2 := Hd (B2.out.below' hb1)
     have C3 := Hd (B3.out.below' hb1)
     have bel1 := BEL.out.trans (hb1.mono BEL.out.size)
     have C3lt := C3.out.lt
     have Z12 := Hd (Blk.new w1 24 (natsV .u64 (zeros 4)))
     have hz13 := Hd (below_setRow' (bel1.alloc bel1.size (.cells (natsV .u64 (zeros 4)).toArray 24)) bel1.size (natsV .u64 lt_).toArray)
     have Y14 := Hd ((C1.out.alloc (.cells (natsV .u64 (zeros 4)).toArray 24)).row (natsV .u64 lt_).toArray (Nat.ne_of_lt C1.out.lt))
     have Y15 := Hd ((C2.out.alloc (.cells (natsV .u64 (zeros 4)).toArray 24)).row (natsV .u64 lt_).toArray (Nat.ne_of_lt C2.out.lt))
     have Y16 := Hd ((C3.out.alloc (.cells (natsV .u64 (zeros 4)).toArray 24)).row (natsV .u64 lt_).toArray (Nat.ne_of_lt C3.out.lt))
     have Y17 := Hd (Z12.out.setRow (natsV .u64 lt_))
     clear B1 B2 B3 BEL hb1 HT
     go_wp2_with (first | (refine st24 rfl (.tmp 9) (.tmp 25) rfl w1.heap.size rfl lt_ rfl LT.out (zeros 4) Z12.out rfl ?_; generalize hW : World.setRow _ _ _ = w11; have D19 := Hd (show Blk w11 w.heap.size 24 (natsV .u64 lr) from (by rw [← hW]; exact Y14.out)); have D20 := Hd (show Blk w11 (w.heap.size + 1) 24 (natsV .u64 lm) from (by rw [← hW]; exact Y15.out)); have D21 := Hd (show Blk w11 (w.heap.size + 1 + 1) 24 (natsV .u64 (zeros 4)) from (by rw [← hW]; exact Y16.out)); have D22 := Hd (show Blk w11 w1.heap.size 24 (natsV .u64 lt_) from (by rw [← hW]; exact Y17.out)); have hbel23 : Below w.heap.size w w11 := (by rw [← hW]; exact hz13.out); clear hW Z12 hz13 C1 C2 C3 Y14 Y15 Y16 Y17 bel1; have hne9 : w.heap.size + 1 + 1 < w1.heap.size := C3lt; clear C3lt; generalize w1.heap.size = G18 at *; have c3r := D19.out.nat 3 (by rw [LR.out]; decide); rw [A3r.out] at c3r) | (refine ld24 rfl (.tmp 3) rfl w.heap.size rfl lr D19.out LR.out ?_))
     clear c3r e1 g3r
     refine (HSL.out _).mono ?_
     rintro e w5 ⟨rfl, hb5⟩
     have E1 := Hd (D19.out.below' hb5)
     have E2 := Hd (D20.out.below' hb5)
     have E3 := Hd (D21.out.below' hb5)
     have E4 := Hd (D22.out.below' hb5)
     have bel5 := hbel23.trans (hb5.mono hbel23.size)
     have F1 := Hd (E1.out.setRow (natsV .u64 ll))
     have F2 := Hd (E2.out.row (natsV .u64 ll).toArray (show w.heap.size + 1 ≠ w.heap.size by omega))
     have F3 := Hd (E3.out.row (natsV .u64 ll).toArray (show w.heap.size + 1 + 1 ≠ w.heap.size by omega))
     have F4 := Hd (E4.out.row (natsV .u64 ll).toArray (show G18 ≠ w.heap.size by omega))
     have bel6 := below_setRow' bel5 (Nat.le_refl _) (natsV .u64 ll).toArray
     have G1 := Hd (F1.out.natSet 0 l1)
     clear D19 D20 D21 D22 hbel23 hb5 HSL
     rw [HLS.out] at G1
     have G2 := Hd (F2.out.other ⟨w.heap.size, 0, none⟩ (.int .u64 (l1 : Nat)) (by simp))
     have G3 := Hd (F3.out.other ⟨w.heap.size, 0, none⟩ (.int .u64 (l1 : Nat)) (by simp; omega))
     have G4 := Hd (F4.out.other ⟨w.heap.size, 0, none⟩ (.int .u64 (l1 : Nat)) (by simp; omega))
     have bel7 := bel6.setCell (p := ⟨w.heap.size, 0, none⟩) (Nat.le_refl _) (.int .u64 (l1 : Nat))
     have c0 := F1.out.nat 0 (by rw [LL.out]; decide)
     rw [HL0.out] at c0
     have f0 := F1.out.free 0
     go_wp2_with (first | (refine st24 rfl (.tmp 3) (.tmp 35) rfl w.heap.size rfl ll rfl LL.out lr E1.out LR.out ?_) | (refine ld24 rfl (.tmp 3) rfl w.heap.size rfl ln G1.out LN.out ?_) | (refine ld24 rfl (.tmp 9) rfl G18 rfl lt_ G4.out LT.out ?_))
     clear c0 f0 eor
     refine (HSB.out _).mono ?_
     rintro e w8 ⟨rfl, hb8⟩
     have H1 := Hd (G1.out.below' hb8)
     have H2 := Hd (G2.out.below' hb8)
     have H3 := Hd (G3.out.below' hb8)
     have bel8 := bel7.trans (hb8.mono bel7.size)
     have J1 := Hd (H1.out.setRow (natsV .u64 (wds 4 R0)))
     have J2 := Hd (H2.out.row (natsV .u64 (wds 4 R0)).toArray (show w.heap.size + 1 ≠ w.heap.size by omega))
     have J3 := Hd (H3.out.row (natsV .u64 (wds 4 R0)).toArray (show w.heap.size + 1 + 1 ≠ w.heap.size by omega))
     have bel9 := below_setRow' bel8 (Nat.le_refl _) (natsV .u64 (wds 4 R0)).toArray
     clear E1 E2 E3 E4 F1 F2 F3 F4 G1 G2 G3 G4 bel5 bel6 bel7 hb8 HSB
     obtain ⟨o0, ho0⟩ : ∃ o : Int, o = (r3h : Int) - (to : Int) - (bb : Int) := ⟨_, rfl⟩
     rw [← ho0] at HST
     have hox := dig_q_lt HST.out
     have eo1 : IntKind.i64.wrap ((r3h : Int) - (to : Int)) = (r3h : Int) - (to : Int) := IntWalk.i64_in _ (by omega)
     have eto : IntKind.i64.wrap (to : Int) = (to : Int) := IntWalk.i64_in _ (by omega)
     have erh : IntKind.i64.wrap (r3h : Int) = (r3h : Int) := IntWalk.i64_in _ (by omega)
     go_wp2_with (refine st24 rfl (.tmp 3) (.tmp 45) rfl w.heap.size rfl (wds 4 R0) rfl LD.out ln H1.out LN.out ?_)
     rw [← ho0]
     clear eo1 eto erh hto hb01 hr3 ho0 H1 H2 H3 bel8
     go_loopw [8, 11, 13] (fun qv ov _ wr => ∃ (o : Int) (q R : Nat), DigInv N m o q R ∧ qv = .int .u64 (q : Nat) ∧ ov = .int .i64 o ∧ Blk wr w.heap.size 24 (natsV .u64 (wds 4 R)) ∧ Blk wr (w.heap.size + 1) 24 (natsV .u64 lm) ∧ Blk wr (w.heap.size + 1 + 1) 24 (natsV .u64 (zeros 4)) ∧ Below w.heap.size w wr) (fun qv _ _ _ => (intOf qv).toNat)
     case atStart => exact ⟨o0, _, R0, HST.out, rfl, rfl, J1.out, J2.out, J3.out, bel9⟩
     case round =>
       clear J1 J2 J3 bel9 HST hox
       obtain ⟨o, q, R, hinv, rfl, rfl, k1, k2, k3, hbel⟩ := hrel
       have K1 := Hd k1
       have K2 := Hd k2
       have K3 := Hd k3
       have hq := dig_q_lt hinv
       have hq1 := hq.1
       have hq2 := hq.2.1
       have hq3 := hq.2.2.1
       have HR := Hd hq.2.2.2
       have HI := Hd hinv
       have LRR := Hd (wds_len 4 R)
       clear k1 k2 k3 hq hinv
       by_cases ho : o < 0
       · have HS := Hd (HSTEP.out o q R HI.out ho)
         have hqq := HS.out.1
         have hac : addC R m ≤ 1 := by have := HR.out; have := HMM.out; unfold addC; omega
         have HA := Hd (fun w => HAD.out R HR.out w)
         rw [HAM.out R] at HA
         have HS2 := Hd HS.out.2
         have LN2 := Hd (wds_len 4 ((R + m) % 2 ^ 256))
         generalize (R + m) % 2 ^ 256 = R2 at *
         obtain ⟨ac, hac_⟩ : ∃ ac, ac = addC R m := ⟨_, rfl⟩
         rw [← hac_] at hac HA HS2
         clear HS hac_
         obtain ⟨lR, hlR⟩ : ∃ x, x = wds 4 R := ⟨_, rfl⟩
         rw [← hlR] at K1 HA LRR
         obtain ⟨lR2, hlR2⟩ : ∃ x, x = wds 4 R2 := ⟨_, rfl⟩
         rw [← hlR2] at HA LN2
         have HL2 := Hd hlR2
         clear hlR hlR2
         have eq1 : IntKind.u64.wrap ((q : Int) - 1) = ((q - 1 : Nat) : Int) := by rw [IntKind.wrap_u64]; omega
         have eo2 : IntKind.i64.wrap (o + (ac : Int)) = o + (ac : Int) := IntWalk.i64_in _ (by omega)
         obtain ⟨q2, hq2_⟩ : ∃ q2, q2 = q - 1 := ⟨_, rfl⟩
         rw [← hq2_] at eq1 HS2
         have HQ2 := Hd hq2_
         clear hq2_
         go_wp2_with (first | (refine ld24 rfl (.tmp 3) rfl w.heap.size rfl lR K1.out LRR.out ?_) | (refine ld24 rfl (.tmp 5) rfl (w.heap.size + 1) rfl lm K2.out LM.out ?_))
         refine (HA.out _).mono ?_
         rintro e wa ⟨rfl, hba⟩
         have P1 := Hd (K1.out.below' hba)
         have P2 := Hd (K2.out.below' hba)
         have P3 := Hd (K3.out.below' hba)
         have belp := hbel.trans (hba.mono hbel.size)
         have R1_ := Hd (P1.out.setRow (natsV .u64 lR2))
         have R2_ := Hd (P2.out.row (natsV .u64 lR2).toArray (show w.heap.size + 1 ≠ w.heap.size by omega))
         have R3_ := Hd (P3.out.row (natsV .u64 lR2).toArray (show w.heap.size + 1 + 1 ≠ w.heap.size by omega))
         have belr := below_setRow' belp (Nat.le_refl _) (natsV .u64 lR2).toArray
         clear K1 K2 K3 hba hbel HA
         go_wp2_with (refine st24 rfl (.tmp 3) (.tmp 56) rfl w.heap.size rfl lR2 rfl LN2.out lR P1.out LRR.out ?_)
         go_roundw
         case rel => exact ⟨o + (ac : Int), q2, R2, HS2.out, rfl, rfl, by rw [← HL2.out]; exact R1_.out, R2_.out, R3_.out, belr⟩
         case measure => have := HQ2.out; simp [intOf]; omega
       · have HE := Hd (HDONE.out o q R HI.out (by omega))
         obtain ⟨lR, hlR⟩ : ∃ x, x = wds 4 R := ⟨_, rfl⟩
         rw [← hlR] at K1 LRR
         have HLR := Hd hlR
         clear hlR
         have i25 : (Try.prog.info? 24).map (·.size) = some (natsV .u64 lR).length := by rw [info24, natsV_length, LRR.out]
         go_wp2_with fail
         refine wp_region_held_drew (S := (fun w' => w'.rangeAt w.heap.size 0 (natsV .u64 lR))) (by kernel_rfl) (blk_rangeV K1.out.drew) (fun hHeld => ?_)
         refine th1 0 rfl hHeld ?_
         try simp only [Act.put, zq]
         refine th0 1 rfl (yieldsIf_load_mid (by rfl) _ _ rfl _ _ rfl _ _ (by intro w hSw; exact hSw) u25 rfl i25) hHeld ?_
         try simp only [Act.put, zq]
         refine th1 2 rfl hHeld ?_
         try simp only [Act.put, zq]
         refine wpAnyH_ready (rs := [3]) (by kernel_rfl) (by simp) ?_
         refine AllReadyH.cons (o := _) rfl (fun K hK => ?_) AllReadyH.nil
         rw [if_pos (by rfl)]
         refine wst24 (.tmp 7) (.tmp 64) rfl (w.heap.size + 1 + 1) rfl lR rfl LRR.out (zeros 4) K3.out.drew rfl ?_
         refine hK.out _ _ (blk_rangeV (K1.out.drew.row (natsV .u64 lR).toArray (show w.heap.size ≠ w.heap.size + 1 + 1 by omega))) (fun hHeld2 => ?_)
         clear hK K hHeld
         have hHeld := hHeld2
         clear hHeld2
         try simp only [Act.put, zq]
         refine wpAnyH_done (by kernel_rfl) ?_ _
         have j2 := K3.out.drew.setRow (natsV .u64 lR)
         have hb2 := below_setRow' hbel.drew (show w.heap.size ≤ w.heap.size + 1 + 1 by omega) (natsV .u64 lR).toArray
         clear hHeld
         go_wp2_with fail
         refine bodyPost_ret (v := .tuple #[.int .u64 (q : Nat), .agg (natsV .u64 lR).toArray]) ?_ rfl ⟨by rw [HLR.out, HE.out.1, HE.out.2], hb2⟩
         exact results_tmp_cell Try.results92 _ _ (w.heap.size + 1 + 1) 24 _ (0, 0) _ _ rfl rfl j2 Try.underlying24 rfl (by rw [info24, size_nats, LRR.out])
   · obtain rfl : q0 = qq := by omega
     have rqq : IntKind.u64.wrap (q0 : Int) = (q0 : Int) := by rw [IntKind.wrap_u64]; omega
     have hA2 : ¬ ((q0 : Int) < 4294967295) := by omega
     have hA3 : ¬ ((4294967295 : Int) < (q0 : Int)) := by omega
     have hA4 : (q0 : Int) ≤ 4294967295 := by omega
     have hA5 : (4294967295 : Int) ≤ (q0 : Int) := by omega
     clear e4 hA hB
     as_aux_lemma =>
     go_enter Try.func92, Try.ntmps92
     go_wp2_with (refine ld24 rfl (.tmp 5) rfl (w.heap.size + 1) rfl lm B2.out LM.out ?_)
     clear c3r c3m e2 e3 hmi hmi2 g3m
     refine (HT.out _).mono ?_
     rintro e w1 ⟨rfl, hb1⟩
     have C1 := Hd (B1.out.below' hb1)
     have C2 := Hd (B2.out.below' hb1)
     have C3 := Hd (B3.out.below' hb1)
     have bel1 := BEL.out.trans (hb1.mono BEL.out.size)
     have C3lt := C3.out.lt
     have Z12 := Hd (Blk.new w1 24 (natsV .u64 (zeros 4)))
     have hz13 := Hd (below_setRow' (bel1.alloc bel1.size (.cells (natsV .u64 (zeros 4)).toArray 24)) bel1.size (natsV .u64 lt_).toArray)
     have Y14 := Hd ((C1.out.alloc (.cells (natsV .u64 (zeros 4)).toArray 24)).row (natsV .u64 lt_).toArray (Nat.ne_of_lt C1.out.lt))
     have Y15 := Hd ((C2.out.alloc (.cells (natsV .u64 (zeros 4)).toArray 24)).row (natsV .u64 lt_).toArray (Nat.ne_of_lt C2.out.lt))
     have Y16 := Hd ((C3.out.alloc (.cells (natsV .u64 (zeros 4)).toArray 24)).row (natsV .u64 lt_).toArray (Nat.ne_of_lt C3.out.lt))
     have Y17 := Hd (Z12.out.setRow (natsV .u64 lt_))
     clear B1 B2 B3 BEL hb1 HT
     go_wp2_with (first | (refine st24 rfl (.tmp 9) (.tmp 25) rfl w1.heap.size rfl lt_ rfl LT.out (zeros 4) Z12.out rfl ?_; generalize hW : World.setRow _ _ _ = w11; have D19 := Hd (show Blk w11 w.heap.size 24 (natsV .u64 lr) from (by rw [← hW]; exact Y14.out)); have D20 := Hd (show Blk w11 (w.heap.size + 1) 24 (natsV .u64 lm) from (by rw [← hW]; exact Y15.out)); have D21 := Hd (show Blk w11 (w.heap.size + 1 + 1) 24 (natsV .u64 (zeros 4)) from (by rw [← hW]; exact Y16.out)); have D22 := Hd (show Blk w11 w1.heap.size 24 (natsV .u64 lt_) from (by rw [← hW]; exact Y17.out)); have hbel23 : Below w.heap.size w w11 := (by rw [← hW]; exact hz13.out); clear hW Z12 hz13 C1 C2 C3 Y14 Y15 Y16 Y17 bel1; have hne9 : w.heap.size + 1 + 1 < w1.heap.size := C3lt; clear C3lt; generalize w1.heap.size = G18 at *; have c3r := D19.out.nat 3 (by rw [LR.out]; decide); rw [A3r.out] at c3r) | (refine ld24 rfl (.tmp 3) rfl w.heap.size rfl lr D19.out LR.out ?_))
     clear c3r e1 g3r
     refine (HSL.out _).mono ?_
     rintro e w5 ⟨rfl, hb5⟩
     have E1 := Hd (D19.out.below' hb5)
     have E2 := Hd (D20.out.below' hb5)
     have E3 := Hd (D21.out.below' hb5)
     have E4 := Hd (D22.out.below' hb5)
     have bel5 := hbel23.trans (hb5.mono hbel23.size)
     have F1 := Hd (E1.out.setRow (natsV .u64 ll))
     have F2 := Hd (E2.out.row (natsV .u64 ll).toArray (show w.heap.size + 1 ≠ w.heap.size by omega))
     have F3 := Hd (E3.out.row (natsV .u64 ll).toArray (show w.heap.size + 1 + 1 ≠ w.heap.size by omega))
     have F4 := Hd (E4.out.row (natsV .u64 ll).toArray (show G18 ≠ w.heap.size by omega))
     have bel6 := below_setRow' bel5 (Nat.le_refl _) (natsV .u64 ll).toArray
     have G1 := Hd (F1.out.natSet 0 l1)
     clear D19 D20 D21 D22 hbel23 hb5 HSL
     rw [HLS.out] at G1
     have G2 := Hd (F2.out.other ⟨w.heap.size, 0, none⟩ (.int .u64 (l1 : Nat)) (by simp))
     have G3 := Hd (F3.out.other ⟨w.heap.size, 0, none⟩ (.int .u64 (l1 : Nat)) (by simp; omega))
     have G4 := Hd (F4.out.other ⟨w.heap.size, 0, none⟩ (.int .u64 (l1 : Nat)) (by simp; omega))
     have bel7 := bel6.setCell (p := ⟨w.heap.size, 0, none⟩) (Nat.le_refl _) (.int .u64 (l1 : Nat))
     have c0 := F1.out.nat 0 (by rw [LL.out]; decide)
     rw [HL0.out] at c0
     have f0 := F1.out.free 0
     go_wp2_with (first | (refine st24 rfl (.tmp 3) (.tmp 35) rfl w.heap.size rfl ll rfl LL.out lr E1.out LR.out ?_) | (refine ld24 rfl (.tmp 3) rfl w.heap.size rfl ln G1.out LN.out ?_) | (refine ld24 rfl (.tmp 9) rfl G18 rfl lt_ G4.out LT.out ?_))
     clear c0 f0 eor
     refine (HSB.out _).mono ?_
     rintro e w8 ⟨rfl, hb8⟩
     have H1 := Hd (G1.out.below' hb8)
     have H2 := Hd (G2.out.below' hb8)
     have H3 := Hd (G3.out.below' hb8)
     have bel8 := bel7.trans (hb8.mono bel7.size)
     have J1 := Hd (H1.out.setRow (natsV .u64 (wds 4 R0)))
     have J2 := Hd (H2.out.row (natsV .u64 (wds 4 R0)).toArray (show w.heap.size + 1 ≠ w.heap.size by omega))
     have J3 := Hd (H3.out.row (natsV .u64 (wds 4 R0)).toArray (show w.heap.size + 1 + 1 ≠ w.heap.size by omega))
     have bel9 := below_setRow' bel8 (Nat.le_refl _) (natsV .u64 (wds 4 R0)).toArray
     clear E1 E2 E3 E4 F1 F2 F3 F4 G1 G2 G3 G4 bel5 bel6 bel7 hb8 HSB
     obtain ⟨o0, ho0⟩ : ∃ o : Int, o = (r3h : Int) - (to : Int) - (bb : Int) := ⟨_, rfl⟩
     rw [← ho0] at HST
     have hox := dig_q_lt HST.out
     have eo1 : IntKind.i64.wrap ((r3h : Int) - (to : Int)) = (r3h : Int) - (to : Int) := IntWalk.i64_in _ (by omega)
     have eto : IntKind.i64.wrap (to : Int) = (to : Int) := IntWalk.i64_in _ (by omega)
     have erh : IntKind.i64.wrap (r3h : Int) = (r3h : Int) := IntWalk.i64_in _ (by omega)
     go_wp2_with (refine st24 rfl (.tmp 3) (.tmp 45) rfl w.heap.size rfl (wds 4 R0) rfl LD.out ln H1.out LN.out ?_)
     rw [← ho0]
     clear eo1 eto erh hto hb01 hr3 ho0 H1 H2 H3 bel8
     go_loopw [8, 11, 13] (fun qv ov _ wr => ∃ (o : Int) (q R : Nat), DigInv N m o q R ∧ qv = .int .u64 (q : Nat) ∧ ov = .int .i64 o ∧ Blk wr w.heap.size 24 (natsV .u64 (wds 4 R)) ∧ Blk wr (w.heap.size + 1) 24 (natsV .u64 lm) ∧ Blk wr (w.heap.size + 1 + 1) 24 (natsV .u64 (zeros 4)) ∧ Below w.heap.size w wr) (fun qv _ _ _ => (intOf qv).toNat)
     case atStart => exact ⟨o0, _, R0, HST.out, rfl, rfl, J1.out, J2.out, J3.out, bel9⟩
     case round =>
       clear J1 J2 J3 bel9 HST hox
       obtain ⟨o, q, R, hinv, rfl, rfl, k1, k2, k3, hbel⟩ := hrel
       have K1 := Hd k1
       have K2 := Hd k2
       have K3 := Hd k3
       have hq := dig_q_lt hinv
       have hq1 := hq.1
       have hq2 := hq.2.1
       have hq3 := hq.2.2.1
       have HR := Hd hq.2.2.2
       have HI := Hd hinv
       have LRR := Hd (wds_len 4 R)
       clear k1 k2 k3 hq hinv
       by_cases ho : o < 0
       · have HS := Hd (HSTEP.out o q R HI.out ho)
         have hqq := HS.out.1
         have hac : addC R m ≤ 1 := by have := HR.out; have := HMM.out; unfold addC; omega
         have HA := Hd (fun w => HAD.out R HR.out w)
         rw [HAM.out R] at HA
         have HS2 := Hd HS.out.2
         have LN2 := Hd (wds_len 4 ((R + m) % 2 ^ 256))
         generalize (R + m) % 2 ^ 256 = R2 at *
         obtain ⟨ac, hac_⟩ : ∃ ac, ac = addC R m := ⟨_, rfl⟩
         rw [← hac_] at hac HA HS2
         clear HS hac_
         obtain ⟨lR, hlR⟩ : ∃ x, x = wds 4 R := ⟨_, rfl⟩
         rw [← hlR] at K1 HA LRR
         obtain ⟨lR2, hlR2⟩ : ∃ x, x = wds 4 R2 := ⟨_, rfl⟩
         rw [← hlR2] at HA LN2
         have HL2 := Hd hlR2
         clear hlR hlR2
         have eq1 : IntKind.u64.wrap ((q : Int) - 1) = ((q - 1 : Nat) : Int) := by rw [IntKind.wrap_u64]; omega
         have eo2 : IntKind.i64.wrap (o + (ac : Int)) = o + (ac : Int) := IntWalk.i64_in _ (by omega)
         obtain ⟨q2, hq2_⟩ : ∃ q2, q2 = q - 1 := ⟨_, rfl⟩
         rw [← hq2_] at eq1 HS2
         have HQ2 := Hd hq2_
         clear hq2_
         go_wp2_with (first | (refine ld24 rfl (.tmp 3) rfl w.heap.size rfl lR K1.out LRR.out ?_) | (refine ld24 rfl (.tmp 5) rfl (w.heap.size + 1) rfl lm K2.out LM.out ?_))
         refine (HA.out _).mono ?_
         rintro e wa ⟨rfl, hba⟩
         have P1 := Hd (K1.out.below' hba)
         have P2 := Hd (K2.out.below' hba)
         have P3 := Hd (K3.out.below' hba)
         have belp := hbel.trans (hba.mono hbel.size)
         have R1_ := Hd (P1.out.setRow (natsV .u64 lR2))
         have R2_ := Hd (P2.out.row (natsV .u64 lR2).toArray (show w.heap.size + 1 ≠ w.heap.size by omega))
         have R3_ := Hd (P3.out.row (natsV .u64 lR2).toArray (show w.heap.size + 1 + 1 ≠ w.heap.size by omega))
         have belr := below_setRow' belp (Nat.le_refl _) (natsV .u64 lR2).toArray
         clear K1 K2 K3 hba hbel HA
         go_wp2_with (refine st24 rfl (.tmp 3) (.tmp 56) rfl w.heap.size rfl lR2 rfl LN2.out lR P1.out LRR.out ?_)
         go_roundw
         case rel => exact ⟨o + (ac : Int), q2, R2, HS2.out, rfl, rfl, by rw [← HL2.out]; exact R1_.out, R2_.out, R3_.out, belr⟩
         case measure => have := HQ2.out; simp [intOf]; omega
       · have HE := Hd (HDONE.out o q R HI.out (by omega))
         obtain ⟨lR, hlR⟩ : ∃ x, x = wds 4 R := ⟨_, rfl⟩
         rw [← hlR] at K1 LRR
         have HLR := Hd hlR
         clear hlR
         have i25 : (Try.prog.info? 24).map (·.size) = some (natsV .u64 lR).length := by rw [info24, natsV_length, LRR.out]
         go_wp2_with fail
         refine wp_region_held_drew (S := (fun w' => w'.rangeAt w.heap.size 0 (natsV .u64 lR))) (by kernel_rfl) (blk_rangeV K1.out.drew) (fun hHeld => ?_)
         refine th1 0 rfl hHeld ?_
         try simp only [Act.put, zq]
         refine th0 1 rfl (yieldsIf_load_mid (by rfl) _ _ rfl _ _ rfl _ _ (by intro w hSw; exact hSw) u25 rfl i25) hHeld ?_
         try simp only [Act.put, zq]
         refine th1 2 rfl hHeld ?_
         try simp only [Act.put, zq]
         refine wpAnyH_ready (rs := [3]) (by kernel_rfl) (by simp) ?_
         refine AllReadyH.cons (o := _) rfl (fun K hK => ?_) AllReadyH.nil
         rw [if_pos (by rfl)]
         refine wst24 (.tmp 7) (.tmp 64) rfl (w.heap.size + 1 + 1) rfl lR rfl LRR.out (zeros 4) K3.out.drew rfl ?_
         refine hK.out _ _ (blk_rangeV (K1.out.drew.row (natsV .u64 lR).toArray (show w.heap.size ≠ w.heap.size + 1 + 1 by omega))) (fun hHeld2 => ?_)
         clear hK K hHeld
         have hHeld := hHeld2
         clear hHeld2
         try simp only [Act.put, zq]
         refine wpAnyH_done (by kernel_rfl) ?_ _
         have j2 := K3.out.drew.setRow (natsV .u64 lR)
         have hb2 := below_setRow' hbel.drew (show w.heap.size ≤ w.heap.size + 1 + 1 by omega) (natsV .u64 lR).toArray
         clear hHeld
         go_wp2_with fail
         refine bodyPost_ret (v := .tuple #[.int .u64 (q : Nat), .agg (natsV .u64 lR).toArray]) ?_ rfl ⟨by rw [HLR.out, HE.out.1, HE.out.2], hb2⟩
         exact results_tmp_cell Try.results92 _ _ (w.heap.size + 1 + 1) 24 _ (0, 0) _ _ rfl rfl j2 Try.underlying24 rfl (by rw [info24, size_nats, LRR.out])
end Go.Proofs.Ytdkkombpkojjaaa
