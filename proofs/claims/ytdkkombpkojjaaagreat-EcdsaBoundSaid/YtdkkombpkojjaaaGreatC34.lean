/- Parts of proofs of statements, each text behind those that it stands on. No condition of its own. -/
import Derived.Test.YtdkkombpkojjaaaGreatC33
namespace Go.Proofs.YtdkkombpkojjaaaGreat
set_option maxRecDepth 100000
set_option maxHeartbeats 1600000
open Go.RowKit
set_option linter.unusedVariables false
set_option linter.unusedSimpArgs false
def px (m u e s : Nat) : Nat := u ^ (e / 2 ^ s) % m
theorem px_lt (m u e s : Nat) (h : 0 < m) : px m u e s < m := Nat.mod_lt _ h
theorem bit_split' (e s : Nat) : e / 2 ^ s = 2 * (e / 2 ^ (s + 1)) + e / 2 ^ s % 2 := by
 rw [Nat.pow_succ, ← Nat.div_div_eq_div_mul]; omega
theorem px_0 (m u e s : Nat) (h : e / 2 ^ s % 2 = 0) : px m u e (s + 1) * px m u e (s + 1) % m = px m u e s := by
 unfold px
 rw [← Nat.mul_mod, ← Nat.pow_add, ← Nat.two_mul, bit_split' e s, h]; rfl
theorem px_1 (m u e s : Nat) (h : e / 2 ^ s % 2 = 1) : px m u e (s + 1) * px m u e (s + 1) % m * u % m = px m u e s := by
 unfold px
 rw [← Nat.mul_mod, ← Nat.pow_add, ← Nat.two_mul, mulmod_left, ← Nat.pow_succ, bit_split' e s, h]
theorem word_bit (e i k : Nat) (hk : k < 64) : dgt (2 ^ 64) e i / 2 ^ k % 2 = e / 2 ^ (64 * i + k) % 2 := bit_word e i k hk
theorem and_two_pow' (d k : Nat) : d &&& 2 ^ k = d / 2 ^ k % 2 * 2 ^ k := by
 rcases Nat.mod_two_eq_zero_or_one (d / 2 ^ k) with h | h
 · rw [h, Nat.zero_mul]
   apply Nat.eq_of_testBit_eq
   intro i
   rw [Nat.testBit_and, Nat.testBit_two_pow, Nat.zero_testBit]
   by_cases hik : k = i
   · subst hik
     rw [Nat.testBit_eq_decide_div_mod_eq, h]; rfl
   · rw [decide_eq_false hik, Bool.and_false]
 · rw [h, Nat.one_mul]
   apply Nat.eq_of_testBit_eq
   intro i
   rw [Nat.testBit_and, Nat.testBit_two_pow]
   by_cases hik : k = i
   · subst hik
     rw [Nat.testBit_eq_decide_div_mod_eq, h]; rfl
   · rw [decide_eq_false hik, Bool.and_false]
theorem and_pow (d k : Nat) (hd : d < 2 ^ 64) (hk : k < 64) : bits .and .u64 (d : Int) ((2 ^ k : Nat) : Int) = ((d / 2 ^ k % 2 * 2 ^ k : Nat) : Int) := by
 have h2 : 2 ^ k < 2 ^ 64 := Nat.pow_lt_pow_right (by decide) hk
 rw [u64_ba]
 congr 1
 unfold ba
 rw [Nat.mod_eq_of_lt hd, Nat.mod_eq_of_lt h2, and_two_pow']
theorem Pow5_any (u e m : Nat) (w : World) (hu : u < 2 ^ 256) (he : e < 2 ^ 256) (hm : m < 2 ^ 256) (hgt : 2 ^ 255 < m) :
   Calls Tryz.prog 70 #[.agg (natsV .u64 (wds 4 u)).toArray, .agg (natsV .u64 (wds 4 e)).toArray, .agg (natsV .u64 (wds 4 m)).toArray] w fun e_ w' => e_ = .returned (.agg (natsV .u64 (wds 4 (u ^ e % m))).toArray) ∧ Below w.heap.size w w' := by
 have hpos : 0 < m := by omega
 have hend : u ^ e % m = px m u e 0 := by unfold px; simp
 have htop : px m u e 256 = 1 := by unfold px; rw [Nat.div_eq_of_lt he, Nat.pow_zero, Nat.mod_eq_of_lt (by omega)]
 rw [hend]
 have HSQ := Hd (fun s w => Mul5_any (px m u e (s + 1)) (px m u e (s + 1)) m w (Nat.lt_trans (px_lt m u e (s + 1) hpos) hm) (Nat.lt_trans (px_lt m u e (s + 1) hpos) hm) hm hgt)
 have HMA := Hd (fun s w => Mul5_any (px m u e (s + 1) * px m u e (s + 1) % m) u m w (Nat.lt_trans (Nat.mod_lt _ hpos) hm) hu hm hgt)
 have HP0 := Hd (fun s => px_0 m u e s)
 have HP1 := Hd (fun s => px_1 m u e s)
 obtain ⟨Y, hY⟩ : ∃ Y : Nat → Nat, Y = fun s => px m u e (s + 1) * px m u e (s + 1) % m := ⟨_, rfl⟩
 obtain ⟨X, hX⟩ : ∃ X : Nat → Nat, X = px m u e := ⟨_, rfl⟩
 have HY1 := Hd (fun s w => show Calls Tryz.prog 40 #[.agg (natsV .u64 (wds 4 (X (s + 1)))).toArray, .agg (natsV .u64 (wds 4 (X (s + 1)))).toArray, .agg (natsV .u64 (wds 4 m)).toArray] w fun e_ w' => e_ = .returned (.agg (natsV .u64 (wds 4 (Y s))).toArray) ∧ Below w.heap.size w w' from by rw [hY, hX]; exact HSQ.out s w)
 have HY2 := Hd (fun s (h : e / 2 ^ s % 2 = 1) w => show Calls Tryz.prog 40 #[.agg (natsV .u64 (wds 4 (Y s))).toArray, .agg (natsV .u64 (wds 4 u)).toArray, .agg (natsV .u64 (wds 4 m)).toArray] w fun e_ w' => e_ = .returned (.agg (natsV .u64 (wds 4 (X s))).toArray) ∧ Below w.heap.size w w' from by rw [hY, hX, ← HP1.out s h]; exact HMA.out s w)
 have HY0 := Hd (fun s (h : e / 2 ^ s % 2 = 0) => show Y s = X s from by rw [hY, hX]; exact HP0.out s h)
 rw [← hX] at htop ⊢
 have LM := Hd (wds_len 4 m)
 have LU := Hd (wds_len 4 u)
 have LE := Hd (wds_len 4 e)
 have AE := Hd (wds_at 4 e)
 have LX := Hd (fun s => wds_len 4 (X s))
 have LY := Hd (fun s => wds_len 4 (Y s))
 have LIT := Hd (show (.agg #[.int .u64 1, .int .u64 0, .int .u64 0, .int .u64 0] : Value) = .agg (natsV .u64 (wds 4 (X 256))).toArray by rw [htop]; exact num_lit1)
 have hLT := LX.out 256
 clear HSQ HMA HP0 HP1 hX hY htop hend he hu hm hgt hpos
 generalize wds 4 m = lm at *
 generalize wds 4 u = lu at *
 generalize wds 4 e = le at *
 have B1 := Hd (((((Blk.new w 26 (natsV .u64 lu)).alloc (.cells (natsV .u64 le).toArray 26)).alloc (.cells (natsV .u64 lm).toArray 26)).alloc (.cells (natsV .u64 (zeros 4)).toArray 26)).alloc (.cells (natsV .u64 (zeros 4)).toArray 26))
 have B2 := Hd ((((Blk.new2 w (.cells (natsV .u64 lu).toArray 26) 26 (natsV .u64 le)).alloc (.cells (natsV .u64 lm).toArray 26)).alloc (.cells (natsV .u64 (zeros 4)).toArray 26)).alloc (.cells (natsV .u64 (zeros 4)).toArray 26))
 have B3 := Hd (((Blk.new3 w (.cells (natsV .u64 lu).toArray 26) (.cells (natsV .u64 le).toArray 26) 26 (natsV .u64 lm)).alloc (.cells (natsV .u64 (zeros 4)).toArray 26)).alloc (.cells (natsV .u64 (zeros 4)).toArray 26))
 have B4 := Hd ((Blk.new4 w (.cells (natsV .u64 lu).toArray 26) (.cells (natsV .u64 le).toArray 26) (.cells (natsV .u64 lm).toArray 26) 26 (natsV .u64 (zeros 4))).alloc (.cells (natsV .u64 (zeros 4)).toArray 26))
 have B5 := Hd (Blk.new5 w (.cells (natsV .u64 lu).toArray 26) (.cells (natsV .u64 le).toArray 26) (.cells (natsV .u64 lm).toArray 26) (.cells (natsV .u64 (zeros 4)).toArray 26) 26 (natsV .u64 (zeros 4)))
 have BEL := Hd ((((((Below.refl w.heap.size w).alloc (Nat.le_refl _) (.cells (natsV .u64 lu).toArray 26)).alloc (by simp) (.cells (natsV .u64 le).toArray 26)).alloc (by simp; omega) (.cells (natsV .u64 lm).toArray 26)).alloc (by simp; omega) (.cells (natsV .u64 (zeros 4)).toArray 26)).alloc (by simp; omega) (.cells (natsV .u64 (zeros 4)).toArray 26))
 go_enter Tryz.func70, Tryz.ntmps70
 have hz2 := Hd (below_setRow' BEL.out (show w.heap.size ≤ (w.heap.size + 1 + 1 + 1 + 1) by first | exact Nat.le_refl _ | omega) (natsV .u64 (wds 4 (X 256))).toArray)
 have Y3 := Hd (B1.out.row (natsV .u64 (wds 4 (X 256))).toArray (show w.heap.size ≠ (w.heap.size + 1 + 1 + 1 + 1) by first | omega | assumption | exact Ne.symm (by assumption)))
 have Y4 := Hd (B2.out.row (natsV .u64 (wds 4 (X 256))).toArray (show (w.heap.size + 1) ≠ (w.heap.size + 1 + 1 + 1 + 1) by first | omega | assumption | exact Ne.symm (by assumption)))
 have Y5 := Hd (B3.out.row (natsV .u64 (wds 4 (X 256))).toArray (show (w.heap.size + 1 + 1) ≠ (w.heap.size + 1 + 1 + 1 + 1) by first | omega | assumption | exact Ne.symm (by assumption)))
 have Y6 := Hd (B4.out.row (natsV .u64 (wds 4 (X 256))).toArray (show (w.heap.size + 1 + 1 + 1) ≠ (w.heap.size + 1 + 1 + 1 + 1) by first | omega | assumption | exact Ne.symm (by assumption)))
 have Y7 := Hd (B5.out.setRow (natsV .u64 (wds 4 (X 256))))
 go_wp2_with (refine st24 rfl (.tmp 7) (.tmp 10) rfl (w.heap.size + 1 + 1 + 1 + 1) rfl (wds 4 (X 256)) LIT.out hLT (zeros 4) B5.out rfl ?_; generalize hW : World.setRow _ _ _ = w1; have D8 := Hd (show Blk w1 w.heap.size 26 (natsV .u64 lu) from (by rw [← hW]; exact Y3.out)); have D9 := Hd (show Blk w1 (w.heap.size + 1) 26 (natsV .u64 le) from (by rw [← hW]; exact Y4.out)); have D10 := Hd (show Blk w1 (w.heap.size + 1 + 1) 26 (natsV .u64 lm) from (by rw [← hW]; exact Y5.out)); have D11 := Hd (show Blk w1 (w.heap.size + 1 + 1 + 1) 26 (natsV .u64 (zeros 4)) from (by rw [← hW]; exact Y6.out)); have D12 := Hd (show Blk w1 (w.heap.size + 1 + 1 + 1 + 1) 26 (natsV .u64 (wds 4 (X 256))) from (by rw [← hW]; exact Y7.out)); have hbel13 : Below w.heap.size w w1 := (by rw [← hW]; exact hz2.out); clear hW hz2 B1 B2 B3 B4 B5 Y3 Y4 Y5 Y6 Y7)
 go_loopw [8] (fun i wr => ∃ n : Nat, n ≤ 4 ∧ i = .int .i64 ((n : Int) - 1) ∧ Blk wr w.heap.size 26 (natsV .u64 lu) ∧ Blk wr (w.heap.size + 1) 26 (natsV .u64 le) ∧ Blk wr (w.heap.size + 1 + 1) 26 (natsV .u64 lm) ∧ Blk wr (w.heap.size + 1 + 1 + 1) 26 (natsV .u64 (zeros 4)) ∧ Blk wr (w.heap.size + 1 + 1 + 1 + 1) 26 (natsV .u64 (wds 4 (X (64 * n)))) ∧ Below w.heap.size w wr) (fun i _ => (intOf i + 1).toNat)
 case atStart => exact ⟨4, by omega, rfl, D8.out, D9.out, D10.out, D11.out, D12.out, hbel13⟩
 case round =>
   clear D8 D9 D10 D11 D12 hbel13 LIT hLT
   obtain ⟨n, hn, rfl, k1, k2, k3, k4, k5, hbel⟩ := hrel
   have K1 := Hd k1
   have K2 := Hd k2
   have K3 := Hd k3
   have K4 := Hd k4
   have K5 := Hd k5
   clear k1 k2 k3 k4 k5
   rcases n with _ | n
   · rw [show ((0 : Nat) : Int) - 1 = -1 from rfl]
     as_aux_lemma =>
     have hL0 := LX.out (64 * 0)
     clear HY1 HY2 HY0
     go_wp2_with (first | (refine ld24 rfl (.tmp 7) rfl (w.heap.size + 1 + 1 + 1 + 1) rfl (wds 4 (X (64 * 0))) K5.out hL0 ?_) | (refine st24 rfl (.tmp 6) (.tmp 33) rfl (w.heap.size + 1 + 1 + 1) rfl (wds 4 (X (64 * 0))) rfl hL0 (zeros 4) K4.out rfl ?_))
     refine bodyPost_ret (v := .agg (natsV .u64 (wds 4 (X (64 * 0)))).toArray) ?_ rfl ⟨rfl, below_setRow' hbel (by omega) _⟩
     exact ret24 Tryz.results70 _ _ (w.heap.size + 1 + 1 + 1) (wds 4 (X (64 * 0))) rfl (K4.out.setRow _) hL0
   · rw [show ((n + 1 : Nat) : Int) - 1 = (n : Int) by omega]
     have hn4 : n < 4 := by omega
     have hnn : (0 : Int) ≤ (n : Int) := by omega
     have hni : (n : Int) < 4 := by omega
     go_wp2_with fail
     go_loopw [9] (fun bb wr => ∃ j : Nat, j ≤ 64 ∧ bb = .int .u64 ((2 ^ j / 2 : Nat) : Int) ∧ Blk wr w.heap.size 26 (natsV .u64 lu) ∧ Blk wr (w.heap.size + 1) 26 (natsV .u64 le) ∧ Blk wr (w.heap.size + 1 + 1) 26 (natsV .u64 lm) ∧ Blk wr (w.heap.size + 1 + 1 + 1) 26 (natsV .u64 (zeros 4)) ∧ Blk wr (w.heap.size + 1 + 1 + 1 + 1) 26 (natsV .u64 (wds 4 (X (64 * n + j)))) ∧ Below w.heap.size w wr) (fun bb _ => (intOf bb).toNat)
     case atStart => exact ⟨64, by omega, by first | rfl | decide, K1.out, K2.out, K3.out, K4.out, by rw [show 64 * n + 64 = 64 * (n + 1) by omega]; exact K5.out, hbel⟩
     case round =>
       clear K1 K2 K3 K4 K5 hbel
       obtain ⟨j, hj, rfl, k1, k2, k3, k4, k5, hbel⟩ := hrel
       have K1 := Hd k1
       have K2 := Hd k2
       have K3 := Hd k3
       have K4 := Hd k4
       have K5 := Hd k5
       clear k1 k2 k3 k4 k5
       rcases j with _ | j
       · as_aux_lemma =>
         rw [show ((2 ^ 0 / 2 : Nat) : Int) = 0 from rfl]
         go_wp2_with fail
         go_roundw
         case rel => exact ⟨n, by omega, by go_num, K1.out, K2.out, K3.out, K4.out, K5.out, hbel⟩
         case measure => simp [intOf] <;> omega
       · as_aux_lemma =>
         have hj64 : j < 64 := by omega
         have hp : 2 ^ (j + 1) / 2 = 2 ^ j := by rw [Nat.pow_succ, Nat.mul_div_cancel _ (by decide)]
         rw [hp]
         have hpl : 2 ^ j < 2 ^ 64 := Nat.pow_lt_pow_right (by decide) hj64
         have hpp : 0 < 2 ^ j := Nat.two_pow_pos j
         have hd := dgt_lt (B := 2 ^ 64) (by decide) e n
         have hand := and_pow (dgt (2 ^ 64) e n) j hd hj64
         rw [word_bit e n j hj64] at hand
         have hL1 := LX.out (64 * n + (j + 1))
         have hLs := LX.out (64 * n + j)
         have hLy := LY.out (64 * n + j)
         have HQ1 := Hd (HY1.out (64 * n + j))
         have HQ2 := Hd (HY2.out (64 * n + j))
         have HQ0 := Hd (HY0.out (64 * n + j))
         have hbit : e / 2 ^ (64 * n + j) % 2 = 0 ∨ e / 2 ^ (64 * n + j) % 2 = 1 := Nat.mod_two_eq_zero_or_one _
         have AEn := AE.out n hn4
         have hlel := LE.out
         have hhalf : ((2 ^ j : Nat) : Int) / 2 = ((2 ^ j / 2 : Nat) : Int) := rfl
         have hwh : IntKind.u64.wrap ((2 ^ j / 2 : Nat) : Int) = ((2 ^ j / 2 : Nat) : Int) := u64_in _ (Nat.lt_of_le_of_lt (Nat.div_le_self _ _) hpl)
         have hdlt : 2 ^ j / 2 < 2 ^ j := Nat.div_lt_self hpp (by decide)
         rw [show 64 * n + (j + 1) = 64 * n + j + 1 by omega] at K5 hL1
         clear HY1 HY2 HY0 LX LY AE
         obtain ⟨l1, hl1⟩ : ∃ l, l = wds 4 (X (64 * n + j + 1)) := ⟨_, rfl⟩
         rw [← hl1] at HQ1 K5 hL1
         clear hl1
         obtain ⟨ls, hls⟩ : ∃ l, l = wds 4 (X (64 * n + j)) := ⟨_, rfl⟩
         rw [← hls] at HQ2 hLs
         have HLS := Hd hls
         obtain ⟨ly, hly⟩ : ∃ l, l = wds 4 (Y (64 * n + j)) := ⟨_, rfl⟩
         rw [← hly] at HQ1 HQ2 hLy
         have HLYS := Hd (fun h => show ly = ls from by rw [hly, hls, HQ0.out h])
         clear hls hly HQ0
         generalize e / 2 ^ (64 * n + j) % 2 = bt at *
         generalize dgt (2 ^ 64) e n = d at *
         obtain ⟨hf, hhf⟩ : ∃ z, z = 2 ^ j / 2 := ⟨_, rfl⟩
         rw [← hhf] at hhalf hwh hdlt
         have HHF := Hd hhf
         clear hhf
         obtain ⟨p, hp2⟩ : ∃ p, p = 2 ^ j := ⟨_, rfl⟩
         rw [← hp2] at hpl hpp hand hhalf hdlt ⊢
         clear hp2 hp
         have hpz : (0 : Int) < (p : Int) := by omega
         go_wp2_with (first | (refine ld24 rfl (.tmp 7) rfl (w.heap.size + 1 + 1 + 1 + 1) rfl l1 K5.out hL1 ?_) | (refine ld24 rfl (.tmp 5) rfl (w.heap.size + 1 + 1) rfl lm K3.out LM.out ?_))
         refine (HQ1.out _).mono ?_
         rintro e w401 ⟨rfl, hbw401⟩
         have C402 := Hd (K1.out.below' hbw401)
         have C403 := Hd (K2.out.below' hbw401)
         have C404 := Hd (K3.out.below' hbw401)
         have C405 := Hd (K4.out.below' hbw401)
         have C406 := Hd (K5.out.below' hbw401)
         have hbel407 := hbel.trans (hbw401.mono hbel.size)
         have hz409 := Hd (below_setRow' hbel407 (show w.heap.size ≤ (w.heap.size + 1 + 1 + 1 + 1) by first | exact Nat.le_refl _ | omega) (natsV .u64 ly).toArray)
         have Y410 := Hd (C402.out.row (natsV .u64 ly).toArray (show w.heap.size ≠ (w.heap.size + 1 + 1 + 1 + 1) by first | omega | assumption | exact Ne.symm (by assumption)))
         have Y411 := Hd (C403.out.row (natsV .u64 ly).toArray (show (w.heap.size + 1) ≠ (w.heap.size + 1 + 1 + 1 + 1) by first | omega | assumption | exact Ne.symm (by assumption)))
         have Y412 := Hd (C404.out.row (natsV .u64 ly).toArray (show (w.heap.size + 1 + 1) ≠ (w.heap.size + 1 + 1 + 1 + 1) by first | omega | assumption | exact Ne.symm (by assumption)))
         have Y413 := Hd (C405.out.row (natsV .u64 ly).toArray (show (w.heap.size + 1 + 1 + 1) ≠ (w.heap.size + 1 + 1 + 1 + 1) by first | omega | assumption | exact Ne.symm (by assumption)))
         have Y414 := Hd (C406.out.setRow (natsV .u64 ly))
         clear K1 K2 K3 K4 K5 hbw401 hbel
         rcases hbit with rfl | rfl
         · have hz : 0 * p = 0 := Nat.zero_mul p
           rw [hz] at hand
           have hyl := HLYS.out rfl
           subst hyl
           go_wp2_with (refine st24 rfl (.tmp 7) (.tmp 22) rfl (w.heap.size + 1 + 1 + 1 + 1) rfl ly rfl hLy l1 C406.out hL1 ?_; generalize hW : World.setRow _ _ _ = w408; have D415 := Hd (show Blk w408 w.heap.size 26 (natsV .u64 lu) from (by rw [← hW]; exact Y410.out)); have D416 := Hd (show Blk w408 (w.heap.size + 1) 26 (natsV .u64 le) from (by rw [← hW]; exact Y411.out)); have D417 := Hd (show Blk w408 (w.heap.size + 1 + 1) 26 (natsV .u64 lm) from (by rw [← hW]; exact Y412.out)); have D418 := Hd (show Blk w408 (w.heap.size + 1 + 1 + 1) 26 (natsV .u64 (zeros 4)) from (by rw [← hW]; exact Y413.out)); have D419 := Hd (show Blk w408 (w.heap.size + 1 + 1 + 1 + 1) 26 (natsV .u64 ly) from (by rw [← hW]; exact Y414.out)); have hbel420 : Below w.heap.size w w408 := (by rw [← hW]; exact hz409.out); clear hW hz409 C402 C403 C404 C405 C406 Y410 Y411 Y412 Y413 Y414 hbel407; have c0 := D416.out.nat n (by rw [hlel]; exact hn4); rw [AEn] at c0)
           go_roundw
           case rel => exact ⟨j, by omega, by rw [← HHF.out], D415.out, D416.out, D417.out, D418.out, by rw [← HLS.out]; exact D419.out, hbel420⟩
           case measure => simp [intOf] <;> omega
         · have hz : 1 * p = p := Nat.one_mul p
           rw [hz] at hand
           have hne : ((p : Int) != 0) = true := by simp; omega
           have hne2 : ¬ ((p : Int) = 0) := by omega
           go_wp2_with (first | (refine st24 rfl (.tmp 7) (.tmp 22) rfl (w.heap.size + 1 + 1 + 1 + 1) rfl ly rfl hLy l1 C406.out hL1 ?_; generalize hW : World.setRow _ _ _ = w408; have D415 := Hd (show Blk w408 w.heap.size 26 (natsV .u64 lu) from (by rw [← hW]; exact Y410.out)); have D416 := Hd (show Blk w408 (w.heap.size + 1) 26 (natsV .u64 le) from (by rw [← hW]; exact Y411.out)); have D417 := Hd (show Blk w408 (w.heap.size + 1 + 1) 26 (natsV .u64 lm) from (by rw [← hW]; exact Y412.out)); have D418 := Hd (show Blk w408 (w.heap.size + 1 + 1 + 1) 26 (natsV .u64 (zeros 4)) from (by rw [← hW]; exact Y413.out)); have D419 := Hd (show Blk w408 (w.heap.size + 1 + 1 + 1 + 1) 26 (natsV .u64 ly) from (by rw [← hW]; exact Y414.out)); have hbel420 : Below w.heap.size w w408 := (by rw [← hW]; exact hz409.out); clear hW hz409 C402 C403 C404 C405 C406 Y410 Y411 Y412 Y413 Y414 hbel407; have c0 := D416.out.nat n (by rw [hlel]; exact hn4); rw [AEn] at c0) | (refine ld24 rfl (.tmp 7) rfl (w.heap.size + 1 + 1 + 1 + 1) rfl ly D419.out hLy ?_) | (refine ld24 rfl (.tmp 3) rfl w.heap.size rfl lu D415.out LU.out ?_) | (refine ld24 rfl (.tmp 5) rfl (w.heap.size + 1 + 1) rfl lm D417.out LM.out ?_))
           clear c0
           refine (HQ2.out (by first | trivial | rfl) _).mono ?_
           rintro e w421 ⟨rfl, hbw421⟩
           have C422 := Hd (D415.out.below' hbw421)
           have C423 := Hd (D416.out.below' hbw421)
           have C424 := Hd (D417.out.below' hbw421)
           have C425 := Hd (D418.out.below' hbw421)
           have C426 := Hd (D419.out.below' hbw421)
           have hbel427 := hbel420.trans (hbw421.mono hbel420.size)
           have hz429 := Hd (below_setRow' hbel427 (show w.heap.size ≤ (w.heap.size + 1 + 1 + 1 + 1) by first | exact Nat.le_refl _ | omega) (natsV .u64 ls).toArray)
           have Y430 := Hd (C422.out.row (natsV .u64 ls).toArray (show w.heap.size ≠ (w.heap.size + 1 + 1 + 1 + 1) by first | omega | assumption | exact Ne.symm (by assumption)))
           have Y431 := Hd (C423.out.row (natsV .u64 ls).toArray (show (w.heap.size + 1) ≠ (w.heap.size + 1 + 1 + 1 + 1) by first | omega | assumption | exact Ne.symm (by assumption)))
           have Y432 := Hd (C424.out.row (natsV .u64 ls).toArray (show (w.heap.size + 1 + 1) ≠ (w.heap.size + 1 + 1 + 1 + 1) by first | omega | assumption | exact Ne.symm (by assumption)))
           have Y433 := Hd (C425.out.row (natsV .u64 ls).toArray (show (w.heap.size + 1 + 1 + 1) ≠ (w.heap.size + 1 + 1 + 1 + 1) by first | omega | assumption | exact Ne.symm (by assumption)))
           have Y434 := Hd (C426.out.setRow (natsV .u64 ls))
           clear D415 D416 D417 D418 D419 hbw421 hbel420
           go_wp2_with (refine st24 rfl (.tmp 7) (.tmp 32) rfl (w.heap.size + 1 + 1 + 1 + 1) rfl ls rfl hLs ly C426.out hLy ?_; generalize hW : World.setRow _ _ _ = w428; have D435 := Hd (show Blk w428 w.heap.size 26 (natsV .u64 lu) from (by rw [← hW]; exact Y430.out)); have D436 := Hd (show Blk w428 (w.heap.size + 1) 26 (natsV .u64 le) from (by rw [← hW]; exact Y431.out)); have D437 := Hd (show Blk w428 (w.heap.size + 1 + 1) 26 (natsV .u64 lm) from (by rw [← hW]; exact Y432.out)); have D438 := Hd (show Blk w428 (w.heap.size + 1 + 1 + 1) 26 (natsV .u64 (zeros 4)) from (by rw [← hW]; exact Y433.out)); have D439 := Hd (show Blk w428 (w.heap.size + 1 + 1 + 1 + 1) 26 (natsV .u64 ls) from (by rw [← hW]; exact Y434.out)); have hbel440 : Below w.heap.size w w428 := (by rw [← hW]; exact hz429.out); clear hW hz429 C422 C423 C424 C425 C426 Y430 Y431 Y432 Y433 Y434 hbel427)
           go_roundw
           case rel => exact ⟨j, by omega, by rw [← HHF.out], D435.out, D436.out, D437.out, D438.out, by rw [← HLS.out]; exact D439.out, hbel440⟩
           case measure => simp [intOf] <;> omega
theorem dwrap_87 {la lb lp lc : List Nat} (hla : la.length = 4) (hlb : lb.length = 4) (hlp : lp.length = 4) (hlc : lc.length = 4)
   (c1 : Ans 54 #[] (.agg (natsV .u64 lp).toArray))
   (c2 : Ans 40 #[.agg (natsV .u64 la).toArray, .agg (natsV .u64 lb).toArray, .agg (natsV .u64 lp).toArray] (.agg (natsV .u64 lc).toArray)) (w : World) :
   Calls Tryz.prog 74 #[.agg (natsV .u64 la).toArray, .agg (natsV .u64 lb).toArray] w fun e w' => e = .returned (.agg (natsV .u64 lc).toArray) ∧ Below w.heap.size w w' := by
 have L_la := Hd hla
 have L_lb := Hd hlb
 have L_lp := Hd hlp
 have L_lc := Hd hlc
 have Hc1 := Hd c1
 have Hc2 := Hd c2
 have B0_ := Hd (((Blk.new w  26 (natsV .u64 la)).alloc (.cells (natsV .u64 lb).toArray 26)).alloc (.cells (natsV .u64 (zeros 4)).toArray 26))
 have B1_ := Hd ((Blk.new2 w (.cells (natsV .u64 la).toArray 26) 26 (natsV .u64 lb)).alloc (.cells (natsV .u64 (zeros 4)).toArray 26))
 have B2_ := Hd (Blk.new3 w (.cells (natsV .u64 la).toArray 26) (.cells (natsV .u64 lb).toArray 26) 26 (natsV .u64 (zeros 4)))
 clear hla hlb hlp hlc c1 c2
 have bel_ := ((((Below.refl w.heap.size w).alloc (Nat.le_refl _) (.cells (natsV .u64 la).toArray 26)).alloc (by simp) (.cells (natsV .u64 lb).toArray 26)).alloc (by simp; omega) (.cells (natsV .u64 (zeros 4)).toArray 26))
 go_enter Tryz.func74, Tryz.ntmps74
 go_wp2_with fail
 as_aux_lemma =>
 refine wp_region_G (fun w_ => Blk w_ w.heap.size 26 (natsV .u64 la) ∧ Blk w_ (w.heap.size + 1) 26 (natsV .u64 lb)) 4 (by kernel_rfl) ⟨B0_.out.drew, B1_.out.drew⟩ ?_
 refine tk gS2 0 rfl (lg' (fun _ hS_ => blk_all (hS_.1)) Tryz.underlying26 (i24 L_la.out)) ?_
 try simp only [Act.put, zq]
 refine tk gS2 1 rfl (lg' (fun _ hS_ => blk_all (hS_.2)) Tryz.underlying26 (i24 L_lb.out)) ?_
 try simp only [Act.put, zq]
 refine tk gS2 2 rfl (cg' Tryz.func54 (fun w _ => Hc1.out w)) ?_
 try simp only [Act.put, zq]
 refine tk gS2 3 rfl (cg' Tryz.func40 (fun w _ => Hc2.out w)) ?_
 try simp only [Act.put, zq]
 refine wpAnyG_set (i := 4) (by kernel_rfl) (by kernel_rfl) rfl rfl B2_.out.drew (lz4 L_lc.out) (StoresG.mk (cs := (natsV .u64 lc)) (by rfl) 26 _ _ rfl rfl rfl (i24 L_lc.out) n1') ?_
 intro w1 hgw1 hn_
 try simp only [Act.put, zq]
 have hbel2 := belStore bel_.drew hgw1 (show w.heap.size ≤ (w.heap.size + 1 + 1) by omega)
 have D3 := Hd hn_
 go_wp2_with fail
 refine bodyPost_ret (v := .agg (natsV .u64 lc).toArray) ?_ rfl ⟨rfl, hbel2⟩
 exact results_cell_row Tryz.results74 _ _ (w.heap.size + 1 + 1) 26 _ (0, 0) _ rfl D3.out Tryz.underlying26 rfl (by simpa using (i24 L_lc.out))
theorem dwrap_119 {la lb lp lc : List Nat} (hla : la.length = 4) (hlb : lb.length = 4) (hlp : lp.length = 4) (hlc : lc.length = 4)
   (c1 : Ans 54 #[] (.agg (natsV .u64 lp).toArray))
   (c2 : Ans 58 #[.agg (natsV .u64 la).toArray, .agg (natsV .u64 lb).toArray, .agg (natsV .u64 lp).toArray] (.agg (natsV .u64 lc).toArray)) (w : World) :
   Calls Tryz.prog 102 #[.agg (natsV .u64 la).toArray, .agg (natsV .u64 lb).toArray] w fun e w' => e = .returned (.agg (natsV .u64 lc).toArray) ∧ Below w.heap.size w w' := by
 have L_la := Hd hla
 have L_lb := Hd hlb
 have L_lp := Hd hlp
 have L_lc := Hd hlc
 have Hc1 := Hd c1
 have Hc2 := Hd c2
 have B0_ := Hd (((Blk.new w  26 (natsV .u64 la)).alloc (.cells (natsV .u64 lb).toArray 26)).alloc (.cells (natsV .u64 (zeros 4)).toArray 26))
 have B1_ := Hd ((Blk.new2 w (.cells (natsV .u64 la).toArray 26) 26 (natsV .u64 lb)).alloc (.cells (natsV .u64 (zeros 4)).toArray 26))
 have B2_ := Hd (Blk.new3 w (.cells (natsV .u64 la).toArray 26) (.cells (natsV .u64 lb).toArray 26) 26 (natsV .u64 (zeros 4)))
 clear hla hlb hlp hlc c1 c2
 have bel_ := ((((Below.refl w.heap.size w).alloc (Nat.le_refl _) (.cells (natsV .u64 la).toArray 26)).alloc (by simp) (.cells (natsV .u64 lb).toArray 26)).alloc (by simp; omega) (.cells (natsV .u64 (zeros 4)).toArray 26))
 go_enter Tryz.func102, Tryz.ntmps102
 go_wp2_with fail
 as_aux_lemma =>
 refine wp_region_G (fun w_ => Blk w_ w.heap.size 26 (natsV .u64 la) ∧ Blk w_ (w.heap.size + 1) 26 (natsV .u64 lb)) 4 (by kernel_rfl) ⟨B0_.out.drew, B1_.out.drew⟩ ?_
 refine tk gS2 0 rfl (lg' (fun _ hS_ => blk_all (hS_.1)) Tryz.underlying26 (i24 L_la.out)) ?_
 try simp only [Act.put, zq]
 refine tk gS2 1 rfl (lg' (fun _ hS_ => blk_all (hS_.2)) Tryz.underlying26 (i24 L_lb.out)) ?_
 try simp only [Act.put, zq]
 refine tk gS2 2 rfl (cg' Tryz.func54 (fun w _ => Hc1.out w)) ?_
 try simp only [Act.put, zq]
 refine tk gS2 3 rfl (cg' Tryz.func58 (fun w _ => Hc2.out w)) ?_
 try simp only [Act.put, zq]
 refine wpAnyG_set (i := 4) (by kernel_rfl) (by kernel_rfl) rfl rfl B2_.out.drew (lz4 L_lc.out) (StoresG.mk (cs := (natsV .u64 lc)) (by rfl) 26 _ _ rfl rfl rfl (i24 L_lc.out) n1') ?_
 intro w1 hgw1 hn_
 try simp only [Act.put, zq]
 have hbel2 := belStore bel_.drew hgw1 (show w.heap.size ≤ (w.heap.size + 1 + 1) by omega)
 have D3 := Hd hn_
 go_wp2_with fail
 refine bodyPost_ret (v := .agg (natsV .u64 lc).toArray) ?_ rfl ⟨rfl, hbel2⟩
 exact results_cell_row Tryz.results102 _ _ (w.heap.size + 1 + 1) 26 _ (0, 0) _ rfl D3.out Tryz.underlying26 rfl (by simpa using (i24 L_lc.out))
theorem dwrap_120 {la lb lp lc : List Nat} (hla : la.length = 4) (hlb : lb.length = 4) (hlp : lp.length = 4) (hlc : lc.length = 4)
   (c1 : Ans 54 #[] (.agg (natsV .u64 lp).toArray))
   (c2 : Ans 45 #[.agg (natsV .u64 la).toArray, .agg (natsV .u64 lb).toArray, .agg (natsV .u64 lp).toArray] (.agg (natsV .u64 lc).toArray)) (w : World) :
   Calls Tryz.prog 103 #[.agg (natsV .u64 la).toArray, .agg (natsV .u64 lb).toArray] w fun e w' => e = .returned (.agg (natsV .u64 lc).toArray) ∧ Below w.heap.size w w' := by
 have L_la := Hd hla
 have L_lb := Hd hlb
 have L_lp := Hd hlp
 have L_lc := Hd hlc
 have Hc1 := Hd c1
 have Hc2 := Hd c2
 have B0_ := Hd (((Blk.new w  26 (natsV .u64 la)).alloc (.cells (natsV .u64 lb).toArray 26)).alloc (.cells (natsV .u64 (zeros 4)).toArray 26))
 have B1_ := Hd ((Blk.new2 w (.cells (natsV .u64 la).toArray 26) 26 (natsV .u64 lb)).alloc (.cells (natsV .u64 (zeros 4)).toArray 26))
 have B2_ := Hd (Blk.new3 w (.cells (natsV .u64 la).toArray 26) (.cells (natsV .u64 lb).toArray 26) 26 (natsV .u64 (zeros 4)))
 clear hla hlb hlp hlc c1 c2
 have bel_ := ((((Below.refl w.heap.size w).alloc (Nat.le_refl _) (.cells (natsV .u64 la).toArray 26)).alloc (by simp) (.cells (natsV .u64 lb).toArray 26)).alloc (by simp; omega) (.cells (natsV .u64 (zeros 4)).toArray 26))
 go_enter Tryz.func103, Tryz.ntmps103
 go_wp2_with fail
 as_aux_lemma =>
 refine wp_region_G (fun w_ => Blk w_ w.heap.size 26 (natsV .u64 la) ∧ Blk w_ (w.heap.size + 1) 26 (natsV .u64 lb)) 4 (by kernel_rfl) ⟨B0_.out.drew, B1_.out.drew⟩ ?_
 refine tk gS2 0 rfl (lg' (fun _ hS_ => blk_all (hS_.1)) Tryz.underlying26 (i24 L_la.out)) ?_
 try simp only [Act.put, zq]
 refine tk gS2 1 rfl (lg' (fun _ hS_ => blk_all (hS_.2)) Tryz.underlying26 (i24 L_lb.out)) ?_
 try simp only [Act.put, zq]
 refine tk gS2 2 rfl (cg' Tryz.func54 (fun w _ => Hc1.out w)) ?_
 try simp only [Act.put, zq]
 refine tk gS2 3 rfl (cg' Tryz.func45 (fun w _ => Hc2.out w)) ?_
 try simp only [Act.put, zq]
 refine wpAnyG_set (i := 4) (by kernel_rfl) (by kernel_rfl) rfl rfl B2_.out.drew (lz4 L_lc.out) (StoresG.mk (cs := (natsV .u64 lc)) (by rfl) 26 _ _ rfl rfl rfl (i24 L_lc.out) n1') ?_
 intro w1 hgw1 hn_
 try simp only [Act.put, zq]
 have hbel2 := belStore bel_.drew hgw1 (show w.heap.size ≤ (w.heap.size + 1 + 1) by omega)
 have D3 := Hd hn_
 go_wp2_with fail
 refine bodyPost_ret (v := .agg (natsV .u64 lc).toArray) ?_ rfl ⟨rfl, hbel2⟩
 exact results_cell_row Tryz.results103 _ _ (w.heap.size + 1 + 1) 26 _ (0, 0) _ rfl D3.out Tryz.underlying26 rfl (by simpa using (i24 L_lc.out))
theorem dwrap_84 {la lp le lc : List Nat} (hla : la.length = 4) (hlp : lp.length = 4) (hle : le.length = 4) (hlc : lc.length = 4)
   (c1 : Ans 44 #[.agg (natsV .u64 lp).toArray, .agg #[.int .u64 2, .int .u64 0, .int .u64 0, .int .u64 0]] (.agg (natsV .u64 le).toArray))
   (c2 : Ans 70 #[.agg (natsV .u64 la).toArray, .agg (natsV .u64 le).toArray, .agg (natsV .u64 lp).toArray] (.agg (natsV .u64 lc).toArray)) (w : World) :
   Calls Tryz.prog 39 #[.agg (natsV .u64 la).toArray, .agg (natsV .u64 lp).toArray] w fun e w' => e = .returned (.agg (natsV .u64 lc).toArray) ∧ Below w.heap.size w w' := by
 have L_la := Hd hla
 have L_lp := Hd hlp
 have L_le := Hd hle
 have L_lc := Hd hlc
 have Hc1 := Hd c1
 have Hc2 := Hd c2
 have B0_ := Hd (((Blk.new w  26 (natsV .u64 la)).alloc (.cells (natsV .u64 lp).toArray 26)).alloc (.cells (natsV .u64 (zeros 4)).toArray 26))
 have B1_ := Hd ((Blk.new2 w (.cells (natsV .u64 la).toArray 26) 26 (natsV .u64 lp)).alloc (.cells (natsV .u64 (zeros 4)).toArray 26))
 have B2_ := Hd (Blk.new3 w (.cells (natsV .u64 la).toArray 26) (.cells (natsV .u64 lp).toArray 26) 26 (natsV .u64 (zeros 4)))
 clear hla hlp hle hlc c1 c2
 have bel_ := ((((Below.refl w.heap.size w).alloc (Nat.le_refl _) (.cells (natsV .u64 la).toArray 26)).alloc (by simp) (.cells (natsV .u64 lp).toArray 26)).alloc (by simp; omega) (.cells (natsV .u64 (zeros 4)).toArray 26))
 go_enter Tryz.func39, Tryz.ntmps39
 go_wp2_with fail
 as_aux_lemma =>
 refine wp_region_G (fun w_ => Blk w_ w.heap.size 26 (natsV .u64 la) ∧ Blk w_ (w.heap.size + 1) 26 (natsV .u64 lp)) 6 (by kernel_rfl) ⟨B0_.out.drew, B1_.out.drew⟩ ?_
 refine tk gS2 0 rfl (lg' (fun _ hS_ => blk_all (hS_.1)) Tryz.underlying26 (i24 L_la.out)) ?_
 try simp only [Act.put, zq]
 refine tk gS2 1 rfl (lg' (fun _ hS_ => blk_all (hS_.2)) Tryz.underlying26 (i24 L_lp.out)) ?_
 try simp only [Act.put, zq]
 refine tkp gS2 2 rfl ?_
 try simp only [Act.put, zq]
 refine tk gS2 3 rfl (cg' Tryz.func44 (fun w _ => Hc1.out w)) ?_
 try simp only [Act.put, zq]
 refine tk gS2 4 rfl (lg' (fun _ hS_ => blk_all (hS_.2)) Tryz.underlying26 (i24 L_lp.out)) ?_
 try simp only [Act.put, zq]
 refine tk gS2 5 rfl (cg' Tryz.func70 (fun w _ => Hc2.out w)) ?_
 try simp only [Act.put, zq]
 refine wpAnyG_set (i := 6) (by kernel_rfl) (by kernel_rfl) rfl rfl B2_.out.drew (lz4 L_lc.out) (StoresG.mk (cs := (natsV .u64 lc)) (by rfl) 26 _ _ rfl rfl rfl (i24 L_lc.out) n1') ?_
 intro w1 hgw1 hn_
 try simp only [Act.put, zq]
 have hbel2 := belStore bel_.drew hgw1 (show w.heap.size ≤ (w.heap.size + 1 + 1) by omega)
 have D3 := Hd hn_
 go_wp2_with fail
 refine bodyPost_ret (v := .agg (natsV .u64 lc).toArray) ?_ rfl ⟨rfl, hbel2⟩
 exact results_cell_row Tryz.results39 _ _ (w.heap.size + 1 + 1) 26 _ (0, 0) _ rfl D3.out Tryz.underlying26 rfl (by simpa using (i24 L_lc.out))
theorem d_mod (f g : FP) (w : World) : Calls Tryz.prog 40 #[.agg (natsV .u64 (nw f)).toArray, .agg (natsV .u64 (nw g)).toArray, .agg (natsV .u64 (wds 4 mP)).toArray] w fun e w' => e = .returned (.agg (natsV .u64 (nw (f * g))).toArray) ∧ Below w.heap.size w w' := by
 have h := Mul5_any f.val g.val mP w (lt256 f) (lt256 g) fld_P.lt fld_P.gt
 rw [← Fin.val_mul] at h; exact h
theorem d_modA (f g : FP) (w : World) : Calls Tryz.prog 45 #[.agg (natsV .u64 (nw f)).toArray, .agg (natsV .u64 (nw g)).toArray, .agg (natsV .u64 (wds 4 mP)).toArray] w fun e w' => e = .returned (.agg (natsV .u64 (nw (f + g))).toArray) ∧ Below w.heap.size w w' := by
 have h := DAdd_any f.val g.val mP w fld_P.lt f.isLt g.isLt
 rw [← Fin.val_add] at h; exact h
theorem d_modS (f g : FP) (w : World) : Calls Tryz.prog 58 #[.agg (natsV .u64 (nw f)).toArray, .agg (natsV .u64 (nw g)).toArray, .agg (natsV .u64 (wds 4 mP)).toArray] w fun e w' => e = .returned (.agg (natsV .u64 (nw (f - g))).toArray) ∧ Below w.heap.size w w' := by
 have h := DSub_any f.val g.val mP w fld_P.lt f.isLt g.isLt
 rw [← sub_val] at h; exact h
theorem d_mul (f g : FP) (w : World) : Calls Tryz.prog 74 #[.agg (natsV .u64 (nw f)).toArray, .agg (natsV .u64 (nw g)).toArray] w fun e w' => e = .returned (.agg (natsV .u64 (nw (f * g))).toArray) ∧ Below w.heap.size w w' :=
 dwrap_87 (nw_len f) (nw_len g) (wds_len 4 mP) (nw_len _) DP_any (d_mod f g) w
theorem d_sub (f g : FP) (w : World) : Calls Tryz.prog 102 #[.agg (natsV .u64 (nw f)).toArray, .agg (natsV .u64 (nw g)).toArray] w fun e w' => e = .returned (.agg (natsV .u64 (nw (f - g))).toArray) ∧ Below w.heap.size w w' :=
 dwrap_119 (nw_len f) (nw_len g) (wds_len 4 mP) (nw_len _) DP_any (d_modS f g) w
theorem d_add (f g : FP) (w : World) : Calls Tryz.prog 103 #[.agg (natsV .u64 (nw f)).toArray, .agg (natsV .u64 (nw g)).toArray] w fun e w' => e = .returned (.agg (natsV .u64 (nw (f + g))).toArray) ∧ Below w.heap.size w w' :=
 dwrap_120 (nw_len f) (nw_len g) (wds_len 4 mP) (nw_len _) DP_any (d_modA f g) w
theorem d_inv (f : FP) (h0 : f ≠ 0) (w : World) : Calls Tryz.prog 39 #[.agg (natsV .u64 (nw f)).toArray, .agg (natsV .u64 (wds 4 mP)).toArray] w fun e w' => e = .returned (.agg (natsV .u64 (nw (EC.iv f))).toArray) ∧ Below w.heap.size w w' := by
 refine dwrap_84 (nw_len f) (wds_len 4 mP) (wds_len 4 (mP - 2)) (nw_len _) (fun w => ?_) (fun w => ?_) w
 · have h := dminus_any mP 2 w fld_P.lt (by decide)
   rw [less_two mP (by have := fld_P.gt; omega), ← num_lit2] at h; exact h
 · have h := Pow5_any f.val (mP - 2) mP w (lt256 f) (Nat.lt_of_le_of_lt (Nat.sub_le _ _) fld_P.lt) fld_P.lt fld_P.gt
   have e : f.val ^ (mP - 2) % mP = (EC.iv f).val := by rw [iv_fp f h0, fv_val]
   rw [e] at h; exact h
end Go.Proofs.YtdkkombpkojjaaaGreat
