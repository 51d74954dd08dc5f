/- Parts of proofs of statements, each text behind those that it stands on. No condition of its own. -/
import Derived.Test.YtfffmoolkgheaaaY25
namespace Go.Proofs.Ytfffmoolkgheaaa
open Go.RowKit
set_option linter.unusedVariables false
set_option linter.unusedSimpArgs false
def px (m u e s : Nat) : Nat := u ^ (e / 2 ^ s) % m
theorem px_lt (m u e s : Nat) (h : 0 < m) : px m u e s < m := Nat.mod_lt _ h
theorem bit_split' (e s : Nat) : e / 2 ^ s = 2 * (e / 2 ^ (s + 1)) + e / 2 ^ s % 2 := by
  rw [Nat.pow_succ, ← Nat.div_div_eq_div_mul]; omega
theorem px_0 (m u e s : Nat) (h : e / 2 ^ s % 2 = 0) : px m u e (s + 1) * px m u e (s + 1) % m = px m u e s := by
  unfold px
  rw [← Nat.mul_mod, ← Nat.pow_add, ← Nat.two_mul, bit_split' e s, h]; rfl
theorem px_1 (m u e s : Nat) (h : e / 2 ^ s % 2 = 1) : px m u e (s + 1) * px m u e (s + 1) % m * u % m = px m u e s := by
  unfold px
  rw [← Nat.mul_mod, ← Nat.pow_add, ← Nat.two_mul, mulmod_left, ← Nat.pow_succ, bit_split' e s, h]
theorem word_bit (e i k : Nat) (hk : k < 64) : dgt (2 ^ 64) e i / 2 ^ k % 2 = e / 2 ^ (64 * i + k) % 2 := bit_word e i k hk
theorem and_two_pow' (d k : Nat) : d &&& 2 ^ k = d / 2 ^ k % 2 * 2 ^ k := by
  rcases Nat.mod_two_eq_zero_or_one (d / 2 ^ k) with h | h
  · rw [h, Nat.zero_mul]
    apply Nat.eq_of_testBit_eq
    intro i
    rw [Nat.testBit_and, Nat.testBit_two_pow, Nat.zero_testBit]
    by_cases hik : k = i
    · subst hik
      rw [Nat.testBit_eq_decide_div_mod_eq, h]; rfl
    · rw [decide_eq_false hik, Bool.and_false]
  · rw [h, Nat.one_mul]
    apply Nat.eq_of_testBit_eq
    intro i
    rw [Nat.testBit_and, Nat.testBit_two_pow]
    by_cases hik : k = i
    · subst hik
      rw [Nat.testBit_eq_decide_div_mod_eq, h]; rfl
    · rw [decide_eq_false hik, Bool.and_false]
theorem and_pow (d k : Nat) (hd : d < 2 ^ 64) (hk : k < 64) : bits .and .u64 (d : Int) ((2 ^ k : Nat) : Int) = ((d / 2 ^ k % 2 * 2 ^ k : Nat) : Int) := by
  have h2 : 2 ^ k < 2 ^ 64 := Nat.pow_lt_pow_right (by decide) hk
  rw [u64_ba]
  congr 1
  unfold ba
  rw [Nat.mod_eq_of_lt hd, Nat.mod_eq_of_lt h2, and_two_pow']
set_option maxRecDepth 100000 in
set_option maxHeartbeats 1600000 in
theorem Pow5_any (u e m : Nat) (w : World) (hu : u < 2 ^ 256) (he : e < 2 ^ 256) (hm : m < 2 ^ 256) (hgt : 2 ^ 255 < m) :
    Calls Try.prog 115 #[.agg (natsV .u64 (wds 4 u)).toArray, .agg (natsV .u64 (wds 4 e)).toArray, .agg (natsV .u64 (wds 4 m)).toArray] w fun e_ w' => e_ = .returned (.agg (natsV .u64 (wds 4 (u ^ e % m))).toArray) ∧ Below w.heap.size w w' := by
  have hpos : 0 < m := by omega
  have hend : u ^ e % m = px m u e 0 := by unfold px; simp
  have htop : px m u e 256 = 1 := by unfold px; rw [Nat.div_eq_of_lt he, Nat.pow_zero, Nat.mod_eq_of_lt (by omega)]
  rw [hend]
  have HSQ := Lib.hid (fun s w => Mul5_any (px m u e (s + 1)) (px m u e (s + 1)) m w (Nat.lt_trans (px_lt m u e (s + 1) hpos) hm) (Nat.lt_trans (px_lt m u e (s + 1) hpos) hm) hm hgt)
  have HMA := Lib.hid (fun s w => Mul5_any (px m u e (s + 1) * px m u e (s + 1) % m) u m w (Nat.lt_trans (Nat.mod_lt _ hpos) hm) hu hm hgt)
  have HP0 := Lib.hid (fun s => px_0 m u e s)
  have HP1 := Lib.hid (fun s => px_1 m u e s)
  obtain ⟨Y, hY⟩ : ∃ Y : Nat → Nat, Y = fun s => px m u e (s + 1) * px m u e (s + 1) % m := ⟨_, rfl⟩
  obtain ⟨X, hX⟩ : ∃ X : Nat → Nat, X = px m u e := ⟨_, rfl⟩
  have HY1 := Lib.hid (fun s w => show Calls Try.prog 65 #[.agg (natsV .u64 (wds 4 (X (s + 1)))).toArray, .agg (natsV .u64 (wds 4 (X (s + 1)))).toArray, .agg (natsV .u64 (wds 4 m)).toArray] w fun e_ w' => e_ = .returned (.agg (natsV .u64 (wds 4 (Y s))).toArray) ∧ Below w.heap.size w w' from by rw [hY, hX]; exact HSQ.out s w)
  have HY2 := Lib.hid (fun s (h : e / 2 ^ s % 2 = 1) w => show Calls Try.prog 65 #[.agg (natsV .u64 (wds 4 (Y s))).toArray, .agg (natsV .u64 (wds 4 u)).toArray, .agg (natsV .u64 (wds 4 m)).toArray] w fun e_ w' => e_ = .returned (.agg (natsV .u64 (wds 4 (X s))).toArray) ∧ Below w.heap.size w w' from by rw [hY, hX, ← HP1.out s h]; exact HMA.out s w)
  have HY0 := Lib.hid (fun s (h : e / 2 ^ s % 2 = 0) => show Y s = X s from by rw [hY, hX]; exact HP0.out s h)
  rw [← hX] at htop ⊢
  have LM := Lib.hid (wds_len 4 m)
  have LU := Lib.hid (wds_len 4 u)
  have LE := Lib.hid (wds_len 4 e)
  have AE := Lib.hid (wds_at 4 e)
  have LX := Lib.hid (fun s => wds_len 4 (X s))
  have LY := Lib.hid (fun s => wds_len 4 (Y s))
  have LIT := Lib.hid (show (.agg #[.int .u64 1, .int .u64 0, .int .u64 0, .int .u64 0] : Value) = .agg (natsV .u64 (wds 4 (X 256))).toArray by rw [htop]; exact num_lit1)
  have hLT := LX.out 256
  clear HSQ HMA HP0 HP1 hX hY htop hend he hu hm hgt hpos
  generalize wds 4 m = lm at *
  generalize wds 4 u = lu at *
  generalize wds 4 e = le at *
  have B1 := Lib.hid (((((Blk.new w 24 (natsV .u64 lu)).alloc (.cells (natsV .u64 le).toArray 24)).alloc (.cells (natsV .u64 lm).toArray 24)).alloc (.cells (natsV .u64 (zeros 4)).toArray 24)).alloc (.cells (natsV .u64 (zeros 4)).toArray 24))
  have B2 := Lib.hid ((((Blk.new2 w (.cells (natsV .u64 lu).toArray 24) 24 (natsV .u64 le)).alloc (.cells (natsV .u64 lm).toArray 24)).alloc (.cells (natsV .u64 (zeros 4)).toArray 24)).alloc (.cells (natsV .u64 (zeros 4)).toArray 24))
  have B3 := Lib.hid (((Blk.new3 w (.cells (natsV .u64 lu).toArray 24) (.cells (natsV .u64 le).toArray 24) 24 (natsV .u64 lm)).alloc (.cells (natsV .u64 (zeros 4)).toArray 24)).alloc (.cells (natsV .u64 (zeros 4)).toArray 24))
  have B4 := Lib.hid ((Blk.new4 w (.cells (natsV .u64 lu).toArray 24) (.cells (natsV .u64 le).toArray 24) (.cells (natsV .u64 lm).toArray 24) 24 (natsV .u64 (zeros 4))).alloc (.cells (natsV .u64 (zeros 4)).toArray 24))
  have B5 := Lib.hid (Blk.new5 w (.cells (natsV .u64 lu).toArray 24) (.cells (natsV .u64 le).toArray 24) (.cells (natsV .u64 lm).toArray 24) (.cells (natsV .u64 (zeros 4)).toArray 24) 24 (natsV .u64 (zeros 4)))
  have BEL := Lib.hid ((((((Below.refl w.heap.size w).alloc (Nat.le_refl _) (.cells (natsV .u64 lu).toArray 24)).alloc (by simp) (.cells (natsV .u64 le).toArray 24)).alloc (by simp; omega) (.cells (natsV .u64 lm).toArray 24)).alloc (by simp; omega) (.cells (natsV .u64 (zeros 4)).toArray 24)).alloc (by simp; omega) (.cells (natsV .u64 (zeros 4)).toArray 24))
  go_enter Try.func115, Try.ntmps115
  have hz2 := Lib.hid (below_setRow' BEL.out (show w.heap.size ≤ (w.heap.size + 1 + 1 + 1 + 1) by first | exact Nat.le_refl _ | omega) (natsV .u64 (wds 4 (X 256))).toArray)
  have Y3 := Lib.hid (B1.out.row (natsV .u64 (wds 4 (X 256))).toArray (show w.heap.size ≠ (w.heap.size + 1 + 1 + 1 + 1) by first | omega | assumption | exact Ne.symm (by assumption)))
  have Y4 := Lib.hid (B2.out.row (natsV .u64 (wds 4 (X 256))).toArray (show (w.heap.size + 1) ≠ (w.heap.size + 1 + 1 + 1 + 1) by first | omega | assumption | exact Ne.symm (by assumption)))
  have Y5 := Lib.hid (B3.out.row (natsV .u64 (wds 4 (X 256))).toArray (show (w.heap.size + 1 + 1) ≠ (w.heap.size + 1 + 1 + 1 + 1) by first | omega | assumption | exact Ne.symm (by assumption)))
  have Y6 := Lib.hid (B4.out.row (natsV .u64 (wds 4 (X 256))).toArray (show (w.heap.size + 1 + 1 + 1) ≠ (w.heap.size + 1 + 1 + 1 + 1) by first | omega | assumption | exact Ne.symm (by assumption)))
  have Y7 := Lib.hid (B5.out.setRow (natsV .u64 (wds 4 (X 256))))
  go_wp2_with (refine st24 rfl (.tmp 7) (.tmp 10) rfl (w.heap.size + 1 + 1 + 1 + 1) rfl (wds 4 (X 256)) LIT.out hLT (zeros 4) B5.out rfl ?_; generalize hW : World.setRow _ _ _ = w1; have D8 := Lib.hid (show Blk w1 w.heap.size 24 (natsV .u64 lu) from (by rw [← hW]; exact Y3.out)); have D9 := Lib.hid (show Blk w1 (w.heap.size + 1) 24 (natsV .u64 le) from (by rw [← hW]; exact Y4.out)); have D10 := Lib.hid (show Blk w1 (w.heap.size + 1 + 1) 24 (natsV .u64 lm) from (by rw [← hW]; exact Y5.out)); have D11 := Lib.hid (show Blk w1 (w.heap.size + 1 + 1 + 1) 24 (natsV .u64 (zeros 4)) from (by rw [← hW]; exact Y6.out)); have D12 := Lib.hid (show Blk w1 (w.heap.size + 1 + 1 + 1 + 1) 24 (natsV .u64 (wds 4 (X 256))) from (by rw [← hW]; exact Y7.out)); have hbel13 : Below w.heap.size w w1 := (by rw [← hW]; exact hz2.out); clear hW hz2 B1 B2 B3 B4 B5 Y3 Y4 Y5 Y6 Y7)
  go_loopw [8] (fun i wr => ∃ n : Nat, n ≤ 4 ∧ i = .int .i64 ((n : Int) - 1) ∧ Blk wr w.heap.size 24 (natsV .u64 lu) ∧ Blk wr (w.heap.size + 1) 24 (natsV .u64 le) ∧ Blk wr (w.heap.size + 1 + 1) 24 (natsV .u64 lm) ∧ Blk wr (w.heap.size + 1 + 1 + 1) 24 (natsV .u64 (zeros 4)) ∧ Blk wr (w.heap.size + 1 + 1 + 1 + 1) 24 (natsV .u64 (wds 4 (X (64 * n)))) ∧ Below w.heap.size w wr) (fun i _ => (intOf i + 1).toNat)
  case atStart => exact ⟨4, by omega, rfl, D8.out, D9.out, D10.out, D11.out, D12.out, hbel13⟩
  case round =>
    clear D8 D9 D10 D11 D12 hbel13 LIT hLT
    obtain ⟨n, hn, rfl, k1, k2, k3, k4, k5, hbel⟩ := hrel
    have K1 := Lib.hid k1
    have K2 := Lib.hid k2
    have K3 := Lib.hid k3
    have K4 := Lib.hid k4
    have K5 := Lib.hid k5
    clear k1 k2 k3 k4 k5
    rcases n with _ | n
    · rw [show ((0 : Nat) : Int) - 1 = -1 from rfl]
      as_aux_lemma =>
      have hL0 := LX.out (64 * 0)
      clear HY1 HY2 HY0
      go_wp2_with (first | (refine ld24 rfl (.tmp 7) rfl (w.heap.size + 1 + 1 + 1 + 1) rfl (wds 4 (X (64 * 0))) K5.out hL0 ?_) | (refine st24 rfl (.tmp 6) (.tmp 33) rfl (w.heap.size + 1 + 1 + 1) rfl (wds 4 (X (64 * 0))) rfl hL0 (zeros 4) K4.out rfl ?_))
      refine bodyPost_ret (v := .agg (natsV .u64 (wds 4 (X (64 * 0)))).toArray) ?_ rfl ⟨rfl, below_setRow' hbel (by omega) _⟩
      exact ret24 Try.results115 _ _ (w.heap.size + 1 + 1 + 1) (wds 4 (X (64 * 0))) rfl (K4.out.setRow _) hL0
    · rw [show ((n + 1 : Nat) : Int) - 1 = (n : Int) by omega]
      have hn4 : n < 4 := by omega
      have hnn : (0 : Int) ≤ (n : Int) := by omega
      have hni : (n : Int) < 4 := by omega
      go_wp2_with fail
      go_loopw [9] (fun bb wr => ∃ j : Nat, j ≤ 64 ∧ bb = .int .u64 ((2 ^ j / 2 : Nat) : Int) ∧ Blk wr w.heap.size 24 (natsV .u64 lu) ∧ Blk wr (w.heap.size + 1) 24 (natsV .u64 le) ∧ Blk wr (w.heap.size + 1 + 1) 24 (natsV .u64 lm) ∧ Blk wr (w.heap.size + 1 + 1 + 1) 24 (natsV .u64 (zeros 4)) ∧ Blk wr (w.heap.size + 1 + 1 + 1 + 1) 24 (natsV .u64 (wds 4 (X (64 * n + j)))) ∧ Below w.heap.size w wr) (fun bb _ => (intOf bb).toNat)
      case atStart => exact ⟨64, by omega, by first | rfl | decide, K1.out, K2.out, K3.out, K4.out, by rw [show 64 * n + 64 = 64 * (n + 1) by omega]; exact K5.out, hbel⟩
      case round =>
        clear K1 K2 K3 K4 K5 hbel
        obtain ⟨j, hj, rfl, k1, k2, k3, k4, k5, hbel⟩ := hrel
        have K1 := Lib.hid k1
        have K2 := Lib.hid k2
        have K3 := Lib.hid k3
        have K4 := Lib.hid k4
        have K5 := Lib.hid k5
        clear k1 k2 k3 k4 k5
        rcases j with _ | j
        · as_aux_lemma =>
          rw [show ((2 ^ 0 / 2 : Nat) : Int) = 0 from rfl]
          go_wp2_with fail
          go_roundw
          case rel => exact ⟨n, by omega, by go_num, K1.out, K2.out, K3.out, K4.out, K5.out, hbel⟩
          case measure => simp [intOf] <;> omega
        · as_aux_lemma =>
          have hj64 : j < 64 := by omega
          have hp : 2 ^ (j + 1) / 2 = 2 ^ j := by rw [Nat.pow_succ, Nat.mul_div_cancel _ (by decide)]
          rw [hp]
          have hpl : 2 ^ j < 2 ^ 64 := Nat.pow_lt_pow_right (by decide) hj64
          have hpp : 0 < 2 ^ j := Nat.two_pow_pos j
          have hd := dgt_lt (B := 2 ^ 64) (by decide) e n
          have hand := and_pow (dgt (2 ^ 64) e n) j hd hj64
          rw [word_bit e n j hj64] at hand
          have hL1 := LX.out (64 * n + (j + 1))
          have hLs := LX.out (64 * n + j)
          have hLy := LY.out (64 * n + j)
          have HQ1 := Lib.hid (HY1.out (64 * n + j))
          have HQ2 := Lib.hid (HY2.out (64 * n + j))
          have HQ0 := Lib.hid (HY0.out (64 * n + j))
          have hbit : e / 2 ^ (64 * n + j) % 2 = 0 ∨ e / 2 ^ (64 * n + j) % 2 = 1 := Nat.mod_two_eq_zero_or_one _
          have AEn := AE.out n hn4
          have hlel := LE.out
          have hhalf : ((2 ^ j : Nat) : Int) / 2 = ((2 ^ j / 2 : Nat) : Int) := rfl
          have hwh : IntKind.u64.wrap ((2 ^ j / 2 : Nat) : Int) = ((2 ^ j / 2 : Nat) : Int) := u64_in _ (Nat.lt_of_le_of_lt (Nat.div_le_self _ _) hpl)
          have hdlt : 2 ^ j / 2 < 2 ^ j := Nat.div_lt_self hpp (by decide)
          rw [show 64 * n + (j + 1) = 64 * n + j + 1 by omega] at K5 hL1
          clear HY1 HY2 HY0 LX LY AE
          obtain ⟨l1, hl1⟩ : ∃ l, l = wds 4 (X (64 * n + j + 1)) := ⟨_, rfl⟩
          rw [← hl1] at HQ1 K5 hL1
          clear hl1
          obtain ⟨ls, hls⟩ : ∃ l, l = wds 4 (X (64 * n + j)) := ⟨_, rfl⟩
          rw [← hls] at HQ2 hLs
          have HLS := Lib.hid hls
          obtain ⟨ly, hly⟩ : ∃ l, l = wds 4 (Y (64 * n + j)) := ⟨_, rfl⟩
          rw [← hly] at HQ1 HQ2 hLy
          have HLYS := Lib.hid (fun h => show ly = ls from by rw [hly, hls, HQ0.out h])
          clear hls hly HQ0
          generalize e / 2 ^ (64 * n + j) % 2 = bt at *
          generalize dgt (2 ^ 64) e n = d at *
          obtain ⟨hf, hhf⟩ : ∃ z, z = 2 ^ j / 2 := ⟨_, rfl⟩
          rw [← hhf] at hhalf hwh hdlt
          have HHF := Lib.hid hhf
          clear hhf
          obtain ⟨p, hp2⟩ : ∃ p, p = 2 ^ j := ⟨_, rfl⟩
          rw [← hp2] at hpl hpp hand hhalf hdlt ⊢
          clear hp2 hp
          have hpz : (0 : Int) < (p : Int) := by omega
          go_wp2_with (first | (refine ld24 rfl (.tmp 7) rfl (w.heap.size + 1 + 1 + 1 + 1) rfl l1 K5.out hL1 ?_) | (refine ld24 rfl (.tmp 5) rfl (w.heap.size + 1 + 1) rfl lm K3.out LM.out ?_))
          refine (HQ1.out _).mono ?_
          rintro e w401 ⟨rfl, hbw401⟩
          have C402 := Lib.hid (K1.out.below' hbw401)
          have C403 := Lib.hid (K2.out.below' hbw401)
          have C404 := Lib.hid (K3.out.below' hbw401)
          have C405 := Lib.hid (K4.out.below' hbw401)
          have C406 := Lib.hid (K5.out.below' hbw401)
          have hbel407 := hbel.trans (hbw401.mono hbel.size)
          clear K1 K2 K3 K4 K5 hbw401 hbel
          have hz409 := Lib.hid (below_setRow' hbel407 (show w.heap.size ≤ (w.heap.size + 1 + 1 + 1 + 1) by first | exact Nat.le_refl _ | omega) (natsV .u64 ly).toArray)
          have Y410 := Lib.hid (C402.out.row (natsV .u64 ly).toArray (show w.heap.size ≠ (w.heap.size + 1 + 1 + 1 + 1) by first | omega | assumption | exact Ne.symm (by assumption)))
          have Y411 := Lib.hid (C403.out.row (natsV .u64 ly).toArray (show (w.heap.size + 1) ≠ (w.heap.size + 1 + 1 + 1 + 1) by first | omega | assumption | exact Ne.symm (by assumption)))
          have Y412 := Lib.hid (C404.out.row (natsV .u64 ly).toArray (show (w.heap.size + 1 + 1) ≠ (w.heap.size + 1 + 1 + 1 + 1) by first | omega | assumption | exact Ne.symm (by assumption)))
          have Y413 := Lib.hid (C405.out.row (natsV .u64 ly).toArray (show (w.heap.size + 1 + 1 + 1) ≠ (w.heap.size + 1 + 1 + 1 + 1) by first | omega | assumption | exact Ne.symm (by assumption)))
          have Y414 := Lib.hid (C406.out.setRow (natsV .u64 ly))
          rcases hbit with rfl | rfl
          · have hz : 0 * p = 0 := Nat.zero_mul p
            rw [hz] at hand
            have hyl := HLYS.out rfl
            subst hyl
            go_wp2_with (refine st24 rfl (.tmp 7) (.tmp 22) rfl (w.heap.size + 1 + 1 + 1 + 1) rfl ly rfl hLy l1 C406.out hL1 ?_; generalize hW : World.setRow _ _ _ = w408; have D415 := Lib.hid (show Blk w408 w.heap.size 24 (natsV .u64 lu) from (by rw [← hW]; exact Y410.out)); have D416 := Lib.hid (show Blk w408 (w.heap.size + 1) 24 (natsV .u64 le) from (by rw [← hW]; exact Y411.out)); have D417 := Lib.hid (show Blk w408 (w.heap.size + 1 + 1) 24 (natsV .u64 lm) from (by rw [← hW]; exact Y412.out)); have D418 := Lib.hid (show Blk w408 (w.heap.size + 1 + 1 + 1) 24 (natsV .u64 (zeros 4)) from (by rw [← hW]; exact Y413.out)); have D419 := Lib.hid (show Blk w408 (w.heap.size + 1 + 1 + 1 + 1) 24 (natsV .u64 ly) from (by rw [← hW]; exact Y414.out)); have hbel420 : Below w.heap.size w w408 := (by rw [← hW]; exact hz409.out); clear hW hz409 C402 C403 C404 C405 C406 Y410 Y411 Y412 Y413 Y414 hbel407; have c0 := D416.out.nat n (by rw [hlel]; exact hn4); rw [AEn] at c0)
            go_roundw
            case rel => exact ⟨j, by omega, by rw [← HHF.out], D415.out, D416.out, D417.out, D418.out, by rw [← HLS.out]; exact D419.out, hbel420⟩
            case measure => simp [intOf] <;> omega
          · have hz : 1 * p = p := Nat.one_mul p
            rw [hz] at hand
            have hne : ((p : Int) != 0) = true := by simp; omega
            have hne2 : ¬ ((p : Int) = 0) := by omega
            go_wp2_with (first | (refine st24 rfl (.tmp 7) (.tmp 22) rfl (w.heap.size + 1 + 1 + 1 + 1) rfl ly rfl hLy l1 C406.out hL1 ?_; generalize hW : World.setRow _ _ _ = w408; have D415 := Lib.hid (show Blk w408 w.heap.size 24 (natsV .u64 lu) from (by rw [← hW]; exact Y410.out)); have D416 := Lib.hid (show Blk w408 (w.heap.size + 1) 24 (natsV .u64 le) from (by rw [← hW]; exact Y411.out)); have D417 := Lib.hid (show Blk w408 (w.heap.size + 1 + 1) 24 (natsV .u64 lm) from (by rw [← hW]; exact Y412.out)); have D418 := Lib.hid (show Blk w408 (w.heap.size + 1 + 1 + 1) 24 (natsV .u64 (zeros 4)) from (by rw [← hW]; exact Y413.out)); have D419 := Lib.hid (show Blk w408 (w.heap.size + 1 + 1 + 1 + 1) 24 (natsV .u64 ly) from (by rw [← hW]; exact Y414.out)); have hbel420 : Below w.heap.size w w408 := (by rw [← hW]; exact hz409.out); clear hW hz409 C402 C403 C404 C405 C406 Y410 Y411 Y412 Y413 Y414 hbel407; have c0 := D416.out.nat n (by rw [hlel]; exact hn4); rw [AEn] at c0) | (refine ld24 rfl (.tmp 7) rfl (w.heap.size + 1 + 1 + 1 + 1) rfl ly D419.out hLy ?_) | (refine ld24 rfl (.tmp 3) rfl w.heap.size rfl lu D415.out LU.out ?_) | (refine ld24 rfl (.tmp 5) rfl (w.heap.size + 1 + 1) rfl lm D417.out LM.out ?_))
            clear c0
            refine (HQ2.out (by first | trivial | rfl) _).mono ?_
            rintro e w421 ⟨rfl, hbw421⟩
            have C422 := Lib.hid (D415.out.below' hbw421)
            have C423 := Lib.hid (D416.out.below' hbw421)
            have C424 := Lib.hid (D417.out.below' hbw421)
            have C425 := Lib.hid (D418.out.below' hbw421)
            have C426 := Lib.hid (D419.out.below' hbw421)
            have hbel427 := hbel420.trans (hbw421.mono hbel420.size)
            clear D415 D416 D417 D418 D419 hbw421 hbel420
            have hz429 := Lib.hid (below_setRow' hbel427 (show w.heap.size ≤ (w.heap.size + 1 + 1 + 1 + 1) by first | exact Nat.le_refl _ | omega) (natsV .u64 ls).toArray)
            have Y430 := Lib.hid (C422.out.row (natsV .u64 ls).toArray (show w.heap.size ≠ (w.heap.size + 1 + 1 + 1 + 1) by first | omega | assumption | exact Ne.symm (by assumption)))
            have Y431 := Lib.hid (C423.out.row (natsV .u64 ls).toArray (show (w.heap.size + 1) ≠ (w.heap.size + 1 + 1 + 1 + 1) by first | omega | assumption | exact Ne.symm (by assumption)))
            have Y432 := Lib.hid (C424.out.row (natsV .u64 ls).toArray (show (w.heap.size + 1 + 1) ≠ (w.heap.size + 1 + 1 + 1 + 1) by first | omega | assumption | exact Ne.symm (by assumption)))
            have Y433 := Lib.hid (C425.out.row (natsV .u64 ls).toArray (show (w.heap.size + 1 + 1 + 1) ≠ (w.heap.size + 1 + 1 + 1 + 1) by first | omega | assumption | exact Ne.symm (by assumption)))
            have Y434 := Lib.hid (C426.out.setRow (natsV .u64 ls))
            go_wp2_with (refine st24 rfl (.tmp 7) (.tmp 32) rfl (w.heap.size + 1 + 1 + 1 + 1) rfl ls rfl hLs ly C426.out hLy ?_; generalize hW : World.setRow _ _ _ = w428; have D435 := Lib.hid (show Blk w428 w.heap.size 24 (natsV .u64 lu) from (by rw [← hW]; exact Y430.out)); have D436 := Lib.hid (show Blk w428 (w.heap.size + 1) 24 (natsV .u64 le) from (by rw [← hW]; exact Y431.out)); have D437 := Lib.hid (show Blk w428 (w.heap.size + 1 + 1) 24 (natsV .u64 lm) from (by rw [← hW]; exact Y432.out)); have D438 := Lib.hid (show Blk w428 (w.heap.size + 1 + 1 + 1) 24 (natsV .u64 (zeros 4)) from (by rw [← hW]; exact Y433.out)); have D439 := Lib.hid (show Blk w428 (w.heap.size + 1 + 1 + 1 + 1) 24 (natsV .u64 ls) from (by rw [← hW]; exact Y434.out)); have hbel440 : Below w.heap.size w w428 := (by rw [← hW]; exact hz429.out); clear hW hz429 C422 C423 C424 C425 C426 Y430 Y431 Y432 Y433 Y434 hbel427)
            go_roundw
            case rel => exact ⟨j, by omega, by rw [← HHF.out], D435.out, D436.out, D437.out, D438.out, by rw [← HLS.out]; exact D439.out, hbel440⟩
            case measure => simp [intOf] <;> omega
end Go.Proofs.Ytfffmoolkgheaaa
