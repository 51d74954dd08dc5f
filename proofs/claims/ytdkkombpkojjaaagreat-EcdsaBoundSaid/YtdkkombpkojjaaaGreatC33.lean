/- Parts of proofs of statements, each text behind those that it stands on. No condition of its own. -/
import Derived.Test.YtdkkombpkojjaaaGreatC32
namespace Go.Proofs.YtdkkombpkojjaaaGreat
set_option maxRecDepth 100000
set_option maxHeartbeats 1600000
open Go.RowKit
set_option linter.unusedVariables false
set_option linter.unusedSimpArgs false
def fold (m V : Nat) : Nat := V / 2 ^ 256 * (2 ^ 256 - m) + V % 2 ^ 256
theorem fold_mod (m V : Nat) (hm : m < 2 ^ 256) : fold m V % m = V % m := by
 unfold fold
 have h := Nat.mod_add_div V (2 ^ 256)
 have e : V / 2 ^ 256 * (2 ^ 256 - m) + V % 2 ^ 256 + m * (V / 2 ^ 256) = V := by
   rw [Nat.mul_sub, Nat.mul_comm m]
   have h1 : V / 2 ^ 256 * m ≤ V / 2 ^ 256 * 2 ^ 256 := Nat.mul_le_mul_left _ (by omega)
   rw [Nat.mul_comm (V / 2 ^ 256) (2 ^ 256)] at h1 ⊢
   omega
 conv => rhs; rw [← e, Nat.add_mul_mod_self_left]
theorem fold_small (m V E : Nat) (hm : m < 2 ^ 256) (hgt : 2 ^ 255 < m) (hV : V < 2 ^ 256 + E) (hb : 2 ^ 256 ≤ V) (F : Nat) (hF : E ≤ 2 * F) : fold m V < 2 ^ 256 + F := by
 unfold fold
 have h := Nat.mod_add_div V (2 ^ 256)
 have hr := Nat.mod_lt V (Nat.two_pow_pos 256)
 have h2 : V / 2 ^ 256 * (2 ^ 256 - m) * 2 ≤ V / 2 ^ 256 * 2 ^ 256 := by
   rw [Nat.mul_assoc]; exact Nat.mul_le_mul_left _ (by omega)
 rw [Nat.mul_comm (V / 2 ^ 256) (2 ^ 256)] at h2
 omega
def bnd (n : Nat) : Nat := if n ≤ 513 then 2 ^ 256 + 2 ^ (513 - n) else 2 ^ 256
theorem bnd_next (m V n : Nat) (hm : m < 2 ^ 256) (hgt : 2 ^ 255 < m) (hV : V < bnd n) (hb : 2 ^ 256 ≤ V) : fold m V < bnd (n + 1) ∧ n ≤ 513 := by
 unfold bnd at hV ⊢
 by_cases h : n ≤ 513
 · rw [if_pos h] at hV
   refine ⟨?_, h⟩
   by_cases h2 : n + 1 ≤ 513
   · rw [if_pos h2]
     refine fold_small m V _ hm hgt hV hb _ ?_
     rw [show 513 - n = (513 - (n + 1)) + 1 by omega, Nat.pow_succ]; omega
   · rw [if_neg h2]
     have h3 : n = 513 := by omega
     subst h3
     have := fold_small m V 1 hm hgt (by simpa using hV) hb 1 (by omega)
     have h4 := fold_small m V 1 hm hgt (by simpa using hV) hb 1 (by omega)
     have h5 : V = 2 ^ 256 := by
       have : V < 2 ^ 256 + 1 := by simpa using hV
       omega
     subst h5
     unfold fold
     rw [Nat.div_self (Nat.two_pow_pos 256), Nat.mod_self]; omega
 · rw [if_neg h] at hV; omega
theorem bnd_start (V : Nat) (h : V < 2 ^ 256 * 2 ^ 256) : V < bnd 0 := by
 have : 2 ^ 256 * 2 ^ 256 ≤ bnd 0 := by decide +kernel
 omega
theorem fold_le (m V : Nat) (hm : m < 2 ^ 256) : fold m V ≤ V := by
 unfold fold
 have h := Nat.mod_add_div V (2 ^ 256)
 have h2 : V / 2 ^ 256 * (2 ^ 256 - m) ≤ V / 2 ^ 256 * 2 ^ 256 := Nat.mul_le_mul_left _ (by omega)
 rw [Nat.mul_comm (V / 2 ^ 256) (2 ^ 256)] at h2
 omega
def FoldAt (m V0 n V : Nat) : Prop := V ≤ V0 ∧ V < bnd n ∧ V % m = V0 % m
theorem FoldAt.next {m V0 n V : Nat} (h : FoldAt m V0 n V) (hm : m < 2 ^ 256) (hgt : 2 ^ 255 < m) (hb : 2 ^ 256 ≤ V) : FoldAt m V0 (n + 1) (fold m V) ∧ n ≤ 513 :=
 ⟨⟨Nat.le_trans (fold_le m V hm) h.1, (bnd_next m V n hm hgt h.2.1 hb).1, (fold_mod m V hm).trans h.2.2⟩, (bnd_next m V n hm hgt h.2.1 hb).2⟩
theorem mul512 (a b : Nat) (ha : a < 2 ^ 256) (hb : b < 2 ^ 256) : a * b < 2 ^ 256 * 2 ^ 256 := by
 rcases Nat.eq_zero_or_pos b with h | h
 · subst h; simp
 · exact Nat.lt_of_lt_of_le (Nat.mul_lt_mul_of_pos_right ha h) (Nat.mul_le_mul_left _ (Nat.le_of_lt hb))
theorem p8 : (2 ^ 32) ^ 8 = 2 ^ 256 := by rw [← Nat.pow_mul]
theorem keepF2 {w w' : World} {g1 g2 : Nat} {a b : List Value} (hb : Below w.heap.size w w') (h : w.rangeAt g1 0 a ∧ w.rangeAt g2 0 b) : w'.rangeAt g1 0 a ∧ w'.rangeAt g2 0 b := ⟨range_keepF h.1 hb, range_keepF h.2 hb⟩
theorem wst122 {w : World} {o : Oper} {a : Act} {K : Act → World → Prop} {Q : Exit → Act → World → Prop} (x y : Operand) (ho : o.op = .store 93 x y) (g : Nat) (hx : a.eval x = .pointer (some ⟨g, 0, none⟩)) (l : List Nat) (hy : a.eval y = .agg (natsV .u64 l).toArray) (hl : l.length = 16) (old : List Nat) (hg : Blk w g 93 (natsV .u64 old)) (ho4 : old.length = 16)
   (h : K (a.put o.dst undef) (w.setRow g (natsV .u64 l).toArray)) : o.wp Tryz.prog a w K Q :=
 wp_store_row 93 x y ho g (natsV .u64 l).toArray hx hy 93 (natsV .u64 old).toArray hg (by rw [info122, size_nats, hl]) (by rw [size_nats, size_nats, hl, ho4]) (all_nats _ _) h
theorem Mul5_any (a b m : Nat) (w : World) (ha : a < 2 ^ 256) (hb : b < 2 ^ 256) (hm : m < 2 ^ 256) (hgt : 2 ^ 255 < m) :
   Calls Tryz.prog 40 #[.agg (natsV .u64 (wds 4 a)).toArray, .agg (natsV .u64 (wds 4 b)).toArray, .agg (natsV .u64 (wds 4 m)).toArray] w fun e w' => e = .returned (.agg (natsV .u64 (wds 4 (a * b % m))).toArray) ∧ Below w.heap.size w w' := by
 have HMI := Hd (fun w => dminus_any 0 m w (by decide) hm)
 rw [num_zero, show 0 + 2 ^ 256 - m = 2 ^ 256 - m by omega] at HMI
 have HP0 := Hd (fun w => product_any5 a b 0 w ha hb (by decide))
 rw [num_zero, Nat.add_zero] at HP0
 have h512 := mul512 a b ha hb
 have HST := Hd (show FoldAt m (a * b) 0 (a * b) from ⟨Nat.le_refl _, bnd_start _ h512, rfl⟩)
 have HN8 := Hd (fun V w => number_any5 V 8 w (by omega))
 have HN0 := Hd (fun V w => number_any5 V 0 w (by omega))
 rw [p8] at HN8
 rw [Nat.pow_zero] at HN0
 have HPV := Hd (fun V (hV : V ≤ a * b) w => product_any5 (V / 2 ^ 256) (2 ^ 256 - m) (V % 2 ^ 256) w (by rw [Nat.div_lt_iff_lt_mul (Nat.two_pow_pos 256)]; omega) (by omega) (Nat.mod_lt _ (Nat.two_pow_pos 256)))
 have HW0 := Hd (fun V => show wds 4 (V / 1) = wds 4 (V % 2 ^ 256) by rw [Nat.div_one]; exact (wds_mod 4 4 _ (Nat.le_refl _)).symm)
 have HNX := Hd (fun n V (h : FoldAt m (a * b) n V) (hb : 2 ^ 256 ≤ V) => h.next hm hgt hb)
 have HRS := Hd (fun V (hV : V < 2 ^ 256) w => Rest_any V m false w hm hV (by simp; omega))
 have HNE := Hd (fun V (hV : V ≤ a * b) w => show (binOp .neq 26 (.agg (natsV .u64 (wds 4 (V / 2 ^ 256))).toArray) (.agg (natsV .u64 (zeros 4)).toArray)).run Tryz.prog w = .ok (.bool (!decide (V / 2 ^ 256 = 0))) w from by
   rw [← num_zero, neq24 _ _ (wds_len 4 _) (wds_len 4 0), wds_inj 4 (V / 2 ^ 256) 0 (by rw [Nat.div_lt_iff_lt_mul (Nat.two_pow_pos 256)]; exact Nat.lt_of_le_of_lt hV h512) (by decide)])
 have LA := Hd (wds_len 4 a)
 have LB := Hd (wds_len 4 b)
 have LM := Hd (wds_len 4 m)
 have LS := Hd (wds_len 4 (2 ^ 256 - m))
 have LP := Hd (fun V => hds_len 16 V)
 have LN := Hd (fun V => wds_len 4 V)
 have LR := Hd (wds_len 4 (a * b % m))
 obtain ⟨lr, hlr⟩ : ∃ l, l = wds 4 (a * b % m) := ⟨_, rfl⟩
 rw [← hlr] at LR ⊢
 have HLR := Hd hlr
 clear hlr
 obtain ⟨ls, hls⟩ : ∃ l, l = wds 4 (2 ^ 256 - m) := ⟨_, rfl⟩
 rw [← hls] at HMI HPV LS
 obtain ⟨lm, hlm⟩ : ∃ l, l = wds 4 m := ⟨_, rfl⟩
 rw [← hlm] at HMI HRS LM ⊢
 clear hls hlm
 generalize wds 4 a = la at *
 generalize wds 4 b = lb at *
 have hLP0 := LP.out (a * b)
 have B1 := Hd (((((Blk.new w 26 (natsV .u64 la)).alloc (.cells (natsV .u64 lb).toArray 26)).alloc (.cells (natsV .u64 lm).toArray 26)).alloc (.cells (natsV .u64 (zeros 4)).toArray 26)).alloc (.cells (natsV .u64 (zeros 4)).toArray 26))
 have B2 := Hd ((((Blk.new2 w (.cells (natsV .u64 la).toArray 26) 26 (natsV .u64 lb)).alloc (.cells (natsV .u64 lm).toArray 26)).alloc (.cells (natsV .u64 (zeros 4)).toArray 26)).alloc (.cells (natsV .u64 (zeros 4)).toArray 26))
 have B3 := Hd (((Blk.new3 w (.cells (natsV .u64 la).toArray 26) (.cells (natsV .u64 lb).toArray 26) 26 (natsV .u64 lm)).alloc (.cells (natsV .u64 (zeros 4)).toArray 26)).alloc (.cells (natsV .u64 (zeros 4)).toArray 26))
 have B4 := Hd ((Blk.new4 w (.cells (natsV .u64 la).toArray 26) (.cells (natsV .u64 lb).toArray 26) (.cells (natsV .u64 lm).toArray 26) 26 (natsV .u64 (zeros 4))).alloc (.cells (natsV .u64 (zeros 4)).toArray 26))
 have B5 := Hd (Blk.new5 w (.cells (natsV .u64 la).toArray 26) (.cells (natsV .u64 lb).toArray 26) (.cells (natsV .u64 lm).toArray 26) (.cells (natsV .u64 (zeros 4)).toArray 26) 26 (natsV .u64 (zeros 4)))
 clear ha hb h512
 have BEL := Hd ((((((Below.refl w.heap.size w).alloc (Nat.le_refl _) (.cells (natsV .u64 la).toArray 26)).alloc (by simp) (.cells (natsV .u64 lb).toArray 26)).alloc (by simp; omega) (.cells (natsV .u64 lm).toArray 26)).alloc (by simp; omega) (.cells (natsV .u64 (zeros 4)).toArray 26)).alloc (by simp; omega) (.cells (natsV .u64 (zeros 4)).toArray 26))
 go_enter Tryz.func40, Tryz.ntmps40
 have hz2 := Hd (below_setRow' BEL.out (show w.heap.size ≤ (w.heap.size + 1 + 1 + 1 + 1) by first | exact Nat.le_refl _ | omega) (natsV .u64 (zeros 4)).toArray)
 have Y3 := Hd (B1.out.row (natsV .u64 (zeros 4)).toArray (show w.heap.size ≠ (w.heap.size + 1 + 1 + 1 + 1) by first | omega | assumption | exact Ne.symm (by assumption)))
 have Y4 := Hd (B2.out.row (natsV .u64 (zeros 4)).toArray (show (w.heap.size + 1) ≠ (w.heap.size + 1 + 1 + 1 + 1) by first | omega | assumption | exact Ne.symm (by assumption)))
 have Y5 := Hd (B3.out.row (natsV .u64 (zeros 4)).toArray (show (w.heap.size + 1 + 1) ≠ (w.heap.size + 1 + 1 + 1 + 1) by first | omega | assumption | exact Ne.symm (by assumption)))
 have Y6 := Hd (B4.out.row (natsV .u64 (zeros 4)).toArray (show (w.heap.size + 1 + 1 + 1) ≠ (w.heap.size + 1 + 1 + 1 + 1) by first | omega | assumption | exact Ne.symm (by assumption)))
 have Y7 := Hd (B5.out.setRow (natsV .u64 (zeros 4)))
 go_wp2_with (first | (refine st24 rfl (.tmp 7) (.tmp 11) rfl (w.heap.size + 1 + 1 + 1 + 1) rfl (zeros 4) (num_lit0.trans (by rw [num_zero])) rfl (zeros 4) B5.out rfl ?_; generalize hW : World.setRow _ _ _ = w1; have D8 := Hd (show Blk w1 w.heap.size 26 (natsV .u64 la) from (by rw [← hW]; exact Y3.out)); have D9 := Hd (show Blk w1 (w.heap.size + 1) 26 (natsV .u64 lb) from (by rw [← hW]; exact Y4.out)); have D10 := Hd (show Blk w1 (w.heap.size + 1 + 1) 26 (natsV .u64 lm) from (by rw [← hW]; exact Y5.out)); have D11 := Hd (show Blk w1 (w.heap.size + 1 + 1 + 1) 26 (natsV .u64 (zeros 4)) from (by rw [← hW]; exact Y6.out)); have D12 := Hd (show Blk w1 (w.heap.size + 1 + 1 + 1 + 1) 26 (natsV .u64 (zeros 4)) from (by rw [← hW]; exact Y7.out)); have hbel13 : Below w.heap.size w w1 := (by rw [← hW]; exact hz2.out); clear hW hz2 B1 B2 B3 B4 B5 Y3 Y4 Y5 Y6 Y7) | (refine ld24 rfl (.tmp 7) rfl (w.heap.size + 1 + 1 + 1 + 1) rfl (zeros 4) D12.out rfl ?_) | (refine ld24 rfl (.tmp 5) rfl (w.heap.size + 1 + 1) rfl lm D10.out LM.out ?_))
 refine (HMI.out _).mono ?_
 rintro e w14 ⟨rfl, hbw14⟩
 have C15 := Hd (D8.out.below' hbw14)
 have C16 := Hd (D9.out.below' hbw14)
 have C17 := Hd (D10.out.below' hbw14)
 have C18 := Hd (D11.out.below' hbw14)
 have C19 := Hd (D12.out.below' hbw14)
 have hbel20 := hbel13.trans (hbw14.mono hbel13.size)
 have Z22 := Hd (Blk.new w14 26 (natsV .u64 (zeros 4)))
 have hz23 := Hd (below_setRow' (hbel20.alloc hbel20.size (.cells (natsV .u64 (zeros 4)).toArray 26)) hbel20.size (natsV .u64 ls).toArray)
 have Y24 := Hd ((C15.out.alloc (.cells (natsV .u64 (zeros 4)).toArray 26)).row (natsV .u64 ls).toArray (Nat.ne_of_lt C15.out.lt))
 have Y25 := Hd ((C16.out.alloc (.cells (natsV .u64 (zeros 4)).toArray 26)).row (natsV .u64 ls).toArray (Nat.ne_of_lt C16.out.lt))
 have Y26 := Hd ((C17.out.alloc (.cells (natsV .u64 (zeros 4)).toArray 26)).row (natsV .u64 ls).toArray (Nat.ne_of_lt C17.out.lt))
 have Y27 := Hd ((C18.out.alloc (.cells (natsV .u64 (zeros 4)).toArray 26)).row (natsV .u64 ls).toArray (Nat.ne_of_lt C18.out.lt))
 have Y28 := Hd ((C19.out.alloc (.cells (natsV .u64 (zeros 4)).toArray 26)).row (natsV .u64 ls).toArray (Nat.ne_of_lt C19.out.lt))
 have Y29 := Hd (Z22.out.setRow (natsV .u64 ls))
 clear D8 D9 D10 D11 D12 hbw14 hbel13
 go_wp2_with (first | (refine st24 rfl (.tmp 8) (.tmp 14) rfl w14.heap.size rfl ls rfl LS.out (zeros 4) Z22.out rfl ?_; generalize hW : World.setRow _ _ _ = w21; have D31 := Hd (show Blk w21 w.heap.size 26 (natsV .u64 la) from (by rw [← hW]; exact Y24.out)); have D32 := Hd (show Blk w21 (w.heap.size + 1) 26 (natsV .u64 lb) from (by rw [← hW]; exact Y25.out)); have D33 := Hd (show Blk w21 (w.heap.size + 1 + 1) 26 (natsV .u64 lm) from (by rw [← hW]; exact Y26.out)); have D34 := Hd (show Blk w21 (w.heap.size + 1 + 1 + 1) 26 (natsV .u64 (zeros 4)) from (by rw [← hW]; exact Y27.out)); have D35 := Hd (show Blk w21 (w.heap.size + 1 + 1 + 1 + 1) 26 (natsV .u64 (zeros 4)) from (by rw [← hW]; exact Y28.out)); have D36 := Hd (show Blk w21 w14.heap.size 26 (natsV .u64 ls) from (by rw [← hW]; exact Y29.out)); have LE_D36 := (hbel20).size; have NE_D31 := Nat.ne_of_lt C15.out.lt; have NE_D32 := Nat.ne_of_lt C16.out.lt; have NE_D33 := Nat.ne_of_lt C17.out.lt; have NE_D34 := Nat.ne_of_lt C18.out.lt; have NE_D35 := Nat.ne_of_lt C19.out.lt; have hbel37 : Below w.heap.size w w21 := (by rw [← hW]; exact hz23.out); clear hW Z22 hz23 C15 C16 C17 C18 C19 Y24 Y25 Y26 Y27 Y28 Y29 hbel20; generalize w14.heap.size = G30 at *) | (refine ld24 rfl (.tmp 3) rfl w.heap.size rfl la D31.out LA.out ?_) | (refine ld24 rfl (.tmp 4) rfl (w.heap.size + 1) rfl lb D32.out LB.out ?_) | (refine ld24 rfl (.tmp 7) rfl (w.heap.size + 1 + 1 + 1 + 1) rfl (zeros 4) D35.out rfl ?_))
 refine (HP0.out _).mono ?_
 rintro e w38 ⟨rfl, hbw38⟩
 have C39 := Hd (D31.out.below' hbw38)
 have C40 := Hd (D32.out.below' hbw38)
 have C41 := Hd (D33.out.below' hbw38)
 have C42 := Hd (D34.out.below' hbw38)
 have C43 := Hd (D35.out.below' hbw38)
 have C44 := Hd (D36.out.below' hbw38)
 have hbel45 := hbel37.trans (hbw38.mono hbel37.size)
 have Z47 := Hd (Blk.new w38 93 (natsV .u64 (zeros 16)))
 have hz48 := Hd (below_setRow' (hbel45.alloc hbel45.size (.cells (natsV .u64 (zeros 16)).toArray 93)) hbel45.size (natsV .u64 (hds 16 (a * b))).toArray)
 have Y49 := Hd ((C41.out.alloc (.cells (natsV .u64 (zeros 16)).toArray 93)).row (natsV .u64 (hds 16 (a * b))).toArray (Nat.ne_of_lt C41.out.lt))
 have Y50 := Hd ((C42.out.alloc (.cells (natsV .u64 (zeros 16)).toArray 93)).row (natsV .u64 (hds 16 (a * b))).toArray (Nat.ne_of_lt C42.out.lt))
 have Y51 := Hd ((C43.out.alloc (.cells (natsV .u64 (zeros 16)).toArray 93)).row (natsV .u64 (hds 16 (a * b))).toArray (Nat.ne_of_lt C43.out.lt))
 have Y52 := Hd ((C44.out.alloc (.cells (natsV .u64 (zeros 16)).toArray 93)).row (natsV .u64 (hds 16 (a * b))).toArray (Nat.ne_of_lt C44.out.lt))
 have Y53 := Hd (Z47.out.setRow (natsV .u64 (hds 16 (a * b))))
 clear D31 D32 D33 D34 D35 D36 hbw38 hbel37 C39 C40
 go_wp2_with (first | (refine st122 rfl (.tmp 9) (.tmp 18) rfl w38.heap.size rfl (hds 16 (a * b)) rfl hLP0 (zeros 16) Z47.out rfl ?_; generalize hW : World.setRow _ _ _ = w46; have D55 := Hd (show Blk w46 (w.heap.size + 1 + 1) 26 (natsV .u64 lm) from (by rw [← hW]; exact Y49.out)); have D56 := Hd (show Blk w46 (w.heap.size + 1 + 1 + 1) 26 (natsV .u64 (zeros 4)) from (by rw [← hW]; exact Y50.out)); have D57 := Hd (show Blk w46 (w.heap.size + 1 + 1 + 1 + 1) 26 (natsV .u64 (zeros 4)) from (by rw [← hW]; exact Y51.out)); have D58 := Hd (show Blk w46 G30 26 (natsV .u64 ls) from (by rw [← hW]; exact Y52.out)); have D59 := Hd (show Blk w46 w38.heap.size 93 (natsV .u64 (hds 16 (a * b))) from (by rw [← hW]; exact Y53.out)); have LE_D59 := (hbel45).size; have NE_D55 := Nat.ne_of_lt C41.out.lt; have NE_D56 := Nat.ne_of_lt C42.out.lt; have NE_D57 := Nat.ne_of_lt C43.out.lt; have NE_D58 := Nat.ne_of_lt C44.out.lt; have hbel60 : Below w.heap.size w w46 := (by rw [← hW]; exact hz48.out); clear hW Z47 hz48 C41 C42 C43 C44 Y49 Y50 Y51 Y52 Y53 hbel45; generalize w38.heap.size = G54 at *))
 go_loopw [10] (fun i wr => ∃ s : Nat, s ≤ 514 ∧ ∃ V, FoldAt m (a * b) s V ∧ i = .int .i64 s ∧ Blk wr (w.heap.size + 1 + 1) 26 (natsV .u64 lm) ∧ Blk wr (w.heap.size + 1 + 1 + 1) 26 (natsV .u64 (zeros 4)) ∧ Blk wr (w.heap.size + 1 + 1 + 1 + 1) 26 (natsV .u64 (zeros 4)) ∧ Blk wr G30 26 (natsV .u64 ls) ∧ Blk wr G54 93 (natsV .u64 (hds 16 V)) ∧ Below w.heap.size w wr) (fun i _ => 600 - (intOf i).toNat)
 case atStart => exact ⟨0, by omega, _, HST.out, rfl, D55.out, D56.out, D57.out, D58.out, D59.out, hbel60⟩
 case round =>
   clear D55 D56 D57 D58 D59 hbel60 HST HMI HP0 hLP0 LA LB
   obtain ⟨s, hs, V, hf, rfl, k_m, k_r, k_z, k_s, k_p, hbel⟩ := hrel
   have K_m := Hd k_m
   have K_r := Hd k_r
   have K_z := Hd k_z
   have K_s := Hd k_s
   have K_p := Hd k_p
   clear k_m k_r k_z k_s k_p
   have hsi : (s : Int) < 600 := by omega
   have hVa := hf.1
   have i78 : (Tryz.prog.info? 93).map (·.size) = some (natsV .u64 (hds 16 V)).length := by rw [info122, natsV_length, LP.out V]
   have i24z : (Tryz.prog.info? 26).map (·.size) = some (natsV .u64 (zeros 4)).length := by rw [info24]; rfl
   have i24s : (Tryz.prog.info? 26).map (·.size) = some (natsV .u64 ls).length := by rw [info24, natsV_length, LS.out]
   have i24m : (Tryz.prog.info? 26).map (·.size) = some (natsV .u64 lm).length := by rw [info24, natsV_length, LM.out]
   have u24 := Tryz.underlying26
   have u78 := Tryz.underlying93
   have HF := Hd hf
   have QN := Hd (HNE.out V hVa)
   have hLV := LP.out V
   clear hf HNE
   by_cases hV : 2 ^ 256 ≤ V
   · as_aux_lemma =>
     have hq : V / 2 ^ 256 ≠ 0 := by
       intro h0
       have := Nat.div_eq_zero_iff.1 h0
       omega
     rw [decide_eq_false hq, Bool.not_false] at QN
     obtain ⟨hnx, hs513⟩ := HNX.out s V HF.out hV
     have HX := Hd hnx
     have H8 := Hd (HN8.out V)
     have H0 := Hd (HN0.out V)
     clear hnx hq
     rw [HW0.out V] at H0
     have HPx := Hd (HPV.out V hVa)
     rw [show V / 2 ^ 256 * (2 ^ 256 - m) + V % 2 ^ 256 = fold m V from rfl] at HPx
     have hLF := LP.out (fold m V)
     clear HN8 HN0 HW0 HPV HRS HNX
     obtain ⟨V2, hV2⟩ : ∃ z, z = fold m V := ⟨_, rfl⟩
     rw [← hV2] at HX HPx hLF
     clear hV2 HF hV hVa
     generalize wds 4 (V / 2 ^ 256) = lq at *
     generalize wds 4 (V % 2 ^ 256) = ll at *
     generalize hds 16 V = lV at *
     go_wp2_with fail
     refine wp_region_held_drew (S := (fun w' => w'.rangeAt G54 0 (natsV .u64 lV) ∧ w'.rangeAt (w.heap.size + 1 + 1 + 1 + 1) 0 (natsV .u64 (zeros 4)))) (by kernel_rfl) ⟨blk_rangeV K_p.out.drew, blk_rangeV K_z.out.drew⟩ (fun hHeld => ?_)
     refine th1 0 rfl hHeld ?_
     try simp only [Act.put, zq]
     refine th1 1 rfl hHeld ?_
     try simp only [Act.put, zq]
     refine th1 2 rfl hHeld ?_
     try simp only [Act.put, zq]
     refine th0 3 rfl (yieldsIf_load_mid (by rfl) _ _ rfl _ _ rfl _ _ (by intro w hSw; exact hSw.1) u78 rfl i78) hHeld ?_
     try simp only [Act.put, zq]
     refine th0 5 rfl (yieldsIf_load_mid (by rfl) _ _ rfl _ _ rfl _ _ (by intro w hSw; exact hSw.2) u24 rfl i24z) hHeld ?_
     try simp only [Act.put, zq]
     refine wpAnyH_ready (rs := [4]) (by kernel_rfl) (by simp) ?_
     refine AllReadyH.cons (o := _) rfl (fun K hK => ?_) AllReadyH.nil
     go_simp
     go_at_call 72
     refine (H8.out _).mono ?_
     rintro e wx91 ⟨rfl, hbx91⟩
     refine hK.out _ _ (keepF2 hbx91 hHeld) (fun hHeld2 => ?_)
     clear hK K hHeld
     have hHeld := hHeld2
     clear hHeld2
     try simp only [Act.put, zq]
     have q := QN.out
     refine th1 6 rfl hHeld ?_
     try simp only [Act.put, zq]
     clear q QN
     refine th1 7 rfl hHeld ?_
     try simp only [Act.put, zq]
     refine wpAnyH_done (by kernel_rfl) ?_ _
     have E201 := Hd (K_m.out.drew.below' hbx91)
     have E202 := Hd (K_r.out.drew.below' hbx91)
     have E203 := Hd (K_z.out.drew.below' hbx91)
     have E204 := Hd (K_s.out.drew.below' hbx91)
     have E205 := Hd (K_p.out.drew.below' hbx91)
     have hbel206 := (hbel.drew).trans (hbx91.mono (hbel.drew).size)
     clear hHeld hbx91 K_m K_r K_z K_s K_p hbel
     as_aux_lemma =>
     go_wp2_with fail
     refine wp_region_held_drew (S := (fun w' => w'.rangeAt G30 0 (natsV .u64 ls))) (by kernel_rfl) (blk_rangeV E204.out.drew) (fun hHeld => ?_)
     refine th0 2 rfl (yieldsIf_load_mid (by rfl) _ _ rfl _ _ rfl _ _ (by intro w hSw; exact hSw) u24 rfl i24s) hHeld ?_
     try simp only [Act.put, zq]
     refine wpAnyH_ready (rs := [0, 3]) (by kernel_rfl) (by simp) ?_
     refine AllReadyH.cons (o := _) rfl (fun K hK => ?_) (AllReadyH.cons (o := _) rfl (fun K hK => ?_) AllReadyH.nil)
     · rw [if_pos (by rfl)]
       refine wp_load_row 93 (.tmp 9) rfl G54 rfl 93 (natsV .u64 lV).toArray (0, 0) _ E205.out.drew u78 rfl (by rw [info122, size_nats, hLV]) ?_
       refine hK.out _ _ hHeld (fun hHeld2 => ?_)
       clear hK K hHeld
       have hHeld := hHeld2
       clear hHeld2
       try simp only [Act.put, zq]
       refine wpAnyH_ready (rs := [1, 3]) (by kernel_rfl) (by simp) ?_
       refine AllReadyH.cons (o := _) rfl (fun K hK => ?_) (AllReadyH.cons (o := _) rfl (fun K hK => ?_) AllReadyH.nil)
       · go_simp
         go_at_call 72
         refine (H8.out _).mono ?_
         rintro e wx92 ⟨rfl, hbx92⟩
         refine hK.out _ _ (range_keepF hHeld hbx92) (fun hHeld2 => ?_)
         clear hK K hHeld
         have hHeld := hHeld2
         clear hHeld2
         try simp only [Act.put, zq]
         refine wpAnyH_ready (rs := [3]) (by kernel_rfl) (by simp) ?_
         refine AllReadyH.cons (o := _) rfl (fun K hK => ?_) AllReadyH.nil
         rw [if_pos (by rfl)]
         refine wp_load_row 93 (.tmp 9) rfl G54 rfl 93 (natsV .u64 lV).toArray (0, 0) _ (E205.out.drew.below' hbx92) u78 rfl (by rw [info122, size_nats, hLV]) ?_
         refine hK.out _ _ hHeld (fun hHeld2 => ?_)
         clear hK K hHeld
         have hHeld := hHeld2
         clear hHeld2
         try simp only [Act.put, zq]
         as_aux_lemma =>
         refine wpAnyH_ready (rs := [4]) (by kernel_rfl) (by simp) ?_
         refine AllReadyH.cons (o := _) rfl (fun K hK => ?_) AllReadyH.nil
         go_simp
         go_at_call 72
         refine (H0.out _).mono ?_
         rintro e wx93 ⟨rfl, hbx93⟩
         refine hK.out _ _ (range_keepF hHeld hbx93) (fun hHeld2 => ?_)
         clear hK K hHeld
         have hHeld := hHeld2
         clear hHeld2
         try simp only [Act.put, zq]
         refine wpAnyH_ready (rs := [5]) (by kernel_rfl) (by simp) ?_
         refine AllReadyH.cons (o := _) rfl (fun K hK => ?_) AllReadyH.nil
         go_simp
         go_at_call 71
         refine (HPx.out _).mono ?_
         rintro e wx94 ⟨rfl, hbx94⟩
         refine hK.out _ _ (range_keepF hHeld hbx94) (fun hHeld2 => ?_)
         clear hK K hHeld
         have hHeld := hHeld2
         clear hHeld2
         try simp only [Act.put, zq]
         refine wpAnyH_ready (rs := [6]) (by kernel_rfl) (by simp) ?_
         refine AllReadyH.cons (o := _) rfl (fun K hK => ?_) AllReadyH.nil
         rw [if_pos (by rfl)]
         refine wst122 (.tmp 9) (.tmp 34) rfl G54 rfl (hds 16 V2) rfl hLF lV (((E205.out.drew.below' hbx92).below' hbx93).below' hbx94) hLV ?_
         refine hK.out _ _ (blk_rangeV ((((E204.out.drew.below' hbx92).below' hbx93).below' hbx94).row (natsV .u64 (hds 16 V2)).toArray (show G30 ≠ G54 by first | omega | assumption | exact Ne.symm (by assumption)))) (fun hHeld2 => ?_)
         clear hK K hHeld hHeld2
         try simp only [Act.put, zq]
         refine wpAnyH_done (by kernel_rfl) ?_ _
         have n_m := Hd ((((E201.out.drew.below' hbx92).below' hbx93).below' hbx94).row (natsV .u64 (hds 16 V2)).toArray (show (w.heap.size + 1 + 1) ≠ G54 by first | omega | assumption | exact Ne.symm (by assumption)))
         have n_r := Hd ((((E202.out.drew.below' hbx92).below' hbx93).below' hbx94).row (natsV .u64 (hds 16 V2)).toArray (show (w.heap.size + 1 + 1 + 1) ≠ G54 by first | omega | assumption | exact Ne.symm (by assumption)))
         have n_z := Hd ((((E203.out.drew.below' hbx92).below' hbx93).below' hbx94).row (natsV .u64 (hds 16 V2)).toArray (show (w.heap.size + 1 + 1 + 1 + 1) ≠ G54 by first | omega | assumption | exact Ne.symm (by assumption)))
         have n_s := Hd ((((E204.out.drew.below' hbx92).below' hbx93).below' hbx94).row (natsV .u64 (hds 16 V2)).toArray (show G30 ≠ G54 by first | omega | assumption | exact Ne.symm (by assumption)))
         have n_p := Hd ((((E205.out.drew.below' hbx92).below' hbx93).below' hbx94).setRow (natsV .u64 (hds 16 V2)))
         have b1 := (hbel206).drew.trans (hbx92.mono (hbel206).drew.size)
         have b2 := b1.trans (hbx93.mono b1.size)
         have b3 := below_setRow' (b2.trans (hbx94.mono b2.size)) (show w.heap.size ≤ G54 by omega) (natsV .u64 (hds 16 V2)).toArray
         clear hbx92 hbx93 hbx94 b1 b2 E201 E202 E203 E204 E205
         go_wp2_with fail
         go_roundw
         case rel => exact ⟨s + 1, by omega, V2, HX.out, by go_num, n_m.out, n_r.out, n_z.out, n_s.out, n_p.out, b3⟩
         case measure => simp [intOf] <;> omega
       · rw [if_pos (by rfl)]
         refine wp_load_row 93 (.tmp 9) rfl G54 rfl 93 (natsV .u64 lV).toArray (0, 0) _ E205.out.drew u78 rfl (by rw [info122, size_nats, hLV]) ?_
         refine hK.out _ _ hHeld (fun hHeld2 => ?_)
         clear hK K hHeld
         have hHeld := hHeld2
         clear hHeld2
         try simp only [Act.put, zq]
         refine wpAnyH_ready (rs := [1]) (by kernel_rfl) (by simp) ?_
         refine AllReadyH.cons (o := _) rfl (fun K hK => ?_) AllReadyH.nil
         go_simp
         go_at_call 72
         refine (H8.out _).mono ?_
         rintro e wx92 ⟨rfl, hbx92⟩
         refine hK.out _ _ (range_keepF hHeld hbx92) (fun hHeld2 => ?_)
         clear hK K hHeld
         have hHeld := hHeld2
         clear hHeld2
         try simp only [Act.put, zq]
         as_aux_lemma =>
         refine wpAnyH_ready (rs := [4]) (by kernel_rfl) (by simp) ?_
         refine AllReadyH.cons (o := _) rfl (fun K hK => ?_) AllReadyH.nil
         go_simp
         go_at_call 72
         refine (H0.out _).mono ?_
         rintro e wx93 ⟨rfl, hbx93⟩
         refine hK.out _ _ (range_keepF hHeld hbx93) (fun hHeld2 => ?_)
         clear hK K hHeld
         have hHeld := hHeld2
         clear hHeld2
         try simp only [Act.put, zq]
         refine wpAnyH_ready (rs := [5]) (by kernel_rfl) (by simp) ?_
         refine AllReadyH.cons (o := _) rfl (fun K hK => ?_) AllReadyH.nil
         go_simp
         go_at_call 71
         refine (HPx.out _).mono ?_
         rintro e wx94 ⟨rfl, hbx94⟩
         refine hK.out _ _ (range_keepF hHeld hbx94) (fun hHeld2 => ?_)
         clear hK K hHeld
         have hHeld := hHeld2
         clear hHeld2
         try simp only [Act.put, zq]
         refine wpAnyH_ready (rs := [6]) (by kernel_rfl) (by simp) ?_
         refine AllReadyH.cons (o := _) rfl (fun K hK => ?_) AllReadyH.nil
         rw [if_pos (by rfl)]
         refine wst122 (.tmp 9) (.tmp 34) rfl G54 rfl (hds 16 V2) rfl hLF lV (((E205.out.drew.below' hbx92).below' hbx93).below' hbx94) hLV ?_
         refine hK.out _ _ (blk_rangeV ((((E204.out.drew.below' hbx92).below' hbx93).below' hbx94).row (natsV .u64 (hds 16 V2)).toArray (show G30 ≠ G54 by first | omega | assumption | exact Ne.symm (by assumption)))) (fun hHeld2 => ?_)
         clear hK K hHeld hHeld2
         try simp only [Act.put, zq]
         refine wpAnyH_done (by kernel_rfl) ?_ _
         have n_m := Hd ((((E201.out.drew.below' hbx92).below' hbx93).below' hbx94).row (natsV .u64 (hds 16 V2)).toArray (show (w.heap.size + 1 + 1) ≠ G54 by first | omega | assumption | exact Ne.symm (by assumption)))
         have n_r := Hd ((((E202.out.drew.below' hbx92).below' hbx93).below' hbx94).row (natsV .u64 (hds 16 V2)).toArray (show (w.heap.size + 1 + 1 + 1) ≠ G54 by first | omega | assumption | exact Ne.symm (by assumption)))
         have n_z := Hd ((((E203.out.drew.below' hbx92).below' hbx93).below' hbx94).row (natsV .u64 (hds 16 V2)).toArray (show (w.heap.size + 1 + 1 + 1 + 1) ≠ G54 by first | omega | assumption | exact Ne.symm (by assumption)))
         have n_s := Hd ((((E204.out.drew.below' hbx92).below' hbx93).below' hbx94).row (natsV .u64 (hds 16 V2)).toArray (show G30 ≠ G54 by first | omega | assumption | exact Ne.symm (by assumption)))
         have n_p := Hd ((((E205.out.drew.below' hbx92).below' hbx93).below' hbx94).setRow (natsV .u64 (hds 16 V2)))
         have b1 := (hbel206).drew.trans (hbx92.mono (hbel206).drew.size)
         have b2 := b1.trans (hbx93.mono b1.size)
         have b3 := below_setRow' (b2.trans (hbx94.mono b2.size)) (show w.heap.size ≤ G54 by omega) (natsV .u64 (hds 16 V2)).toArray
         clear hbx92 hbx93 hbx94 b1 b2 E201 E202 E203 E204 E205
         go_wp2_with fail
         go_roundw
         case rel => exact ⟨s + 1, by omega, V2, HX.out, by go_num, n_m.out, n_r.out, n_z.out, n_s.out, n_p.out, b3⟩
         case measure => simp [intOf] <;> omega
     · rw [if_pos (by rfl)]
       refine wp_load_row 93 (.tmp 9) rfl G54 rfl 93 (natsV .u64 lV).toArray (0, 0) _ E205.out.drew u78 rfl (by rw [info122, size_nats, hLV]) ?_
       refine hK.out _ _ hHeld (fun hHeld2 => ?_)
       clear hK K hHeld
       have hHeld := hHeld2
       clear hHeld2
       try simp only [Act.put, zq]
       refine wpAnyH_ready (rs := [0]) (by kernel_rfl) (by simp) ?_
       refine AllReadyH.cons (o := _) rfl (fun K hK => ?_) AllReadyH.nil
       rw [if_pos (by rfl)]
       refine wp_load_row 93 (.tmp 9) rfl G54 rfl 93 (natsV .u64 lV).toArray (0, 0) _ E205.out.drew u78 rfl (by rw [info122, size_nats, hLV]) ?_
       refine hK.out _ _ hHeld (fun hHeld2 => ?_)
       clear hK K hHeld
       have hHeld := hHeld2
       clear hHeld2
       try simp only [Act.put, zq]
       refine wpAnyH_ready (rs := [1]) (by kernel_rfl) (by simp) ?_
       refine AllReadyH.cons (o := _) rfl (fun K hK => ?_) AllReadyH.nil
       go_simp
       go_at_call 72
       refine (H8.out _).mono ?_
       rintro e wx92 ⟨rfl, hbx92⟩
       refine hK.out _ _ (range_keepF hHeld hbx92) (fun hHeld2 => ?_)
       clear hK K hHeld
       have hHeld := hHeld2
       clear hHeld2
       try simp only [Act.put, zq]
       as_aux_lemma =>
       refine wpAnyH_ready (rs := [4]) (by kernel_rfl) (by simp) ?_
       refine AllReadyH.cons (o := _) rfl (fun K hK => ?_) AllReadyH.nil
       go_simp
       go_at_call 72
       refine (H0.out _).mono ?_
       rintro e wx93 ⟨rfl, hbx93⟩
       refine hK.out _ _ (range_keepF hHeld hbx93) (fun hHeld2 => ?_)
       clear hK K hHeld
       have hHeld := hHeld2
       clear hHeld2
       try simp only [Act.put, zq]
       refine wpAnyH_ready (rs := [5]) (by kernel_rfl) (by simp) ?_
       refine AllReadyH.cons (o := _) rfl (fun K hK => ?_) AllReadyH.nil
       go_simp
       go_at_call 71
       refine (HPx.out _).mono ?_
       rintro e wx94 ⟨rfl, hbx94⟩
       refine hK.out _ _ (range_keepF hHeld hbx94) (fun hHeld2 => ?_)
       clear hK K hHeld
       have hHeld := hHeld2
       clear hHeld2
       try simp only [Act.put, zq]
       refine wpAnyH_ready (rs := [6]) (by kernel_rfl) (by simp) ?_
       refine AllReadyH.cons (o := _) rfl (fun K hK => ?_) AllReadyH.nil
       rw [if_pos (by rfl)]
       refine wst122 (.tmp 9) (.tmp 34) rfl G54 rfl (hds 16 V2) rfl hLF lV (((E205.out.drew.below' hbx92).below' hbx93).below' hbx94) hLV ?_
       refine hK.out _ _ (blk_rangeV ((((E204.out.drew.below' hbx92).below' hbx93).below' hbx94).row (natsV .u64 (hds 16 V2)).toArray (show G30 ≠ G54 by first | omega | assumption | exact Ne.symm (by assumption)))) (fun hHeld2 => ?_)
       clear hK K hHeld hHeld2
       try simp only [Act.put, zq]
       refine wpAnyH_done (by kernel_rfl) ?_ _
       have n_m := Hd ((((E201.out.drew.below' hbx92).below' hbx93).below' hbx94).row (natsV .u64 (hds 16 V2)).toArray (show (w.heap.size + 1 + 1) ≠ G54 by first | omega | assumption | exact Ne.symm (by assumption)))
       have n_r := Hd ((((E202.out.drew.below' hbx92).below' hbx93).below' hbx94).row (natsV .u64 (hds 16 V2)).toArray (show (w.heap.size + 1 + 1 + 1) ≠ G54 by first | omega | assumption | exact Ne.symm (by assumption)))
       have n_z := Hd ((((E203.out.drew.below' hbx92).below' hbx93).below' hbx94).row (natsV .u64 (hds 16 V2)).toArray (show (w.heap.size + 1 + 1 + 1 + 1) ≠ G54 by first | omega | assumption | exact Ne.symm (by assumption)))
       have n_s := Hd ((((E204.out.drew.below' hbx92).below' hbx93).below' hbx94).row (natsV .u64 (hds 16 V2)).toArray (show G30 ≠ G54 by first | omega | assumption | exact Ne.symm (by assumption)))
       have n_p := Hd ((((E205.out.drew.below' hbx92).below' hbx93).below' hbx94).setRow (natsV .u64 (hds 16 V2)))
       have b1 := (hbel206).drew.trans (hbx92.mono (hbel206).drew.size)
       have b2 := b1.trans (hbx93.mono b1.size)
       have b3 := below_setRow' (b2.trans (hbx94.mono b2.size)) (show w.heap.size ≤ G54 by omega) (natsV .u64 (hds 16 V2)).toArray
       clear hbx92 hbx93 hbx94 b1 b2 E201 E202 E203 E204 E205
       go_wp2_with fail
       go_roundw
       case rel => exact ⟨s + 1, by omega, V2, HX.out, by go_num, n_m.out, n_r.out, n_z.out, n_s.out, n_p.out, b3⟩
       case measure => simp [intOf] <;> omega
   · as_aux_lemma =>
     have hVl : V < 2 ^ 256 := by omega
     have hq : V / 2 ^ 256 = 0 := Nat.div_eq_of_lt hVl
     rw [decide_eq_true hq, Bool.not_true] at QN
     have H8 := Hd (HN8.out V)
     have H0 := Hd (HN0.out V)
     clear hq
     rw [HW0.out V] at H0
     have HRx := Hd (HRS.out V hVl)
     rw [show (V + 2 ^ 256 * false.toNat) % m = V % m by simp, HF.out.2.2, ← HLR.out] at HRx
     rw [Nat.mod_eq_of_lt hVl] at H0
     clear HN8 HN0 HW0 HPV HRS HNX
     generalize wds 4 (V / 2 ^ 256) = lq at *
     generalize wds 4 V = ll at *
     generalize hds 16 V = lV at *
     go_wp2_with fail
     refine wp_region_held_drew (S := (fun w' => w'.rangeAt G54 0 (natsV .u64 lV) ∧ w'.rangeAt (w.heap.size + 1 + 1 + 1 + 1) 0 (natsV .u64 (zeros 4)))) (by kernel_rfl) ⟨blk_rangeV K_p.out.drew, blk_rangeV K_z.out.drew⟩ (fun hHeld => ?_)
     refine th1 0 rfl hHeld ?_
     try simp only [Act.put, zq]
     refine th1 1 rfl hHeld ?_
     try simp only [Act.put, zq]
     refine th1 2 rfl hHeld ?_
     try simp only [Act.put, zq]
     refine th0 3 rfl (yieldsIf_load_mid (by rfl) _ _ rfl _ _ rfl _ _ (by intro w hSw; exact hSw.1) u78 rfl i78) hHeld ?_
     try simp only [Act.put, zq]
     refine th0 5 rfl (yieldsIf_load_mid (by rfl) _ _ rfl _ _ rfl _ _ (by intro w hSw; exact hSw.2) u24 rfl i24z) hHeld ?_
     try simp only [Act.put, zq]
     refine wpAnyH_ready (rs := [4]) (by kernel_rfl) (by simp) ?_
     refine AllReadyH.cons (o := _) rfl (fun K hK => ?_) AllReadyH.nil
     go_simp
     go_at_call 72
     refine (H8.out _).mono ?_
     rintro e wx91 ⟨rfl, hbx91⟩
     refine hK.out _ _ (keepF2 hbx91 hHeld) (fun hHeld2 => ?_)
     clear hK K hHeld
     have hHeld := hHeld2
     clear hHeld2
     try simp only [Act.put, zq]
     have q := QN.out
     refine th1 6 rfl hHeld ?_
     try simp only [Act.put, zq]
     clear q QN
     refine th1 7 rfl hHeld ?_
     try simp only [Act.put, zq]
     refine wpAnyH_done (by kernel_rfl) ?_ _
     have E401 := Hd (K_m.out.drew.below' hbx91)
     have E402 := Hd (K_r.out.drew.below' hbx91)
     have E403 := Hd (K_z.out.drew.below' hbx91)
     have E404 := Hd (K_s.out.drew.below' hbx91)
     have E405 := Hd (K_p.out.drew.below' hbx91)
     have hbel406 := (hbel.drew).trans (hbx91.mono (hbel.drew).size)
     clear hHeld hbx91 K_m K_r K_z K_s K_p hbel
     as_aux_lemma =>
     go_wp2_with fail
     refine wp_region_held_drew (S := (fun w' => w'.rangeAt G54 0 (natsV .u64 lV) ∧ w'.rangeAt (w.heap.size + 1 + 1) 0 (natsV .u64 lm))) (by kernel_rfl) ⟨blk_rangeV E405.out.drew, blk_rangeV E401.out.drew⟩ (fun hHeld => ?_)
     refine th0 0 rfl (yieldsIf_load_mid (by rfl) _ _ rfl _ _ rfl _ _ (by intro w hSw; exact hSw.1) u78 rfl i78) hHeld ?_
     try simp only [Act.put, zq]
     refine th0 2 rfl (yieldsIf_load_mid (by rfl) _ _ rfl _ _ rfl _ _ (by intro w hSw; exact hSw.2) u24 rfl i24m) hHeld ?_
     try simp only [Act.put, zq]
     refine wpAnyH_ready (rs := [1]) (by kernel_rfl) (by simp) ?_
     refine AllReadyH.cons (o := _) rfl (fun K hK => ?_) AllReadyH.nil
     go_simp
     go_at_call 72
     refine (H0.out _).mono ?_
     rintro e wx92 ⟨rfl, hbx92⟩
     refine hK.out _ _ (keepF2 hbx92 hHeld) (fun hHeld2 => ?_)
     clear hK K hHeld
     have hHeld := hHeld2
     clear hHeld2
     try simp only [Act.put, zq]
     refine wpAnyH_ready (rs := [3]) (by kernel_rfl) (by simp) ?_
     refine AllReadyH.cons (o := _) rfl (fun K hK => ?_) AllReadyH.nil
     go_simp
     go_at_call 18
     refine (HRx.out _).mono ?_
     rintro e wx93 ⟨rfl, hbx93⟩
     refine hK.out _ _ (keepF2 hbx93 hHeld) (fun hHeld2 => ?_)
     clear hK K hHeld
     have hHeld := hHeld2
     clear hHeld2
     try simp only [Act.put, zq]
     refine wpAnyH_ready (rs := [4]) (by kernel_rfl) (by simp) ?_
     refine AllReadyH.cons (o := _) rfl (fun K hK => ?_) AllReadyH.nil
     rw [if_pos (by rfl)]
     refine wst24 (.tmp 6) (.tmp 38) rfl (w.heap.size + 1 + 1 + 1) rfl lr rfl LR.out (zeros 4) ((E402.out.drew.below' hbx92).below' hbx93) rfl ?_
     refine hK.out _ _ ⟨blk_rangeV (((E405.out.drew.below' hbx92).below' hbx93).row (natsV .u64 lr).toArray (show G54 ≠ (w.heap.size + 1 + 1 + 1) by first | omega | assumption | exact Ne.symm (by assumption))), blk_rangeV (((E401.out.drew.below' hbx92).below' hbx93).row (natsV .u64 lr).toArray (show (w.heap.size + 1 + 1) ≠ (w.heap.size + 1 + 1 + 1) by omega))⟩ (fun hHeld2 => ?_)
     clear hK K hHeld hHeld2
     try simp only [Act.put, zq]
     refine wpAnyH_done (by kernel_rfl) ?_ _
     have j3 := ((E402.out.drew.below' hbx92).below' hbx93).setRow (natsV .u64 lr)
     have b1 := (hbel406).drew.trans (hbx92.mono (hbel406).drew.size)
     have b3 := below_setRow' (b1.trans (hbx93.mono b1.size)) (show w.heap.size ≤ (w.heap.size + 1 + 1 + 1) by omega) (natsV .u64 lr).toArray
     go_wp2_with fail
     refine bodyPost_ret (v := .agg (natsV .u64 lr).toArray) ?_ rfl ⟨rfl, b3⟩
     exact ret24 Tryz.results40 _ _ (w.heap.size + 1 + 1 + 1) lr rfl j3 LR.out
end Go.Proofs.YtdkkombpkojjaaaGreat
