/- Parts of proofs of statements, each text behind those that it stands on. No condition of its own. -/
import Derived.Test.YtdkkombpkojjaaaD11
namespace Go.Proofs.Ytdkkombpkojjaaa
set_option maxRecDepth 100000
set_option maxHeartbeats 1600000
open Go.RowKit
set_option linter.unusedVariables false
set_option linter.unusedSimpArgs false
theorem below_yes (x m over : Nat) (h : over < lt01 x m) : (x + 2 ^ 256 * over) % m = x := by
 unfold lt01 at h
 split at h
 · have h0 : over = 0 := by omega
   subst h0
   rw [Nat.mul_zero, Nat.add_zero]; exact Nat.mod_eq_of_lt (by assumption)
 · omega
theorem below_no (x m over : Nat) (hm : m < 2 ^ 256) (hx : x < 2 ^ 256) (h2 : x + 2 ^ 256 * over < 2 * m) (ho : over ≤ 1) (h : ¬ over < lt01 x m) : wds 4 ((x + 2 ^ 256 * over) % m) = wds 4 (x + 2 ^ 256 - m) := by
 have hsub : m ≤ x + 2 ^ 256 * over := by
   unfold lt01 at h
   split at h
   · have h0 : over = 1 := by omega
     subst h0; omega
   · omega
 rw [Nat.mod_eq_sub_mod hsub, Nat.mod_eq_of_lt (by omega)]
 rcases Nat.lt_or_ge over 1 with h0 | h0
 · have h0 : over = 0 := by omega
   subst h0
   have e : x + 2 ^ 256 - m = (x + 2 ^ 256 * 0 - m) + 2 ^ (64 * 4) * 1 := by
     rw [show 2 ^ (64 * 4) = 2 ^ 256 from rfl]; omega
   rw [e, wds_add_pow]
 · have h0 : over = 1 := by omega
   subst h0
   rw [Nat.mul_one]
theorem minus_no (a b m : Nat) (ha : a < m) (hb : b < m) (hm : m < 2 ^ 256) (h : ¬ a < b) : wds 4 ((a + m - b) % m) = wds 4 (a + 2 ^ 256 - b) := by
 have e : a + m - b = (a - b) + m := by omega
 rw [e, Nat.add_mod_right, Nat.mod_eq_of_lt (by omega)]
 have e2 : a + 2 ^ 256 - b = (a - b) + 2 ^ (64 * 4) * 1 := by rw [show 2 ^ (64 * 4) = 2 ^ 256 from rfl]; omega
 rw [e2, wds_add_pow]
theorem minus_yes (a b m : Nat) (ha : a < m) (hb : b < m) (hm : m < 2 ^ 256) (h : a < b) : wds 4 ((a + m - b) % m) = wds 4 ((a + 2 ^ 256 - b) + m) := by
 rw [Nat.mod_eq_of_lt (by omega)]
 have e2 : (a + 2 ^ 256 - b) + m = (a + m - b) + 2 ^ (64 * 4) * 1 := by rw [show 2 ^ (64 * 4) = 2 ^ 256 from rfl]; omega
 rw [e2, wds_add_pow]
theorem below_any (m f x over : Nat) (w : World) (hm : m < 2 ^ 256) (hx : x < 2 ^ 256) (h2 : x + 2 ^ 256 * over < 2 * m) (ho : over ≤ 1) :
   Calls Try.prog 84 #[.agg (primL (wds 4 m) f).toArray, .agg (natsV .u64 (wds 4 x)).toArray, .int .i64 (over : Nat)] w fun e w' => e = .returned (.agg (natsV .u64 (wds 4 ((x + 2 ^ 256 * over) % m))).toArray) ∧ Below w.heap.size w w' := by
 have HS := Hd (fun w => Sub_any x m w hx hm)
 have HY := Hd (fun h => show wds 4 ((x + 2 ^ 256 * over) % m) = wds 4 x from by rw [below_yes x m over h])
 have HN := Hd (below_no x m over hm hx h2 ho)
 have LS := Hd (wds_len 4 (x + 2 ^ 256 - m))
 have LX := Hd (wds_len 4 x)
 have LM := Hd (wds_len 4 m)
 have LP := Hd (primL_len (wds 4 m) f (wds_len 4 m))
 generalize wds 4 (x + 2 ^ 256 - m) = ls at *
 generalize wds 4 ((x + 2 ^ 256 * over) % m) = lr at *
 generalize wds 4 x = lx at *
 generalize wds 4 m = lm at *
 generalize lt01 x m = bo at *
 have B1 := Hd (((Blk.new w 82 (primL lm f)).alloc (.cells (natsV .u64 lx).toArray 24)).alloc (.cells (natsV .u64 (zeros 4)).toArray 24))
 have B2 := Hd ((Blk.new2 w (.cells (primL lm f).toArray 82) 24 (natsV .u64 lx)).alloc (.cells (natsV .u64 (zeros 4)).toArray 24))
 have B3 := Hd (Blk.new3 w (.cells (primL lm f).toArray 82) (.cells (natsV .u64 lx).toArray 24) 24 (natsV .u64 (zeros 4)))
 clear hm hx h2
 have BEL := Hd ((((Below.refl w.heap.size w).alloc (Nat.le_refl _) (.cells (primL lm f).toArray 82)).alloc (by simp) (.cells (natsV .u64 lx).toArray 24)).alloc (by simp; omega) (.cells (natsV .u64 (zeros 4)).toArray 24))
 go_enter Try.func84, Try.ntmps84
 go_wp2_with (first | (refine ld24 rfl (.tmp 4) rfl (w.heap.size + 1) rfl lx B2.out LX.out ?_) | (refine ldm rfl (.tmp 11) rfl w.heap.size rfl lm _ B1.out LM.out ?_))
 refine (HS.out _).mono ?_
 rintro e w1 ⟨rfl, hbw1⟩
 have C2 := Hd (B1.out.below' hbw1)
 have C3 := Hd (B2.out.below' hbw1)
 have C4 := Hd (B3.out.below' hbw1)
 have hbel5 := BEL.out.trans (hbw1.mono BEL.out.size)
 have Z7 := Hd (Blk.new w1 24 (natsV .u64 (zeros 4)))
 have hz8 := Hd (below_setRow' (hbel5.alloc hbel5.size (.cells (natsV .u64 (zeros 4)).toArray 24)) hbel5.size (natsV .u64 ls).toArray)
 have Y9 := Hd ((C2.out.alloc (.cells (natsV .u64 (zeros 4)).toArray 24)).row (natsV .u64 ls).toArray (Nat.ne_of_lt C2.out.lt))
 have Y10 := Hd ((C3.out.alloc (.cells (natsV .u64 (zeros 4)).toArray 24)).row (natsV .u64 ls).toArray (Nat.ne_of_lt C3.out.lt))
 have Y11 := Hd ((C4.out.alloc (.cells (natsV .u64 (zeros 4)).toArray 24)).row (natsV .u64 ls).toArray (Nat.ne_of_lt C4.out.lt))
 have Y12 := Hd (Z7.out.setRow (natsV .u64 ls))
 clear B1 B2 B3 hbw1
 by_cases hc : over < bo
 · have hci : ((over : Nat) : Int) < ((bo : Nat) : Int) := by omega
   have HE := HY.out hc
   subst HE
   go_wp2_with (first | (refine st24 rfl (.tmp 7) (.tmp 14) rfl w1.heap.size rfl ls rfl LS.out (zeros 4) Z7.out rfl ?_; generalize hW : World.setRow _ _ _ = w6; have D14 := Hd (show Blk w6 w.heap.size 82 (primL lm f) from (by rw [← hW]; exact Y9.out)); have D15 := Hd (show Blk w6 (w.heap.size + 1) 24 (natsV .u64 lr) from (by rw [← hW]; exact Y10.out)); have D16 := Hd (show Blk w6 (w.heap.size + 1 + 1) 24 (natsV .u64 (zeros 4)) from (by rw [← hW]; exact Y11.out)); have D17 := Hd (show Blk w6 w1.heap.size 24 (natsV .u64 ls) from (by rw [← hW]; exact Y12.out)); have LE_D17 := (hbel5).size; have NE_D16 := Nat.ne_of_lt C4.out.lt; have hbel18 : Below w.heap.size w w6 := (by rw [← hW]; exact hz8.out); clear hW Z7 hz8 C2 C3 C4 Y9 Y10 Y11 Y12 hbel5; generalize w1.heap.size = G13 at *) | (refine ld24 rfl (.tmp 4) rfl (w.heap.size + 1) rfl lr D15.out LX.out ?_) | (refine st24 rfl (.tmp 6) (.tmp 19) rfl (w.heap.size + 1 + 1) rfl lr rfl LX.out (zeros 4) D16.out rfl ?_))
   refine bodyPost_ret (v := .agg (natsV .u64 lr).toArray) ?_ rfl ⟨rfl, below_setRow' hbel18 (by omega) _⟩
   exact ret24 Try.results84 _ _ (w.heap.size + 1 + 1) lr rfl (D16.out.setRow _) LX.out
 · have hci : ¬ (((over : Nat) : Int) < ((bo : Nat) : Int)) := by omega
   have HE := HN.out hc
   subst HE
   go_wp2_with (first | (refine st24 rfl (.tmp 7) (.tmp 14) rfl w1.heap.size rfl lr rfl LS.out (zeros 4) Z7.out rfl ?_; generalize hW : World.setRow _ _ _ = w6; have D14 := Hd (show Blk w6 w.heap.size 82 (primL lm f) from (by rw [← hW]; exact Y9.out)); have D15 := Hd (show Blk w6 (w.heap.size + 1) 24 (natsV .u64 lx) from (by rw [← hW]; exact Y10.out)); have D16 := Hd (show Blk w6 (w.heap.size + 1 + 1) 24 (natsV .u64 (zeros 4)) from (by rw [← hW]; exact Y11.out)); have D17 := Hd (show Blk w6 w1.heap.size 24 (natsV .u64 lr) from (by rw [← hW]; exact Y12.out)); have LE_D17 := (hbel5).size; have NE_D16 := Nat.ne_of_lt C4.out.lt; have hbel18 : Below w.heap.size w w6 := (by rw [← hW]; exact hz8.out); clear hW Z7 hz8 C2 C3 C4 Y9 Y10 Y11 Y12 hbel5; generalize w1.heap.size = G13 at *) | (refine ld24 rfl (.tmp 7) rfl G13 rfl lr D17.out LS.out ?_) | (refine st24 rfl (.tmp 6) (.tmp 20) rfl (w.heap.size + 1 + 1) rfl lr rfl LS.out (zeros 4) D16.out rfl ?_))
   refine bodyPost_ret (v := .agg (natsV .u64 lr).toArray) ?_ rfl ⟨rfl, below_setRow' hbel18 (by omega) _⟩
   exact ret24 Try.results84 _ _ (w.heap.size + 1 + 1) lr rfl (D16.out.setRow _) LS.out
theorem minus_any (m f a b : Nat) (w : World) (hm : m < 2 ^ 256) (ha : a < m) (hb : b < m) :
   Calls Try.prog 89 #[.agg (primL (wds 4 m) f).toArray, .agg (natsV .u64 (wds 4 a)).toArray, .agg (natsV .u64 (wds 4 b)).toArray] w fun e w' => e = .returned (.agg (natsV .u64 (wds 4 ((a + m - b) % m))).toArray) ∧ Below w.heap.size w w' := by
 have HS := Hd (fun w => Sub_any a b w (by omega) (by omega))
 have HA := Hd (fun (h : a < b) w => Add_any (a + 2 ^ 256 - b) m w (by omega) (by omega))
 have HN := Hd (minus_no a b m ha hb hm)
 have HY := Hd (minus_yes a b m ha hb hm)
 have LS := Hd (wds_len 4 (a + 2 ^ 256 - b))
 have LT := Hd (wds_len 4 (a + 2 ^ 256 - b + m))
 have LA := Hd (wds_len 4 a)
 have LB := Hd (wds_len 4 b)
 have LM := Hd (wds_len 4 m)
 have LP := Hd (primL_len (wds 4 m) f (wds_len 4 m))
 generalize wds 4 (a + 2 ^ 256 - b + m) = lt at *
 generalize wds 4 ((a + m - b) % m) = lr at *
 generalize addC (a + 2 ^ 256 - b) m = cy at *
 have mod_wds : True := trivial
 generalize wds 4 (a + 2 ^ 256 - b) = ls at *
 generalize wds 4 a = la at *
 generalize wds 4 b = lb at *
 generalize wds 4 m = lm at *
 have hbo : lt01 a b = if a < b then 1 else 0 := rfl
 generalize lt01 a b = bo at *
 have B1 := Hd ((((Blk.new w 82 (primL lm f)).alloc (.cells (natsV .u64 la).toArray 24)).alloc (.cells (natsV .u64 lb).toArray 24)).alloc (.cells (natsV .u64 (zeros 4)).toArray 24))
 have B2 := Hd (((Blk.new2 w (.cells (primL lm f).toArray 82) 24 (natsV .u64 la)).alloc (.cells (natsV .u64 lb).toArray 24)).alloc (.cells (natsV .u64 (zeros 4)).toArray 24))
 have B3 := Hd ((Blk.new3 w (.cells (primL lm f).toArray 82) (.cells (natsV .u64 la).toArray 24) 24 (natsV .u64 lb)).alloc (.cells (natsV .u64 (zeros 4)).toArray 24))
 have B4 := Hd (Blk.new4 w (.cells (primL lm f).toArray 82) (.cells (natsV .u64 la).toArray 24) (.cells (natsV .u64 lb).toArray 24) 24 (natsV .u64 (zeros 4)))
 clear hm ha hb
 have BEL := Hd (((((Below.refl w.heap.size w).alloc (Nat.le_refl _) (.cells (primL lm f).toArray 82)).alloc (by simp) (.cells (natsV .u64 la).toArray 24)).alloc (by simp; omega) (.cells (natsV .u64 lb).toArray 24)).alloc (by simp; omega) (.cells (natsV .u64 (zeros 4)).toArray 24))
 go_enter Try.func89, Try.ntmps89
 go_wp2_with (first | (refine ld24 rfl (.tmp 4) rfl (w.heap.size + 1) rfl la B2.out LA.out ?_) | (refine ld24 rfl (.tmp 5) rfl (w.heap.size + 1 + 1) rfl lb B3.out LB.out ?_))
 refine (HS.out _).mono ?_
 rintro e w1 ⟨rfl, hbw1⟩
 have C2 := Hd (B1.out.below' hbw1)
 have C3 := Hd (B2.out.below' hbw1)
 have C4 := Hd (B3.out.below' hbw1)
 have C5 := Hd (B4.out.below' hbw1)
 have hbel6 := BEL.out.trans (hbw1.mono BEL.out.size)
 have Z8 := Hd (Blk.new w1 24 (natsV .u64 (zeros 4)))
 have hz9 := Hd (below_setRow' (hbel6.alloc hbel6.size (.cells (natsV .u64 (zeros 4)).toArray 24)) hbel6.size (natsV .u64 ls).toArray)
 have Y10 := Hd ((C2.out.alloc (.cells (natsV .u64 (zeros 4)).toArray 24)).row (natsV .u64 ls).toArray (Nat.ne_of_lt C2.out.lt))
 have Y11 := Hd ((C5.out.alloc (.cells (natsV .u64 (zeros 4)).toArray 24)).row (natsV .u64 ls).toArray (Nat.ne_of_lt C5.out.lt))
 have Y12 := Hd (Z8.out.setRow (natsV .u64 ls))
 clear B1 B2 B3 B4 hbw1 C3 C4
 by_cases hc : a < b
 · rw [if_pos hc] at hbo
   subst hbo
   have HE := HY.out hc
   subst HE
   go_wp2_with (first | (refine st24 rfl (.tmp 7) (.tmp 13) rfl w1.heap.size rfl ls rfl LS.out (zeros 4) Z8.out rfl ?_; generalize hW : World.setRow _ _ _ = w7; have D14 := Hd (show Blk w7 w.heap.size 82 (primL lm f) from (by rw [← hW]; exact Y10.out)); have D15 := Hd (show Blk w7 (w.heap.size + 1 + 1 + 1) 24 (natsV .u64 (zeros 4)) from (by rw [← hW]; exact Y11.out)); have D16 := Hd (show Blk w7 w1.heap.size 24 (natsV .u64 ls) from (by rw [← hW]; exact Y12.out)); have LE_D16 := (hbel6).size; have NE_D15 := Nat.ne_of_lt C5.out.lt; have hbel17 : Below w.heap.size w w7 := (by rw [← hW]; exact hz9.out); clear hW Z8 hz9 C2 C5 Y10 Y11 Y12 hbel6; generalize w1.heap.size = G13 at *) | (refine ld24 rfl (.tmp 7) rfl G13 rfl ls D16.out LS.out ?_) | (refine ldm rfl (.tmp 19) rfl w.heap.size rfl lm _ D14.out LM.out ?_))
   refine (HA.out hc _).mono ?_
   rintro e w18 ⟨rfl, hbw18⟩
   have C19 := Hd (D14.out.below' hbw18)
   have C20 := Hd (D15.out.below' hbw18)
   have C21 := Hd (D16.out.below' hbw18)
   have hbel22 := hbel17.trans (hbw18.mono hbel17.size)
   have hz24 := Hd (below_setRow' hbel22 (show w.heap.size ≤ G13 by first | exact Nat.le_refl _ | omega) (natsV .u64 lr).toArray)
   have Y25 := Hd (C20.out.row (natsV .u64 lr).toArray (show (w.heap.size + 1 + 1 + 1) ≠ G13 by first | omega | assumption | exact Ne.symm (by assumption)))
   have Y26 := Hd (C21.out.setRow (natsV .u64 lr))
   clear D14 D15 D16 hbw18 hbel17 C19
   go_wp2_with (first | (refine st24 rfl (.tmp 7) (.tmp 22) rfl G13 rfl lr rfl LT.out ls C21.out LS.out ?_; generalize hW : World.setRow _ _ _ = w23; have D27 := Hd (show Blk w23 (w.heap.size + 1 + 1 + 1) 24 (natsV .u64 (zeros 4)) from (by rw [← hW]; exact Y25.out)); have D28 := Hd (show Blk w23 G13 24 (natsV .u64 lr) from (by rw [← hW]; exact Y26.out)); have hbel29 : Below w.heap.size w w23 := (by rw [← hW]; exact hz24.out); clear hW hz24 C20 C21 Y25 Y26 hbel22) | (refine ld24 rfl (.tmp 7) rfl G13 rfl lr D28.out LT.out ?_) | (refine st24 rfl (.tmp 6) (.tmp 24) rfl (w.heap.size + 1 + 1 + 1) rfl lr rfl LT.out (zeros 4) D27.out rfl ?_))
   refine bodyPost_ret (v := .agg (natsV .u64 lr).toArray) ?_ rfl ⟨rfl, below_setRow' hbel29 (by omega) _⟩
   exact ret24 Try.results89 _ _ (w.heap.size + 1 + 1 + 1) lr rfl (D27.out.setRow _) LT.out
 · rw [if_neg hc] at hbo
   subst hbo
   have HE := HN.out hc
   subst HE
   go_wp2_with (first | (refine st24 rfl (.tmp 7) (.tmp 13) rfl w1.heap.size rfl lr rfl LS.out (zeros 4) Z8.out rfl ?_; generalize hW : World.setRow _ _ _ = w7; have D14 := Hd (show Blk w7 w.heap.size 82 (primL lm f) from (by rw [← hW]; exact Y10.out)); have D15 := Hd (show Blk w7 (w.heap.size + 1 + 1 + 1) 24 (natsV .u64 (zeros 4)) from (by rw [← hW]; exact Y11.out)); have D16 := Hd (show Blk w7 w1.heap.size 24 (natsV .u64 lr) from (by rw [← hW]; exact Y12.out)); have LE_D16 := (hbel6).size; have NE_D15 := Nat.ne_of_lt C5.out.lt; have hbel17 : Below w.heap.size w w7 := (by rw [← hW]; exact hz9.out); clear hW Z8 hz9 C2 C5 Y10 Y11 Y12 hbel6; generalize w1.heap.size = G13 at *) | (refine ld24 rfl (.tmp 7) rfl G13 rfl lr D16.out LS.out ?_) | (refine st24 rfl (.tmp 6) (.tmp 24) rfl (w.heap.size + 1 + 1 + 1) rfl lr rfl LS.out (zeros 4) D15.out rfl ?_))
   refine bodyPost_ret (v := .agg (natsV .u64 lr).toArray) ?_ rfl ⟨rfl, below_setRow' hbel17 (by omega) _⟩
   exact ret24 Try.results89 _ _ (w.heap.size + 1 + 1 + 1) lr rfl (D15.out.setRow _) LS.out
theorem below_of_grown {g : Nat} {w0 w w' : World} (h : Below w0.heap.size w0 w) (hg : w.grownBy w' (some g)) (hB : w0.heap.size ≤ g) : Below w0.heap.size w0 w' :=
 ⟨hg.os.trans h.os, hg.tape.trans h.tape, hg.output.trans h.output, Nat.le_trans h.size hg.size, fun k hk => (hg.block k (Nat.lt_of_lt_of_le hk h.size) (by simp; omega)).trans (h.block k hk)⟩
theorem Blk.new5 (w : World) (o p q r : Obj) (t : TypeId) (cs : List Value) : Blk (((((w.alloc o).alloc p).alloc q).alloc r).alloc (.cells cs.toArray t)) (w.heap.size + 1 + 1 + 1 + 1) t cs := by
 have := Blk.new4 (w.alloc o) p q r t cs
 have e : (w.alloc o).heap.size = w.heap.size + 1 := by simp
 rw [e] at this; exact this
theorem info139 : (Try.prog.info? 116).map (·.size) = some 8 := by kernel_rfl
theorem info65r : (Try.prog.info? 80).map (·.size) = some 1 := by kernel_rfl
theorem u32_mul (x y p : Nat) (h : p = x * y % 4294967296) : IntKind.u32.wrap ((x : Int) * (y : Int)) = (p : Int) := by
 rw [IntKind.wrap_u32, ← Int.natCast_mul]; omega
theorem ow_le (over : Nat) (h : over ≤ 1) : IntKind.i64.wrap (over : Int) = (over : Int) := IntWalk.i64_in _ (by omega)
theorem reduce_any (m f v X : Nat) (w : World) (H : Fld m f v) (hX : X < m * 2 ^ 256) :
   Calls Try.prog 74 #[.agg (primL (wds 4 m) f).toArray, .agg (natsV .u64 (wds 8 X)).toArray] w fun e w' => e = .returned (.agg (natsV .u64 (wds 4 (ofF m v X))).toArray) ∧ Below w.heap.size w w' := by
 have hXX : X < (2 ^ 32) ^ 16 := by
   have h1 : m * 2 ^ 256 ≤ 2 ^ 256 * 2 ^ 256 := Nat.mul_le_mul_right _ (Nat.le_of_lt H.lt)
   have h2 : (2 ^ 32) ^ 16 = 2 ^ 256 * 2 ^ 256 := by decide +kernel
   omega
 have LX := Hd (wds_len 8 X)
 have AX := Hd (wds_at 8 X)
 have LM := Hd (wds_len 4 m)
 have AM := Hd (wds_at 4 m)
 have LP := Hd (primL_len (wds 4 m) f (wds_len 4 m))
 have LD := Hd (tell_length (dgt (2 ^ 32) m) 8)
 have AD := Hd (fun i (h : i < 8) => tell_getD (dgt (2 ^ 32) m) 8 i h)
 have HST := Hd (RedAt.start m X hXX)
 have HH := Hd H
 have HDONE := Hd (fun over l (h : RedAt m X 8 over l) => h.done H hX)
 have LO := Hd (wds_len 4 (ofF m v X))
 have HOF : X * v % m = ofF m v X := rfl
 obtain ⟨lr, hlr⟩ : ∃ l, l = wds 4 (ofF m v X) := ⟨_, rfl⟩
 rw [← hlr] at LO ⊢
 have hm := H.lt
 have hfl := H.fl
 generalize ofF m v X = ro at *
 generalize wds 8 X = lx at *
 obtain ⟨lm, hlm⟩ : ∃ l, l = wds 4 m := ⟨_, rfl⟩
 rw [← hlm] at LM AM LP
 have HBL := Hd (fun x over w (hx : x < 2 ^ 256) (h2 : x + 2 ^ 256 * over < 2 * m) (ho : over ≤ 1) => below_any m f x over w hm hx h2 ho)
 rw [← hlm] at HBL ⊢
 clear hlm
 obtain ⟨ld, hld⟩ : ∃ l, l = tell (dgt (2 ^ 32) m) 8 := ⟨_, rfl⟩
 rw [← hld] at LD AD
 have HLD := Hd hld
 have B1 := Hd (((((Blk.new w 82 (primL lm f)).alloc (.cells (natsV .u64 lx).toArray 103)).alloc (.cells (natsV .u64 (zeros 4)).toArray 24)).alloc (.cells (natsV .u32 (zeros 16)).toArray 115)).alloc (.cells (natsV .u32 (zeros 8)).toArray 116))
 have B2 := Hd ((((Blk.new2 w (.cells (primL lm f).toArray 82) 103 (natsV .u64 lx)).alloc (.cells (natsV .u64 (zeros 4)).toArray 24)).alloc (.cells (natsV .u32 (zeros 16)).toArray 115)).alloc (.cells (natsV .u32 (zeros 8)).toArray 116))
 have B3 := Hd (((Blk.new3 w (.cells (primL lm f).toArray 82) (.cells (natsV .u64 lx).toArray 103) 24 (natsV .u64 (zeros 4))).alloc (.cells (natsV .u32 (zeros 16)).toArray 115)).alloc (.cells (natsV .u32 (zeros 8)).toArray 116))
 have B4 := Hd ((Blk.new4 w (.cells (primL lm f).toArray 82) (.cells (natsV .u64 lx).toArray 103) (.cells (natsV .u64 (zeros 4)).toArray 24) 115 (natsV .u32 (zeros 16))).alloc (.cells (natsV .u32 (zeros 8)).toArray 116))
 have B5 := Hd (Blk.new5 w (.cells (primL lm f).toArray 82) (.cells (natsV .u64 lx).toArray 103) (.cells (natsV .u64 (zeros 4)).toArray 24) (.cells (natsV .u32 (zeros 16)).toArray 115) 116 (natsV .u32 (zeros 8)))
 clear hld hX hXX H
 have BEL := Hd ((((((Below.refl w.heap.size w).alloc (Nat.le_refl _) (.cells (primL lm f).toArray 82)).alloc (by simp) (.cells (natsV .u64 lx).toArray 103)).alloc (by simp; omega) (.cells (natsV .u64 (zeros 4)).toArray 24)).alloc (by simp; omega) (.cells (natsV .u32 (zeros 16)).toArray 115)).alloc (by simp; omega) (.cells (natsV .u32 (zeros 8)).toArray 116))
 go_enter Try.func74, Try.ntmps74
 go_wp2_with fail
 refine wp_region_held_drew (S := (fun _ => True)) (by kernel_rfl) trivial (fun hHeld => ?_)
 refine th1 0 rfl hHeld ?_
 try simp only [Act.put, zq]
 refine th1 1 rfl hHeld ?_
 try simp only [Act.put, zq]
 refine wpAnyH_ready (rs := [2]) (by kernel_rfl) (by simp) ?_
 refine AllReadyH.cons (o := _) rfl (fun K hK => ?_) AllReadyH.nil
 go_simp
 go_at_call 83
 refine (split_any 115 8 (w.heap.size + 1 + 1 + 1) (w.heap.size + 1) X _ (by omega) B4.out.drew (by omega) B2.out.drew.lt (fun i hi => (B2.out.drew.nat i (by rw [LX.out]; exact hi)).trans (by rw [AX.out i hi]))).mono ?_
 rintro e wx1 ⟨rfl, hblk1, hgr1⟩
 refine hK.out _ _ trivial (fun hHeld2 => ?_)
 clear hK K hHeld
 have hHeld := hHeld2
 clear hHeld2
 try simp only [Act.put, zq]
 refine wpAnyH_done (by kernel_rfl) ?_ _
 have D1 := Hd (B1.out.drew.grown hgr1 (by simp <;> omega))
 have D3 := Hd (B3.out.drew.grown hgr1 (by simp <;> omega))
 have D5 := Hd (B5.out.drew.grown hgr1 (by simp <;> omega))
 have D4 := Hd hblk1
 have belD : Below w.heap.size w wx1 := below_of_grown BEL.out.drew hgr1 (by omega)
 clear B1 B2 B3 B4 B5 BEL hblk1 hgr1 hHeld LX AX
 go_wp2_with fail
 refine wp_region_held_drew (S := (fun _ => True)) (by kernel_rfl) trivial (fun hHeld => ?_)
 refine th1 0 rfl hHeld ?_
 try simp only [Act.put, zq]
 refine th1 1 rfl hHeld ?_
 try simp only [Act.put, zq]
 refine th1 2 rfl hHeld ?_
 try simp only [Act.put, zq]
 refine wpAnyH_ready (rs := [3]) (by kernel_rfl) (by simp) ?_
 refine AllReadyH.cons (o := _) rfl (fun K hK => ?_) AllReadyH.nil
 go_simp
 go_at_call 83
 refine (split_any 116 4 (w.heap.size + 1 + 1 + 1 + 1) w.heap.size m _ (by omega) D5.out.drew (by omega) D1.out.drew.lt (fun i hi => by have := primL_range D1.out.drew i _ (natsV_get .u64 lm i (by rw [LM.out]; exact hi)); rw [Nat.zero_add, AM.out i hi] at this; exact this)).mono ?_
 rintro e wx2 ⟨rfl, hblk2, hgr2⟩
 refine hK.out _ _ trivial (fun hHeld2 => ?_)
 clear hK K hHeld
 have hHeld := hHeld2
 clear hHeld2
 try simp only [Act.put, zq]
 refine wpAnyH_done (by kernel_rfl) ?_ _
 have F1 := Hd (D1.out.drew.grown hgr2 (by simp <;> omega))
 have F3 := Hd (D3.out.drew.grown hgr2 (by simp <;> omega))
 have F4 := Hd (D4.out.drew.grown hgr2 (by simp <;> omega))
 rw [show 2 * 4 = 8 from rfl, ← HLD.out] at hblk2
 have F5 := Hd hblk2
 have belF : Below w.heap.size w wx2 := below_of_grown belD.drew hgr2 (by omega)
 clear D1 D3 D4 D5 belD hblk2 hgr2 hHeld AM
 go_wp2_with fail
 go_loopw [7, 22] (fun ov i wr => ∃ t : Nat, t ≤ 8 ∧ ∃ lp over, RedAt m X t over lp ∧ i = .int .i64 t ∧ ov = .int .u64 (over : Nat) ∧ Blk wr w.heap.size 82 (primL lm f) ∧ Blk wr (w.heap.size + 1 + 1) 24 (natsV .u64 (zeros 4)) ∧ Blk wr (w.heap.size + 1 + 1 + 1) 115 (natsV .u32 lp) ∧ Blk wr (w.heap.size + 1 + 1 + 1 + 1) 116 (natsV .u32 ld) ∧ Below w.heap.size w wr) (fun _ i _ => 8 - (intOf i).toNat)
 case atStart => exact ⟨0, by omega, _, 0, HST.out, rfl, rfl, F1.out, F3.out, F4.out, F5.out, belF⟩
 case round =>
   clear F1 F3 F4 F5 belF HST
   obtain ⟨t, ht, lp, over, hm0, rfl, rfl, k1, k3, k4, k5, hbel⟩ := hrel
   have K1 := Hd k1
   have K3 := Hd k3
   have K4 := Hd k4
   have K5 := Hd k5
   have HM := Hd hm0
   have HLP := Hd hm0.1
   have hov := hm0.2.2.1
   clear k1 k3 k4 k5 hm0
   by_cases h8 : t < 8
   · as_aux_lemma =>
     have hti : (t : Int) < 8 := by omega
     have c0 := K4.out.nat t (by rw [HLP.out]; omega)
     have cf := primL_fac K1.out LM.out
     obtain ⟨c, hc⟩ : ∃ c, c = lp.getD t 0 * f % 4294967296 := ⟨_, rfl⟩
     have emul := u32_mul (lp.getD t 0) f c hc
     have hc32 : c < 4294967296 := by rw [hc]; exact Nat.mod_lt _ (by decide)
     have ecv := u64_in c (by omega)
     have HROW := Hd (fun cy l (h : RowAt m c t (val (2 ^ 32) lp) 8 cy l) (s : Nat) (hs : s = l.getD (t + 8) 0 + cy + over) => RowAt.row HH.out HM.out h8 (hc ▸ h) s hs)
     have HRS := Hd (HM.out.rowStart c)
     generalize val (2 ^ 32) lp = T at *
     clear hc
     generalize lp.getD t 0 = lt at *
     have N1 := Hd K1.out.drew
     have N3 := Hd K3.out.drew
     have N4 := Hd K4.out.drew
     have N5 := Hd K5.out.drew
     have hbelN := hbel.drew
     clear K1 K3 K4 K5 hbel HM HDONE HOF LO HBL
     go_wp2_with fail
     go_region
     clear c0 cf emul
     generalize wr.drew = wd at *
     go_wp2_with (refine wpList_load_row rfl 116 (.tmp 6) rfl (w.heap.size + 1 + 1 + 1 + 1) rfl 116 (natsV .u32 ld).toArray (0, 0) _ N5.out Try.underlying116 rfl (by rw [info139, size_nats, LD.out]) ?_)
     go_loopw [10, 33] (fun cc jj wr => ∃ s : Nat, s ≤ 8 ∧ ∃ lq cy, RowAt m c t T s cy lq ∧ jj = .int .i64 s ∧ cc = .int .u64 (cy : Nat) ∧ Blk wr w.heap.size 82 (primL lm f) ∧ Blk wr (w.heap.size + 1 + 1) 24 (natsV .u64 (zeros 4)) ∧ Blk wr (w.heap.size + 1 + 1 + 1) 115 (natsV .u32 lq) ∧ Blk wr (w.heap.size + 1 + 1 + 1 + 1) 116 (natsV .u32 ld) ∧ Below w.heap.size w wr) (fun _ jj _ => 8 - (intOf jj).toNat)
     case atStart => exact ⟨0, by omega, lp, 0, HRS.out, rfl, rfl, N1.out, N3.out, N4.out, N5.out, hbelN⟩
     case round =>
       clear N1 N3 N4 N5 hbelN HRS
       obtain ⟨s, hs, lq, cy, hm1, rfl, rfl, k1, k3, k4, k5, hbel⟩ := hrel
       have K1 := Hd k1
       have K3 := Hd k3
       have K4 := Hd k4
       have K5 := Hd k5
       have HM1 := Hd hm1
       have HLQ := Hd hm1.1
       have hcy := hm1.2.2.1
       have HLT := Hd hm1.2.1
       clear k1 k3 k4 k5 hm1
       by_cases hs8 : s < 8
       · as_aux_lemma =>
         have hsi : (s : Int) < 8 := by omega
         have ix := fun w0 => index_nats (P := Try.prog) w0 116 80 8 .u32 ld s Try.underlying116 Try.underlying80 info65r hs8 LD.out
         rw [AD.out s hs8] at ix
         obtain ⟨z, hz⟩ : ∃ z, z = c * dgt (2 ^ 32) m s + lq.getD (t + s) 0 + cy := ⟨_, rfl⟩
         obtain ⟨hz64, hn⟩ := HM1.out.next h8 hs8 hc32 z hz
         have HN := Hd hn
         have hd := dgt_lt (B := 2 ^ 32) (by decide) m s
         have hpj := getD_lt' HLT.out (by decide) (t + s)
         have hfit := fit32 c (dgt (2 ^ 32) m s) (lq.getD (t + s) 0) cy hc32 hd hpj hcy
         clear hn HM1 HROW
         generalize dgt (2 ^ 32) m s = d at *
         obtain ⟨p, hp⟩ : ∃ p, p = t + s := ⟨_, rfl⟩
         rw [← hp] at HN hpj hz hfit
         have e1 : (t : Int) + (s : Int) = (p : Int) := by omega
         have hp16 : p < 16 := by omega
         have hpi : (p : Int) < 16 := by omega
         clear hp
         have c0 := K4.out.nat p (by rw [HLQ.out]; exact hp16)
         have f0 := K4.out.free p
         generalize lq.getD p 0 = pj at *
         obtain ⟨cd, hcd⟩ : ∃ cd, cd = c * d := ⟨_, rfl⟩
         rw [← hcd] at hz hfit
         have em := w_mul c d cd hcd (by rw [hcd]; exact Nat.le_trans (Nat.mul_le_mul (show c ≤ 4294967295 by omega) (show d ≤ 4294967295 from Nat.le_of_lt_succ hd)) (by decide))
         have e2 := u64_in d (by omega)
         have e3 := u64_in pj (by omega)
         have e4 := w_add cd pj (cd + pj) rfl hfit.2.2
         have e5 : IntKind.u64.wrap (((cd + pj : Nat) : Int) + (cy : Int)) = (z : Int) := w_add (cd + pj) cy z hz hz64
         have e6 := u32_lo z _ rfl
         have e7 := w_hi z _ rfl
         generalize cd + pj = cp at *
         obtain ⟨zl, hzl⟩ : ∃ x, x = z % 4294967296 := ⟨_, rfl⟩
         obtain ⟨zh, hzh⟩ : ∃ x, x = z / 4294967296 := ⟨_, rfl⟩
         rw [← hzl] at e6 HN
         rw [← hzh] at e7 HN
         have n4 := Hd (K4.out.natSet p zl)
         clear hzl hzh hz hz64 hcd hfit hpj hd
         have n1 := Hd (K1.out.other ⟨w.heap.size + 1 + 1 + 1, p, none⟩ (.int .u32 (zl : Nat)) (by simp <;> omega))
         have n3 := Hd (K3.out.other ⟨w.heap.size + 1 + 1 + 1, p, none⟩ (.int .u32 (zl : Nat)) (by simp))
         have n5 := Hd (K5.out.other ⟨w.heap.size + 1 + 1 + 1, p, none⟩ (.int .u32 (zl : Nat)) (by simp))
         have hb2 := hbel.setCell (p := ⟨w.heap.size + 1 + 1 + 1, p, none⟩) (by simp; omega) (.int .u32 (zl : Nat))
         clear K1 K3 K4 K5 hbel
         go_wp2_with fail
         go_roundw
         case rel => exact ⟨s + 1, by omega, _, zh, HN.out, by go_num, rfl, n1.out, n3.out, n4.out, n5.out, hb2⟩
         case measure => simp [intOf] <;> omega
       · as_aux_lemma =>
         obtain rfl : s = 8 := by omega
         rw [show ((8 : Nat) : Int) = 8 from rfl]
         obtain ⟨z, hz⟩ : ∃ z, z = lq.getD (t + 8) 0 + cy + over := ⟨_, rfl⟩
         obtain ⟨hz64, hn⟩ := HROW.out cy lq HM1.out z hz
         have HN := Hd hn
         have hpj := getD_lt' HLT.out (by decide) (t + 8)
         clear hn HM1 HROW
         obtain ⟨p, hp⟩ : ∃ p, p = t + 8 := ⟨_, rfl⟩
         rw [← hp] at HN hpj hz
         have e1 : (t : Int) + 8 = (p : Int) := by omega
         have hp16 : p < 16 := by omega
         have hpi : (p : Int) < 16 := by omega
         clear hp
         have c0 := K4.out.nat p (by rw [HLQ.out]; exact hp16)
         have f0 := K4.out.free p
         generalize lq.getD p 0 = pj at *
         have e3 := u64_in pj (by omega)
         have e4 := w_add pj cy (pj + cy) rfl (by omega)
         have e5 : IntKind.u64.wrap (((pj + cy : Nat) : Int) + (over : Int)) = (z : Int) := w_add (pj + cy) over z hz (by omega)
         have e6 := u32_lo z _ rfl
         have e7 := w_hi z _ rfl
         generalize pj + cy = cp at *
         obtain ⟨zl, hzl⟩ : ∃ x, x = z % 4294967296 := ⟨_, rfl⟩
         obtain ⟨zh, hzh⟩ : ∃ x, x = z / 4294967296 := ⟨_, rfl⟩
         rw [← hzl] at e6 HN
         rw [← hzh] at e7 HN
         have n4 := Hd (K4.out.natSet p zl)
         clear hzl hzh hz hz64 hpj
         have n1 := Hd (K1.out.other ⟨w.heap.size + 1 + 1 + 1, p, none⟩ (.int .u32 (zl : Nat)) (by simp <;> omega))
         have n3 := Hd (K3.out.other ⟨w.heap.size + 1 + 1 + 1, p, none⟩ (.int .u32 (zl : Nat)) (by simp))
         have n5 := Hd (K5.out.other ⟨w.heap.size + 1 + 1 + 1, p, none⟩ (.int .u32 (zl : Nat)) (by simp))
         have hb2 := hbel.setCell (p := ⟨w.heap.size + 1 + 1 + 1, p, none⟩) (by simp; omega) (.int .u32 (zl : Nat))
         clear K1 K3 K4 K5 hbel
         go_wp2_with fail
         go_roundw
         case rel => exact ⟨t + 1, by omega, _, zh, HN.out, by go_num, rfl, n1.out, n3.out, n4.out, n5.out, hb2⟩
         case measure => simp [intOf] <;> omega
   · as_aux_lemma =>
     obtain rfl : t = 8 := by omega
     rw [show ((8 : Nat) : Int) = 8 from rfl]
     obtain ⟨U, hU, hUd, hU2, hUm⟩ := HDONE.out over lp HM.out
     rw [HOF] at hUm
     have HB := HBL.out U over
     rw [hUm, ← hlr] at HB
     have hc0 : ∀ i, i < 8 → wr.drew.cell? ⟨w.heap.size + 1 + 1 + 1, 8 + i, none⟩ = some (.int .u32 (dgt (2 ^ 32) U i : Nat)) := fun i hi => by
       rw [K4.out.drew.nat (8 + i) (by rw [HLP.out]; omega), hUd i hi]
     have HJ := Hd (join_any' 8 (w.heap.size + 1 + 1 + 1) U 8 wr.drew (by omega) (by omega) K4.out.drew.lt hc0)
     have HB2 := Hd (fun w => HB w hU hU2 hov)
     have eov := ow_le over hov
     clear HB hU hUd hU2 hUm hc0 HBL HDONE HOF
     have i71 : (Try.prog.info? 82).map (·.size) = some (primL lm f).length := by rw [info83, LP.out]
     generalize wds 4 U = lu at *
     go_wp2_with fail
     refine wp_region_held_drew (S := (fun w' => w'.rangeAt w.heap.size 0 (primL lm f))) (by kernel_rfl) (blk_rangeV K1.out.drew) (fun hHeld => ?_)
     refine th0 0 rfl (yieldsIf_load_mid (by rfl) _ _ rfl _ _ rfl _ _ (by intro w hSw; exact hSw) Try.underlying82 rfl i71) hHeld ?_
     try simp only [Act.put, zq]
     refine th1 1 rfl hHeld ?_
     try simp only [Act.put, zq]
     refine th1 3 rfl hHeld ?_
     try simp only [Act.put, zq]
     refine th1 4 rfl hHeld ?_
     try simp only [Act.put, zq]
     refine wpAnyH_ready (rs := [2]) (by kernel_rfl) (by simp) ?_
     refine AllReadyH.cons (o := _) rfl (fun K hK => ?_) AllReadyH.nil
     go_simp
     go_at_call 85
     refine (HJ.out).mono ?_
     rintro e wx3 ⟨rfl, hbx3⟩
     refine hK.out _ _ (range_keepV hHeld hbx3) (fun hHeld2 => ?_)
     clear hK K hHeld
     have hHeld := hHeld2
     clear hHeld2
     try simp only [Act.put, zq]
     refine wpAnyH_ready (rs := [5]) (by kernel_rfl) (by simp) ?_
     refine AllReadyH.cons (o := _) rfl (fun K hK => ?_) AllReadyH.nil
     go_simp
     go_at_call 84
     refine (HB2.out _).mono ?_
     rintro e wx4 ⟨rfl, hbx4⟩
     refine hK.out _ _ (range_keepV hHeld hbx4) (fun hHeld2 => ?_)
     clear hK K hHeld
     have hHeld := hHeld2
     clear hHeld2
     try simp only [Act.put, zq]
     refine wpAnyH_ready (rs := [6]) (by kernel_rfl) (by simp) ?_
     refine AllReadyH.cons (o := _) rfl (fun K hK => ?_) AllReadyH.nil
     rw [if_pos (by rfl)]
     refine wst24 (.tmp 4) (.tmp 81) rfl (w.heap.size + 1 + 1) rfl lr rfl LO.out (zeros 4) ((K3.out.drew.below' hbx3).below' hbx4) rfl ?_
     refine hK.out _ _ (blk_rangeV (((K1.out.drew.below' hbx3).below' hbx4).row (natsV .u64 lr).toArray (show w.heap.size ≠ w.heap.size + 1 + 1 by omega))) (fun hHeld2 => ?_)
     clear hK K hHeld
     have hHeld := hHeld2
     clear hHeld2
     try simp only [Act.put, zq]
     refine wpAnyH_done (by kernel_rfl) ?_ _
     have j3 := ((K3.out.drew.below' hbx3).below' hbx4).setRow (natsV .u64 lr)
     have hb1 := hbel.drew.trans (hbx3.mono hbel.drew.size)
     have hb2 := below_setRow' (hb1.trans (hbx4.mono hb1.size)) (show w.heap.size ≤ w.heap.size + 1 + 1 by omega) (natsV .u64 lr).toArray
     go_wp2_with fail
     refine bodyPost_ret (v := .agg (natsV .u64 lr).toArray) ?_ rfl ⟨rfl, hb2⟩
     exact ret24 Try.results74 _ _ (w.heap.size + 1 + 1) lr rfl j3 LO.out
end Go.Proofs.Ytdkkombpkojjaaa
