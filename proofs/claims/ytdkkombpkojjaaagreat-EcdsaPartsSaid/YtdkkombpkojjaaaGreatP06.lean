/- Parts of proofs of statements, each text behind those that it stands on. No condition of its own. -/
import Derived.Test.YtdkkombpkojjaaaGreatP04
namespace Go.Proofs.YtdkkombpkojjaaaGreat
set_option maxRecDepth 100000
set_option maxHeartbeats 1600000
open Go.RowKit
set_option linter.unusedVariables false
set_option linter.unusedSimpArgs false
theorem norm_m (m : Nat) (h0 : m ≠ 0) (hm : m < 2 ^ 256) : 256 - bl m < 256 ∧ bl m ≤ 256 ∧ 2 ^ 255 ≤ m * 2 ^ (256 - bl m) ∧ m * 2 ^ (256 - bl m) < 2 ^ 256 := by
 have h1 := (bl_le_iff 256 m).2 hm
 have h2 : 1 ≤ bl m := by rw [bl_half m h0]; omega
 have h3 : m < 2 ^ bl m := (bl_le_iff (bl m) m).1 (Nat.le_refl _)
 have h4 : 2 ^ (bl m - 1) ≤ m := by
   rcases Nat.lt_or_ge m (2 ^ (bl m - 1)) with h | h
   · have := (bl_le_iff (bl m - 1) m).2 h; omega
   · exact h
 refine ⟨by omega, h1, ?_, ?_⟩
 · have h5 := Nat.mul_le_mul_right (2 ^ (256 - bl m)) h4
   rw [← Nat.pow_add, show bl m - 1 + (256 - bl m) = 255 by omega] at h5
   exact h5
 · have h5 := Nat.mul_lt_mul_of_pos_right h3 (Nat.two_pow_pos (256 - bl m))
   rw [← Nat.pow_add, show bl m + (256 - bl m) = 256 by omega] at h5
   exact h5
def remW (W X M s : Nat) : Nat := X / W ^ s % M
theorem step_gen (h W X M i r q1 r1 q0 : Nat) (hM : 0 < M) (hh : 0 < h) (hW : W = h * h) (hr : r = remW W X M (i + 1))
   (h1 : q1 = (r * h + dgt W X i / h) / M) (h2 : r1 = (r * h + dgt W X i / h) % M) (h3 : q0 = (r1 * h + dgt W X i % h) / M) :
   (r1 * h + dgt W X i % h) % M = remW W X M i ∧ q1 < h ∧ q0 < h ∧ q1 * h + q0 = dgt W (X / M) i := by
 have hrM : r < M := by rw [hr]; exact Nat.mod_lt _ hM
 have hr1M : r1 < M := by rw [h2]; exact Nat.mod_lt _ hM
 have hWp : 0 < W := by rw [hW]; exact Nat.mul_pos hh hh
 have hx := dgt_lt hWp X i
 generalize hxi : dgt W X i = x at *
 have hxh : x / h < h := by rw [Nat.div_lt_iff_lt_mul hh, ← hW]; exact hx
 have hxl : x % h < h := Nat.mod_lt _ hh
 have hq1 : q1 < h := by
   rw [h1, Nat.div_lt_iff_lt_mul hM]
   have := Nat.mul_le_mul_right h (show r + 1 ≤ M from hrM)
   rw [Nat.add_mul, Nat.one_mul, Nat.mul_comm M] at this
   omega
 have hq0 : q0 < h := by
   rw [h3, Nat.div_lt_iff_lt_mul hM]
   have := Nat.mul_le_mul_right h (show r1 + 1 ≤ M from hr1M)
   rw [Nat.add_mul, Nat.one_mul, Nat.mul_comm M] at this
   omega
 have e0 : X / W ^ i = X / W ^ (i + 1) * W + x := by
   have g1 := Nat.mod_add_div (X / W ^ i) W
   have g2 : X / W ^ i / W = X / W ^ (i + 1) := by rw [Nat.div_div_eq_div_mul, Nat.pow_succ]
   rw [g2] at g1
   rw [← hxi, Nat.mul_comm (X / W ^ (i + 1))]
   exact g1.symm.trans (Nat.add_comm _ _)
 have e1 := Nat.mod_add_div (X / W ^ (i + 1)) M
 have e2 := Nat.mod_add_div (r * h + x / h) M
 have e3 := Nat.mod_add_div (r1 * h + x % h) M
 have e4 := Nat.mod_add_div x h
 have hr0 := Nat.mod_lt (r1 * h + x % h) hM
 have hrr : X / W ^ (i + 1) % M = r := hr.symm
 rw [hrr] at e1
 rw [← h1, ← h2] at e2
 rw [← h3] at e3
 generalize (r1 * h + x % h) % M = r0 at *
 generalize hK : X / W ^ (i + 1) / M = K at *
 have key : X / W ^ i = r0 + M * (K * W + (q1 * h + q0)) := by
   rw [e0, ← e1, hW]
   have a1 : (r + M * K) * (h * h) + x = (r * h + x / h) * h + x % h + M * K * (h * h) := by
     rw [Nat.add_mul, Nat.add_mul]
     have : r * (h * h) = r * h * h := by rw [Nat.mul_assoc]
     rw [this]
     have : x / h * h = h * (x / h) := Nat.mul_comm _ _
     omega
   rw [a1, ← e2, Nat.add_mul r1]
   have a2 : r1 * h + M * q1 * h + x % h = (r1 * h + x % h) + M * q1 * h := by omega
   rw [a2, ← e3, Nat.mul_add, Nat.mul_add]
   have a3 : M * K * (h * h) = M * (K * (h * h)) := Nat.mul_assoc _ _ _
   have a4 : M * q1 * h = M * (q1 * h) := Nat.mul_assoc _ _ _
   omega
 have hmod : X / W ^ i % M = r0 := by rw [key, Nat.add_mul_mod_self_left, Nat.mod_eq_of_lt hr0]
 have hdiv : X / W ^ i / M = K * W + (q1 * h + q0) := by rw [key, Nat.add_mul_div_left _ _ hM, Nat.div_eq_of_lt hr0, Nat.zero_add]
 refine ⟨hmod.symm, hq1, hq0, ?_⟩
 have hlt : q1 * h + q0 < W := by
   have := Nat.mul_le_mul_right h (show q1 + 1 ≤ h from hq1)
   rw [Nat.add_mul, Nat.one_mul, ← hW] at this
   omega
 have hc : X / M / W ^ i = X / W ^ i / M := by rw [Nat.div_div_eq_div_mul, Nat.div_div_eq_div_mul, Nat.mul_comm]
 unfold dgt
 rw [hc, hdiv, Nat.add_comm (K * W), Nat.add_mul_mod_self_right, Nat.mod_eq_of_lt hlt]
def quoW (Q s : Nat) : List Nat := tell (fun j => if s ≤ j then dgt (2 ^ 64) Q j else 0) 8
theorem quoW_len (Q s : Nat) : (quoW Q s).length = 8 := tell_length _ _
theorem quoW_top (Q : Nat) : quoW Q 8 = zeros 8 := by
 have : quoW Q 8 = tell (fun _ => 0) 8 := tell_congr fun i hi => if_neg (by omega)
 rw [this]; rfl
theorem quoW_all (Q : Nat) : quoW Q 0 = wds 8 Q := tell_congr fun i hi => if_pos (by omega)
theorem quoW_set (Q i : Nat) (hi : i < 8) : (quoW Q (i + 1)).set i (dgt (2 ^ 64) Q i) = quoW Q i := by
 unfold quoW
 rw [tell_set]
 refine tell_congr fun j hj => ?_
 by_cases h : j = i
 · rw [if_pos h, if_pos (by omega), h]
 · rw [if_neg h]
   by_cases h2 : i + 1 ≤ j
   · rw [if_pos h2, if_pos (by omega)]
   · rw [if_neg h2, if_neg (by omega)]
theorem rem_top (X n M : Nat) (hX : X < 2 ^ 256 * 2 ^ 256) (hM : 2 ^ n ≤ M) : X * 2 ^ n / 2 ^ 256 / 2 ^ 256 = remW (2 ^ 64) (X * 2 ^ n) M 8 := by
 unfold remW
 have e : (2 ^ 64) ^ 8 = 2 ^ 256 * 2 ^ 256 := by rw [show (8 : Nat) = 4 + 4 from rfl, Nat.pow_add, pow256]
 rw [e, ← Nat.div_div_eq_div_mul, Nat.mod_eq_of_lt]
 refine Nat.lt_of_lt_of_le ?_ hM
 rw [Nat.div_div_eq_div_mul, Nat.div_lt_iff_lt_mul (Nat.mul_pos (Nat.two_pow_pos 256) (Nat.two_pow_pos 256)), Nat.mul_comm (2 ^ n)]
 exact Nat.mul_lt_mul_of_pos_right hX (Nat.two_pow_pos n)
theorem rem_end (X m n : Nat) : remW (2 ^ 64) (X * 2 ^ n) (m * 2 ^ n) 0 = X % m * 2 ^ n := by
 unfold remW; rw [Nat.pow_zero, Nat.div_one, Nat.mul_mod_mul_right]
theorem quo_end (X m n : Nat) : X * 2 ^ n / (m * 2 ^ n) = X / m := Nat.mul_div_mul_right _ _ (Nat.two_pow_pos n)
theorem pow_le_norm (m n : Nat) (h : m ≠ 0) : 2 ^ n ≤ m * 2 ^ n := Nat.le_mul_of_pos_left _ (by omega)
section
variable {w : World} {o : Oper} {a : Act} {K : Act → World → Prop} {Q : Exit → Act → World → Prop}
theorem wst24 (x y : Operand) (ho : o.op = .store 26 x y) (g : Nat) (hx : a.eval x = .pointer (some ⟨g, 0, none⟩)) (l : List Nat) (hy : a.eval y = .agg (natsV .u64 l).toArray) (hl : l.length = 4) (old : List Nat) (hg : Blk w g 26 (natsV .u64 old)) (ho4 : old.length = 4)
   (h : K (a.put o.dst undef) (w.setRow g (natsV .u64 l).toArray)) : o.wp Tryz.prog a w K Q :=
 wp_store_row 26 x y ho g (natsV .u64 l).toArray hx hy 26 (natsV .u64 old).toArray hg (by rw [info24, size_nats, hl]) (by rw [size_nats, size_nats, hl, ho4]) (all_nats _ _) h
theorem wst26 (x y : Operand) (ho : o.op = .store 122 x y) (g : Nat) (hx : a.eval x = .pointer (some ⟨g, 0, none⟩)) (l : List Nat) (hy : a.eval y = .agg (natsV .u64 l).toArray) (hl : l.length = 8) (old : List Nat) (hg : Blk w g 122 (natsV .u64 old)) (ho4 : old.length = 8)
   (h : K (a.put o.dst undef) (w.setRow g (natsV .u64 l).toArray)) : o.wp Tryz.prog a w K Q :=
 wp_store_row 122 x y ho g (natsV .u64 l).toArray hx hy 122 (natsV .u64 old).toArray hg (by rw [info26, size_nats, hl]) (by rw [size_nats, size_nats, hl, ho4]) (all_nats _ _) h
end
theorem range_keepV {w w' : World} {g : Nat} {vs : List Value} (h : w.rangeAt g 0 vs) (hb : Below w.heap.size w w') : w'.rangeAt g 0 vs := by
 intro j v hv
 have h1 := h j v hv
 exact (hb.cell (World.block_lt_of_cell? w _ h1)).trans h1
theorem blk_rangeV {w : World} {G : Nat} {t : TypeId} {vs : List Value} (h : Blk w G t vs) : w.rangeAt G 0 vs := by
 intro j v hv
 rw [Nat.zero_add, h.cell, hv]
theorem wds8_join (a b : Nat) (ha : a < 2 ^ 256) : wds 8 (a + 2 ^ 256 * b) = wds 4 a ++ wds 4 b := by
 have h1 : ∀ i, i < 4 → dgt (2 ^ 64) (a + 2 ^ 256 * b) i = dgt (2 ^ 64) a i := by
   intro i hi
   have h : (tell (dgt (2 ^ 64) ((a + 2 ^ 256 * b) % (2 ^ 64) ^ 4)) 4).getD i 0 = (tell (dgt (2 ^ 64) (a + 2 ^ 256 * b)) 4).getD i 0 := by rw [tell_mod (2 ^ 64) (a + 2 ^ 256 * b) 4 4 (Nat.le_refl _)]
   rw [tell_getD _ _ _ hi, tell_getD _ _ _ hi, show (2 ^ 64) ^ 4 = 2 ^ 256 from by rw [← Nat.pow_mul], Nat.add_mul_mod_self_left, Nat.mod_eq_of_lt ha] at h
   exact h.symm
 have h2 : ∀ i, dgt (2 ^ 64) (a + 2 ^ 256 * b) (4 + i) = dgt (2 ^ 64) b i := by
   intro i
   unfold dgt
   have e : (a + 2 ^ 256 * b) / (2 ^ 64) ^ 4 = b := by
     rw [show (2 ^ 64) ^ 4 = 2 ^ 256 from by rw [← Nat.pow_mul], Nat.add_mul_div_left _ _ (Nat.two_pow_pos 256), Nat.div_eq_of_lt ha, Nat.zero_add]
   rw [Nat.pow_add, ← Nat.div_div_eq_div_mul, e]
 show [_, _, _, _, _, _, _, _] = [_, _, _, _] ++ [_, _, _, _]
 simp only [List.cons_append, List.nil_append, List.cons.injEq, and_true]
 exact ⟨h1 0 (by decide), h1 1 (by decide), h1 2 (by decide), h1 3 (by decide), h2 0, h2 1, h2 2, h2 3⟩
theorem sp0 (la : List Nat) (h : la.length = 4) : splice (natsV .u64 (zeros 8)) 0 (natsV .u64 la) = natsV .u64 (la ++ zeros 4) := by
 match la, h with
 | [a, b, c, d], _ => rfl
theorem sp4 (la lb : List Nat) (h : la.length = 4) (h2 : lb.length = 4) : splice (natsV .u64 (la ++ zeros 4)) 4 (natsV .u64 lb) = natsV .u64 (la ++ lb) := by
 match la, lb, h, h2 with
 | [a, b, c, d], [e, f, g, i], _, _ => rfl
theorem src_of {w : World} {g t : Nat} {l : List Nat} (h : Blk w g t (natsV .u64 l)) (n : Nat) : ∀ j v, (natsV .u64 l)[j]? = some v → w.cell? ((⟨g, 0, none⟩ : Addr).add j) = some v := by
 intro j v hv
 rcases j with _ | j
 · have := h.cell 0; rw [hv] at this; simpa [Addr.add] using this
 · have := h.cell (j + 1); rw [hv] at this; simpa [Addr.add] using this
theorem join_any (a b : Nat) (w : World) (ha : a < 2 ^ 256) :
   Calls Tryz.prog 128 #[.agg (natsV .u64 (wds 4 a)).toArray, .agg (natsV .u64 (wds 4 b)).toArray] w fun e w' => e = .returned (.agg (natsV .u64 (wds 8 (a + 2 ^ 256 * b))).toArray) ∧ Below w.heap.size w w' := by
 rw [wds8_join a b ha]
 have LA := Hd (wds_len 4 a)
 have LB := Hd (wds_len 4 b)
 clear ha
 generalize wds 4 a = la at *
 generalize wds 4 b = lb at *
 have NA := Hd (show (natsV .u64 la).length = Nat.min 4 8 by rw [natsV_length, LA.out]; rfl)
 have NB := Hd (show (natsV .u64 lb).length = Nat.min 4 4 by rw [natsV_length, LB.out]; rfl)
 have FA := Hd (show 0 + (natsV .u64 la).length ≤ (natsV .u64 (zeros 8)).length by rw [natsV_length, LA.out]; decide)
 have FB := Hd (show 4 + (natsV .u64 lb).length ≤ (natsV .u64 (la ++ zeros 4)).length by rw [natsV_length, natsV_length, List.length_append, LB.out, LA.out]; decide)
 have L8 := Hd (show (la ++ lb).length = 8 by rw [List.length_append, LA.out, LB.out])
 have S0 := Hd (sp0 la LA.out)
 have S4 := Hd (sp4 la lb LA.out LB.out)
 obtain ⟨ls, hls⟩ : ∃ ls, ls = la ++ lb := ⟨_, rfl⟩
 rw [← hls] at S4 L8 ⊢
 have B1 := Hd ((((Blk.new w 26 (natsV .u64 la)).alloc (.cells (natsV .u64 lb).toArray 26)).alloc (.cells (natsV .u64 (zeros 8)).toArray 122)).alloc (.cells (natsV .u64 (zeros 8)).toArray 122))
 have B2 := Hd (((Blk.new2 w (.cells (natsV .u64 la).toArray 26) 26 (natsV .u64 lb)).alloc (.cells (natsV .u64 (zeros 8)).toArray 122)).alloc (.cells (natsV .u64 (zeros 8)).toArray 122))
 have B3 := Hd ((Blk.new3 w (.cells (natsV .u64 la).toArray 26) (.cells (natsV .u64 lb).toArray 26) 122 (natsV .u64 (zeros 8))).alloc (.cells (natsV .u64 (zeros 8)).toArray 122))
 have B4 := Hd (Blk.new4 w (.cells (natsV .u64 la).toArray 26) (.cells (natsV .u64 lb).toArray 26) (.cells (natsV .u64 (zeros 8)).toArray 122) 122 (natsV .u64 (zeros 8)))
 clear hls
 have BEL := Hd (((((Below.refl w.heap.size w).alloc (Nat.le_refl _) (.cells (natsV .u64 la).toArray 26)).alloc (by simp) (.cells (natsV .u64 lb).toArray 26)).alloc (by simp; omega) (.cells (natsV .u64 (zeros 8)).toArray 122)).alloc (by simp; omega) (.cells (natsV .u64 (zeros 8)).toArray 122))
 go_enter Tryz.func128, Tryz.ntmps128
 go_wp2_with fail
 refine wp_region_held_drew (S := (fun w' => True)) (by kernel_rfl) trivial (fun hHeld => ?_)
 refine th1 0 rfl hHeld ?_
 try simp only [Act.put, zq]
 refine th1 1 rfl hHeld ?_
 try simp only [Act.put, zq]
 refine wpAnyH_ready (rs := [2]) (by kernel_rfl) (by simp) ?_
 refine AllReadyH.cons (o := _) rfl (fun K hK => ?_) AllReadyH.nil
 refine step_copy_splice rfl (.tmp 6) (.tmp 7) 107 107 rfl 24 Tryz.underlying107 info22 (some ⟨w.heap.size + 1 + 1 + 1, 0, none⟩) (some ⟨w.heap.size, 0, none⟩) 8 8 4 4 rfl rfl (w.heap.size + 1 + 1 + 1) 0 (natsV .u64 (zeros 8)) 122 B4.out.drew (natsV .u64 la) NA.out (fun _ => ⟨rfl, _, rfl, src_of B1.out.drew 0⟩) FA.out n1' (w.heap.size + 1 + 1 + 1) _ (Below.refl _ _) (Nat.le_refl _) ?_
 intro w4 hg4 hb4
 refine hK.out _ _ trivial (fun _ => ?_)
 clear hK K hHeld
 refine wpAnyH_done (by kernel_rfl) ?_ _
 have C4 := Hd (show Blk w4 (w.heap.size + 1 + 1 + 1) 122 (natsV .u64 (la ++ zeros 4)) from by rw [← S0.out]; exact hg4.out)
 have C2 := Hd (B2.out.drew.below hb4 (by omega))
 have C3 := Hd (B3.out.drew.below hb4 (by omega))
 have bel4 := BEL.out.drew.trans (hb4.mono (by omega))
 clear hg4 hb4 B1 B2 B3 B4 BEL
 go_wp2_with fail
 refine wp_region_held_drew (S := (fun w' => True)) (by kernel_rfl) trivial (fun hHeld => ?_)
 refine th1 0 rfl hHeld ?_
 try simp only [Act.put, zq]
 refine th1 1 rfl hHeld ?_
 try simp only [Act.put, zq]
 refine wpAnyH_ready (rs := [2]) (by kernel_rfl) (by simp) ?_
 refine AllReadyH.cons (o := _) rfl (fun K hK => ?_) AllReadyH.nil
 refine step_copy_splice rfl (.tmp 9) (.tmp 10) 107 107 rfl 24 Tryz.underlying107 info22 (some ⟨w.heap.size + 1 + 1 + 1, 4, none⟩) (some ⟨(w.heap.size + 1), 0, none⟩) 4 4 4 4 rfl rfl (w.heap.size + 1 + 1 + 1) 4 (natsV .u64 (la ++ zeros 4)) 122 C4.out.drew (natsV .u64 lb) NB.out (fun _ => ⟨rfl, _, rfl, src_of C2.out.drew 0⟩) FB.out n1' (w.heap.size + 1 + 1 + 1) _ (Below.refl _ _) (Nat.le_refl _) ?_
 intro w5 hg5 hb5
 refine hK.out _ _ trivial (fun _ => ?_)
 clear hK K hHeld
 refine wpAnyH_done (by kernel_rfl) ?_ _
 have D4 := Hd (show Blk w5 (w.heap.size + 1 + 1 + 1) 122 (natsV .u64 ls) from by rw [← S4.out]; exact hg5.out)
 have D3 := Hd (C3.out.drew.below hb5 (by omega))
 have bel5 := bel4.drew.trans (hb5.mono (by omega))
 have j2 := D3.out.setRow (natsV .u64 ls)
 have hb2 := below_setRow' bel5 (show w.heap.size ≤ w.heap.size + 1 + 1 by omega) (natsV .u64 ls).toArray
 clear hg5 hb5 C2 C3 C4 bel4
 go_wp2_with (first | (refine ld26 rfl (.tmp 5) rfl (w.heap.size + 1 + 1 + 1) rfl ls D4.out L8.out ?_) | (refine st26 rfl (.tmp 4) (.tmp 12) rfl (w.heap.size + 1 + 1) rfl ls rfl L8.out (zeros 8) D3.out rfl ?_))
 refine bodyPost_ret (v := .agg (natsV .u64 ls).toArray) ?_ rfl ⟨rfl, hb2⟩
 exact results_cell_row Tryz.results128 _ _ (w.heap.size + 1 + 1) 122 _ (0, 0) _ rfl j2 Tryz.underlying122 rfl (by rw [info26, size_nats, L8.out])
theorem stepsOf_any (n : Int) (w : World) (h0 : -9223372036854775808 ≤ n) (h1 : n < 9223372036854775808) : Calls Tryz.prog 123 #[.int .i64 n] w fun e w' => e = .returned (.tuple #[.int .i64 (n.toNat / 64 : Nat), .int .i64 (n.toNat % 64 : Nat)]) ∧ w = w' := by
 by_cases hn : n < 0
 · have hm : max n 0 = 0 := by omega
   rw [show n.toNat = 0 by omega]
   have hm2 : max 0 n = 0 := by omega
   go_enter Tryz.func123, Tryz.ntmps123
   go_wp2_with fail
   go_ret2
   exact ⟨rfl, rfl⟩
 · obtain ⟨k, rfl⟩ := Int.eq_ofNat_of_zero_le (show 0 ≤ n by omega)
   have hm : max (k : Int) 0 = k := by omega
   have hm2 : max 0 (k : Int) = k := by omega
   rw [show (k : Int).toNat = k by omega]
   go_enter Tryz.func123, Tryz.ntmps123
   go_wp2_with fail
   go_ret2
   exact ⟨by simp, rfl⟩
theorem wordOf_any (x : Nat) (j : Int) (w : World) (hx : x < 2 ^ 256) (h0 : -9223372036854775808 ≤ j) (h1 : j < 9223372036854775808) : Calls Tryz.prog 124 #[.agg (natsV .u64 (wds 4 x)).toArray, .int .i64 j] w fun e w' => e = .returned (.int .u64 (wz x j : Nat)) ∧ Below w.heap.size w w' := by
 have HX4 := Hd (fun j (h : 4 ≤ j) => dgt_high (B := 2 ^ 64) (x := x) (n := 4) (by decide) (by rw [← Nat.pow_mul]; exact hx) h)
 have LA := Hd (wds_len 4 x)
 have AA := Hd (wds_at 4 x)
 generalize wds 4 x = la at *
 have B1 := Hd (Blk.new w 26 (natsV .u64 la))
 have BEL := Hd ((Below.refl w.heap.size w).alloc (Nat.le_refl _) (.cells (natsV .u64 la).toArray 26))
 have hbel := BEL.out
 by_cases hneg : j < 0
 · rw [wz_neg x j hneg]
   go_enter Tryz.func124, Tryz.ntmps124
   go_wp2_with fail
   go_ret
   exact ⟨rfl, hbel⟩
 · obtain ⟨k, rfl⟩ := Int.eq_ofNat_of_zero_le (show 0 ≤ j by omega)
   rw [wz_nat]
   by_cases hbig : 4 ≤ k
   · have hb2 : (4 : Int) ≤ (k : Int) := by omega
     rw [HX4.out k hbig]
     go_enter Tryz.func124, Tryz.ntmps124
     go_wp2_with fail
     go_ret
     exact ⟨rfl, hbel⟩
   · have hk : k < 4 := by omega
     have hki : (k : Int) < 4 := by omega
     have c0 := B1.out.nat k (by rw [LA.out]; omega)
     rw [AA.out k hk] at c0
     generalize dgt (2 ^ 64) x k = y at *
     have h0k : (0 : Int) ≤ (k : Int) := by omega
     clear hx hneg hbig h0 h1 AA HX4 LA
     go_enter Tryz.func124, Tryz.ntmps124
     go_wp2_with fail
     go_ret
     exact ⟨rfl, hbel⟩
theorem Shl_any (x : Nat) (n : Int) (w : World) (hx : x < 2 ^ 256) (h0 : -9223372036854775808 ≤ n) (h1 : n < 9223372036854775808) :
   Calls Tryz.prog 125 #[.agg (natsV .u64 (wds 4 x)).toArray, .int .i64 n] w fun e w' => e = .returned (.agg (natsV .u64 (wds 4 (x * 2 ^ n.toNat))).toArray) ∧ Below w.heap.size w w' := by
 have HST := Hd (fun w => stepsOf_any n w h0 h1)
 have HWO := Hd (fun (j : Int) (w : World) (h0 : -9223372036854775808 ≤ j) (h1 : j < 9223372036854775808) => wordOf_any x j w hx h0 h1)
 have HW := Hd (fun i => shl_word x n.toNat i)
 have hN : n.toNat < 9223372036854775808 := by omega
 have LS := Hd (wds_len 4 (x * 2 ^ n.toNat))
 have HS := Hd (show wds 4 (x * 2 ^ n.toNat) = tell (dgt (2 ^ 64) (x * 2 ^ n.toNat)) 4 from rfl)
 have LA := Hd (wds_len 4 x)
 generalize n.toNat = N at *
 generalize wds 4 (x * 2 ^ N) = ls at *
 generalize wds 4 x = la at *
 have B1 := Hd ((Blk.new w 26 (natsV .u64 la)).alloc (.cells (natsV .u64 (zeros 4)).toArray 26))
 have B2 := Hd (Blk.new2 w (.cells (natsV .u64 la).toArray 26) 26 (natsV .u64 (zeros 4)))
 have BEL := Hd (((Below.refl w.heap.size w).alloc (Nat.le_refl _) (.cells (natsV .u64 la).toArray 26)).alloc (by simp) (.cells (natsV .u64 (zeros 4)).toArray 26))
 have B1b := Hd (B1.out.alloc (.cells (natsV .u64 (zeros 4)).toArray 26))
 have B2b := Hd (B2.out.alloc (.cells (natsV .u64 (zeros 4)).toArray 26))
 have B3 := Hd (Blk.new3 w (.cells (natsV .u64 la).toArray 26) (.cells (natsV .u64 (zeros 4)).toArray 26) 26 (natsV .u64 (zeros 4)))
 have BELb := Hd (BEL.out.alloc (by simp; omega) (.cells (natsV .u64 (zeros 4)).toArray 26))
 obtain ⟨q, hq⟩ : ∃ q, q = N / 64 := ⟨_, rfl⟩
 obtain ⟨r, hr⟩ : ∃ r, r = N % 64 := ⟨_, rfl⟩
 rw [← hq, ← hr] at HST HW
 have hq1 : q < 144115188075855872 := by omega
 have hr1 : r < 64 := by omega
 clear hq hr hN h0 h1 B1 B2 BEL
 go_enter Tryz.func125, Tryz.ntmps125
 go_wp2_with fail
 refine (HST.out _).mono ?_
 rintro e w1 ⟨rfl, rfl⟩
 clear HST
 go_wp2_with fail
 go_loopw [14] (fun i wr => ∃ t : Nat, t ≤ 4 ∧ i = .int .i64 t ∧ Blk wr w.heap.size 26 (natsV .u64 la) ∧ Blk wr (w.heap.size + 1) 26 (natsV .u64 (zeros 4)) ∧ Blk wr (w.heap.size + 1 + 1) 26 (natsV .u64 (tell (dgt (2 ^ 64) (x * 2 ^ N)) t ++ zeros (4 - t))) ∧ Below w.heap.size w wr) (fun i _ => 4 - (intOf i).toNat)
 case atStart => exact ⟨0, by omega, rfl, B1b.out, B2b.out, B3.out, BELb.out⟩
 case round =>
   clear B1b B2b B3 BELb
   obtain ⟨t, ht, rfl, k1, k2, k3, hbel⟩ := hrel
   have K1 := Hd k1
   have K2 := Hd k2
   have K3 := Hd k3
   clear k1 k2 k3
   by_cases h5 : t < 4
   · as_aux_lemma =>
     have hti : (t : Int) < 4 := by omega
     have HSET := Hd (fill_tell (dgt (2 ^ 64) (x * 2 ^ N)) 4 t h5)
     have HD := Hd (HW.out t)
     obtain ⟨z, hz⟩ : ∃ z : Int, z = (t : Int) - (q : Int) := ⟨_, rfl⟩
     obtain ⟨y, hy⟩ : ∃ y : Int, y = z - 1 := ⟨_, rfl⟩
     rw [← hz, ← hy] at HD
     obtain ⟨m, hm⟩ : ∃ m : Nat, m = 64 - r := ⟨_, rfl⟩
     rw [← hm] at HD
     have e1 : IntKind.i64.wrap ((t : Int) - (q : Int)) = z := by rw [IntWalk.i64_in _ (by omega)]; omega
     have e1b : (t : Int) - (q : Int) = z := by omega
     have e2 : IntKind.i64.wrap (z - 1) = y := by rw [IntWalk.i64_in _ (by omega)]; omega
     have e2b : z - 1 = y := by omega
     have e3 : IntKind.i64.wrap (64 - (r : Int)) = (m : Int) := by rw [IntWalk.i64_in _ (by omega)]; omega
     have e3b : 64 - (r : Int) = (m : Int) := by omega
     have HC1 := Hd (fun w => HWO.out z w (by omega) (by omega))
     have HC2 := Hd (fun w => HWO.out y w (by omega) (by omega))
     have hm64 : m ≤ 64 := by omega
     have HL1 := wz_lt x z
     have HL2 := wz_lt x y
     clear hz hy hm e1b e2b e3b
     obtain ⟨A, hA⟩ : ∃ A : Nat, A = wz x z * 2 ^ r % 2 ^ 64 := ⟨_, rfl⟩
     obtain ⟨B, hB⟩ : ∃ B : Nat, B = wz x y / 2 ^ m := ⟨_, rfl⟩
     have rA : IntKind.u64.wrap (((wz x z : Nat) : Int) * 2 ^ r) = (A : Int) := by rw [hA, cast_pow, ← Int.natCast_mul, u64_cut]
     have rB : ((wz x y : Nat) : Int) / 2 ^ m = (B : Int) := by rw [hB]; simp
     have rC : bits .or .u64 (A : Int) (B : Int) = ((A ||| B : Nat) : Int) := u64_or_nat A B (by rw [hA]; exact Nat.mod_lt _ (by decide)) (by rw [hB]; exact Nat.lt_of_le_of_lt (Nat.div_le_self _ _) HL2)
     rw [← hA, ← hB] at HD
     rw [← HD.out] at rC
     clear hA hB
     generalize dgt (2 ^ 64) (x * 2 ^ N) t = sv at *
     generalize wz x z = p1 at *
     generalize wz x y = p2 at *
     have u25 := Tryz.underlying26
     have i25 : (Tryz.prog.info? 26).map (·.size) = some (natsV .u64 la).length := by rw [info24, natsV_length, LA.out]
     go_wp2_with fail
     refine wp_region_held_drew (S := (fun w' => w'.rangeAt w.heap.size 0 (natsV .u64 la))) (by kernel_rfl) (blk_range K1.out.drew) (fun hHeld => ?_)
     refine th1 0 rfl hHeld ?_
     try simp only [Act.put, zq]
     refine th0 1 rfl (yieldsIf_load_mid (by rfl) _ _ rfl _ _ rfl _ _ (by intro w hSw; exact hSw) u25 rfl i25) hHeld ?_
     try simp only [Act.put, zq]
     refine th1 2 rfl hHeld ?_
     try simp only [Act.put, zq]
     refine th1 3 rfl hHeld ?_
     try simp only [Act.put, zq]
     refine th1 4 rfl hHeld ?_
     try simp only [Act.put, zq]
     refine th1 6 rfl hHeld ?_
     try simp only [Act.put, zq]
     refine th0 8 rfl (yieldsIf_load_mid (by rfl) _ _ rfl _ _ rfl _ _ (by intro w hSw; exact hSw) u25 rfl i25) hHeld ?_
     try simp only [Act.put, zq]
     refine th1 9 rfl hHeld ?_
     try simp only [Act.put, zq]
     refine th1 10 rfl hHeld ?_
     try simp only [Act.put, zq]
     refine th1 11 rfl hHeld ?_
     try simp only [Act.put, zq]
     refine th1 12 rfl hHeld ?_
     try simp only [Act.put, zq]
     refine th1 14 rfl hHeld ?_
     try simp only [Act.put, zq]
     refine th1 15 rfl hHeld ?_
     try simp only [Act.put, zq]
     refine wpAnyH_ready (rs := [5]) (by kernel_rfl) (by simp) ?_
     refine AllReadyH.cons (o := _) rfl (fun K hK => ?_) AllReadyH.nil
     go_simp
     go_at_call 124
     refine (HC1.out _).mono ?_
     rintro e wx1 ⟨rfl, hbx1⟩
     refine hK.out _ _ (range_keep hHeld hbx1) (fun hHeld2 => ?_)
     clear hK K hHeld
     have hHeld := hHeld2
     clear hHeld2
     try simp only [Act.put, zq]
     refine th1 7 rfl hHeld ?_
     try simp only [Act.put, zq]
     refine wpAnyH_ready (rs := [13]) (by kernel_rfl) (by simp) ?_
     refine AllReadyH.cons (o := _) rfl (fun K hK => ?_) AllReadyH.nil
     go_simp
     go_at_call 124
     refine (HC2.out _).mono ?_
     rintro e wx2 ⟨rfl, hbx2⟩
     refine hK.out _ _ (range_keep hHeld hbx2) (fun hHeld2 => ?_)
     clear hK K hHeld
     have hHeld := hHeld2
     clear hHeld2
     try simp only [Act.put, zq]
     refine th1 16 rfl hHeld ?_
     try simp only [Act.put, zq]
     refine th1 17 rfl hHeld ?_
     try simp only [Act.put, zq]
     refine th1 18 rfl hHeld ?_
     try simp only [Act.put, zq]
     have hb2 : Below w.heap.size w wx2 := (hbel.drew.trans (hbx1.mono (by have := hbel.size; simp; omega))).trans (hbx2.mono (by have := hbel.size; have := hbx1.size; simp at *; omega))
     have J1 := Hd ((K1.out.drew.below' hbx1).below' hbx2)
     have J2 := Hd ((K2.out.drew.below' hbx1).below' hbx2)
     have J3 := Hd ((K3.out.drew.below' hbx1).below' hbx2)
     have c3 := J3.out.nat t (by simp [tell_length, zeros]; omega)
     have f3 := J3.out.free t
     clear hbx1 hbx2 hbel K1 K2 K3
     refine wpAnyH_ready (rs := [19]) (by kernel_rfl) (by simp) ?_
     refine AllReadyH.cons (o := _) rfl (fun K hK => ?_) AllReadyH.nil
     go_simp
     refine hK.out _ _ ?_ (fun _ => ?_)
     · exact blk_range (J1.out.other ⟨w.heap.size + 1 + 1, t, none⟩ (.int .u64 (sv : Nat)) (by simp; omega))
     refine wpAnyH_done (by kernel_rfl) ?_ _
     clear hK K c3 f3 e1 e2 e3 rA rB rC
     have n1 := J1.out.other ⟨w.heap.size + 1 + 1, t, none⟩ (.int .u64 (sv : Nat)) (by simp; omega)
     have n2 := J2.out.other ⟨w.heap.size + 1 + 1, t, none⟩ (.int .u64 (sv : Nat)) (by simp)
     have n3 := J3.out.natSet t sv
     have hb3 := hb2.setCell (p := ⟨w.heap.size + 1 + 1, t, none⟩) (by simp; omega) (.int .u64 (sv : Nat))
     rw [HSET.out] at n3
     have N1 := Hd n1
     have N2 := Hd n2
     have N3 := Hd n3
     clear n1 n2 n3 J1 J2 J3 hb2 hHeld
     go_wp2_with fail
     go_roundw
     case rel => exact ⟨t + 1, by omega, by go_num, N1.out, N2.out, N3.out, hb3⟩
     case measure => simp [intOf] <;> omega
   · obtain rfl : t = 4 := by omega
     rw [show ((4 : Nat) : Int) = 4 from rfl]
     have LE := Hd (show tell (dgt (2 ^ 64) (x * 2 ^ N)) 4 ++ zeros (4 - 4) = ls by rw [HS.out]; simp [zeros])
     rw [LE.out] at K3
     have j2 := K2.out.setRow (natsV .u64 ls)
     have hb2 := below_setRow' hbel (show w.heap.size ≤ w.heap.size + 1 by omega) (natsV .u64 ls).toArray
     go_wp2_with (first | (refine ld24 rfl (.tmp 7) rfl (w.heap.size + 1 + 1) rfl ls K3.out LS.out ?_) | (refine st24 rfl (.tmp 4) (.tmp 37) rfl (w.heap.size + 1) rfl ls rfl LS.out (zeros 4) K2.out rfl ?_))
     refine bodyPost_ret (v := .agg (natsV .u64 ls).toArray) ?_ rfl ⟨rfl, hb2⟩
     exact ret24 Tryz.results125 _ _ (w.heap.size + 1) ls rfl j2 LS.out
theorem Shr_any (x : Nat) (n : Int) (w : World) (hx : x < 2 ^ 256) (h0 : -9223372036854775808 ≤ n) (h1 : n < 9223372036854775808) :
   Calls Tryz.prog 116 #[.agg (natsV .u64 (wds 4 x)).toArray, .int .i64 n] w fun e w' => e = .returned (.agg (natsV .u64 (wds 4 (x / 2 ^ n.toNat))).toArray) ∧ Below w.heap.size w w' := by
 have HST := Hd (fun w => stepsOf_any n w h0 h1)
 have HWO := Hd (fun (j : Int) (w : World) (h0 : -9223372036854775808 ≤ j) (h1 : j < 9223372036854775808) => wordOf_any x j w hx h0 h1)
 have HW := Hd (fun i => shr_word x n.toNat i)
 have hN : n.toNat < 9223372036854775808 := by omega
 have LS := Hd (wds_len 4 (x / 2 ^ n.toNat))
 have HS := Hd (show wds 4 (x / 2 ^ n.toNat) = tell (dgt (2 ^ 64) (x / 2 ^ n.toNat)) 4 from rfl)
 have LA := Hd (wds_len 4 x)
 generalize n.toNat = N at *
 generalize wds 4 (x / 2 ^ N) = ls at *
 generalize wds 4 x = la at *
 have B1 := Hd ((Blk.new w 26 (natsV .u64 la)).alloc (.cells (natsV .u64 (zeros 4)).toArray 26))
 have B2 := Hd (Blk.new2 w (.cells (natsV .u64 la).toArray 26) 26 (natsV .u64 (zeros 4)))
 have BEL := Hd (((Below.refl w.heap.size w).alloc (Nat.le_refl _) (.cells (natsV .u64 la).toArray 26)).alloc (by simp) (.cells (natsV .u64 (zeros 4)).toArray 26))
 have B1b := Hd (B1.out.alloc (.cells (natsV .u64 (zeros 4)).toArray 26))
 have B2b := Hd (B2.out.alloc (.cells (natsV .u64 (zeros 4)).toArray 26))
 have B3 := Hd (Blk.new3 w (.cells (natsV .u64 la).toArray 26) (.cells (natsV .u64 (zeros 4)).toArray 26) 26 (natsV .u64 (zeros 4)))
 have BELb := Hd (BEL.out.alloc (by simp; omega) (.cells (natsV .u64 (zeros 4)).toArray 26))
 obtain ⟨q, hq⟩ : ∃ q, q = N / 64 := ⟨_, rfl⟩
 obtain ⟨r, hr⟩ : ∃ r, r = N % 64 := ⟨_, rfl⟩
 rw [← hq, ← hr] at HST HW
 have hq1 : q < 144115188075855872 := by omega
 have hr1 : r < 64 := by omega
 clear hq hr hN h0 h1 B1 B2 BEL
 go_enter Tryz.func116, Tryz.ntmps116
 go_wp2_with fail
 refine (HST.out _).mono ?_
 rintro e w1 ⟨rfl, rfl⟩
 clear HST
 go_wp2_with fail
 go_loopw [14] (fun i wr => ∃ t : Nat, t ≤ 4 ∧ i = .int .i64 t ∧ Blk wr w.heap.size 26 (natsV .u64 la) ∧ Blk wr (w.heap.size + 1) 26 (natsV .u64 (zeros 4)) ∧ Blk wr (w.heap.size + 1 + 1) 26 (natsV .u64 (tell (dgt (2 ^ 64) (x / 2 ^ N)) t ++ zeros (4 - t))) ∧ Below w.heap.size w wr) (fun i _ => 4 - (intOf i).toNat)
 case atStart => exact ⟨0, by omega, rfl, B1b.out, B2b.out, B3.out, BELb.out⟩
 case round =>
   clear B1b B2b B3 BELb
   obtain ⟨t, ht, rfl, k1, k2, k3, hbel⟩ := hrel
   have K1 := Hd k1
   have K2 := Hd k2
   have K3 := Hd k3
   clear k1 k2 k3
   by_cases h5 : t < 4
   · as_aux_lemma =>
     have hti : (t : Int) < 4 := by omega
     have HSET := Hd (fill_tell (dgt (2 ^ 64) (x / 2 ^ N)) 4 t h5)
     have HD := Hd (HW.out t)
     obtain ⟨z, hz⟩ : ∃ z : Int, z = (t : Int) + (q : Int) := ⟨_, rfl⟩
     obtain ⟨y, hy⟩ : ∃ y : Int, y = z + 1 := ⟨_, rfl⟩
     rw [← hz, ← hy] at HD
     obtain ⟨m, hm⟩ : ∃ m : Nat, m = 64 - r := ⟨_, rfl⟩
     rw [← hm] at HD
     have e1 : IntKind.i64.wrap ((t : Int) + (q : Int)) = z := by rw [IntWalk.i64_in _ (by omega)]; omega
     have e1b : (t : Int) + (q : Int) = z := by omega
     have e2 : IntKind.i64.wrap (z + 1) = y := by rw [IntWalk.i64_in _ (by omega)]; omega
     have e2b : z + 1 = y := by omega
     have e3 : IntKind.i64.wrap (64 - (r : Int)) = (m : Int) := by rw [IntWalk.i64_in _ (by omega)]; omega
     have e3b : 64 - (r : Int) = (m : Int) := by omega
     have HC1 := Hd (fun w => HWO.out z w (by omega) (by omega))
     have HC2 := Hd (fun w => HWO.out y w (by omega) (by omega))
     have hm64 : m ≤ 64 := by omega
     have HL1 := wz_lt x z
     have HL2 := wz_lt x y
     clear hz hy hm e1b e2b e3b
     obtain ⟨A, hA⟩ : ∃ A : Nat, A = wz x z / 2 ^ r := ⟨_, rfl⟩
     obtain ⟨B, hB⟩ : ∃ B : Nat, B = wz x y * 2 ^ m % 2 ^ 64 := ⟨_, rfl⟩
     have rA : ((wz x z : Nat) : Int) / 2 ^ r = (A : Int) := by rw [hA]; simp
     have rB : IntKind.u64.wrap (((wz x y : Nat) : Int) * 2 ^ m) = (B : Int) := by rw [hB, cast_pow, ← Int.natCast_mul, u64_cut]
     have rC : bits .or .u64 (A : Int) (B : Int) = ((A ||| B : Nat) : Int) := u64_or_nat A B (by rw [hA]; exact Nat.lt_of_le_of_lt (Nat.div_le_self _ _) HL1) (by rw [hB]; exact Nat.mod_lt _ (by decide))
     rw [← hA, ← hB] at HD
     rw [← HD.out] at rC
     clear hA hB
     generalize dgt (2 ^ 64) (x / 2 ^ N) t = sv at *
     generalize wz x z = p1 at *
     generalize wz x y = p2 at *
     have u25 := Tryz.underlying26
     have i25 : (Tryz.prog.info? 26).map (·.size) = some (natsV .u64 la).length := by rw [info24, natsV_length, LA.out]
     go_wp2_with fail
     refine wp_region_held_drew (S := (fun w' => w'.rangeAt w.heap.size 0 (natsV .u64 la))) (by kernel_rfl) (blk_range K1.out.drew) (fun hHeld => ?_)
     refine th1 0 rfl hHeld ?_
     try simp only [Act.put, zq]
     refine th0 1 rfl (yieldsIf_load_mid (by rfl) _ _ rfl _ _ rfl _ _ (by intro w hSw; exact hSw) u25 rfl i25) hHeld ?_
     try simp only [Act.put, zq]
     refine th1 2 rfl hHeld ?_
     try simp only [Act.put, zq]
     refine th1 3 rfl hHeld ?_
     try simp only [Act.put, zq]
     refine th1 4 rfl hHeld ?_
     try simp only [Act.put, zq]
     refine th1 6 rfl hHeld ?_
     try simp only [Act.put, zq]
     refine th0 8 rfl (yieldsIf_load_mid (by rfl) _ _ rfl _ _ rfl _ _ (by intro w hSw; exact hSw) u25 rfl i25) hHeld ?_
     try simp only [Act.put, zq]
     refine th1 9 rfl hHeld ?_
     try simp only [Act.put, zq]
     refine th1 10 rfl hHeld ?_
     try simp only [Act.put, zq]
     refine th1 11 rfl hHeld ?_
     try simp only [Act.put, zq]
     refine th1 12 rfl hHeld ?_
     try simp only [Act.put, zq]
     refine th1 14 rfl hHeld ?_
     try simp only [Act.put, zq]
     refine th1 15 rfl hHeld ?_
     try simp only [Act.put, zq]
     refine wpAnyH_ready (rs := [5]) (by kernel_rfl) (by simp) ?_
     refine AllReadyH.cons (o := _) rfl (fun K hK => ?_) AllReadyH.nil
     go_simp
     go_at_call 124
     refine (HC1.out _).mono ?_
     rintro e wx1 ⟨rfl, hbx1⟩
     refine hK.out _ _ (range_keep hHeld hbx1) (fun hHeld2 => ?_)
     clear hK K hHeld
     have hHeld := hHeld2
     clear hHeld2
     try simp only [Act.put, zq]
     refine th1 7 rfl hHeld ?_
     try simp only [Act.put, zq]
     refine wpAnyH_ready (rs := [13]) (by kernel_rfl) (by simp) ?_
     refine AllReadyH.cons (o := _) rfl (fun K hK => ?_) AllReadyH.nil
     go_simp
     go_at_call 124
     refine (HC2.out _).mono ?_
     rintro e wx2 ⟨rfl, hbx2⟩
     refine hK.out _ _ (range_keep hHeld hbx2) (fun hHeld2 => ?_)
     clear hK K hHeld
     have hHeld := hHeld2
     clear hHeld2
     try simp only [Act.put, zq]
     refine th1 16 rfl hHeld ?_
     try simp only [Act.put, zq]
     refine th1 17 rfl hHeld ?_
     try simp only [Act.put, zq]
     refine th1 18 rfl hHeld ?_
     try simp only [Act.put, zq]
     have hb2 : Below w.heap.size w wx2 := (hbel.drew.trans (hbx1.mono (by have := hbel.size; simp; omega))).trans (hbx2.mono (by have := hbel.size; have := hbx1.size; simp at *; omega))
     have J1 := Hd ((K1.out.drew.below' hbx1).below' hbx2)
     have J2 := Hd ((K2.out.drew.below' hbx1).below' hbx2)
     have J3 := Hd ((K3.out.drew.below' hbx1).below' hbx2)
     have c3 := J3.out.nat t (by simp [tell_length, zeros]; omega)
     have f3 := J3.out.free t
     clear hbx1 hbx2 hbel K1 K2 K3
     refine wpAnyH_ready (rs := [19]) (by kernel_rfl) (by simp) ?_
     refine AllReadyH.cons (o := _) rfl (fun K hK => ?_) AllReadyH.nil
     go_simp
     refine hK.out _ _ ?_ (fun _ => ?_)
     · exact blk_range (J1.out.other ⟨w.heap.size + 1 + 1, t, none⟩ (.int .u64 (sv : Nat)) (by simp; omega))
     refine wpAnyH_done (by kernel_rfl) ?_ _
     clear hK K c3 f3 e1 e2 e3 rA rB rC
     have n1 := J1.out.other ⟨w.heap.size + 1 + 1, t, none⟩ (.int .u64 (sv : Nat)) (by simp; omega)
     have n2 := J2.out.other ⟨w.heap.size + 1 + 1, t, none⟩ (.int .u64 (sv : Nat)) (by simp)
     have n3 := J3.out.natSet t sv
     have hb3 := hb2.setCell (p := ⟨w.heap.size + 1 + 1, t, none⟩) (by simp; omega) (.int .u64 (sv : Nat))
     rw [HSET.out] at n3
     have N1 := Hd n1
     have N2 := Hd n2
     have N3 := Hd n3
     clear n1 n2 n3 J1 J2 J3 hb2 hHeld
     go_wp2_with fail
     go_roundw
     case rel => exact ⟨t + 1, by omega, by go_num, N1.out, N2.out, N3.out, hb3⟩
     case measure => simp [intOf] <;> omega
   · obtain rfl : t = 4 := by omega
     rw [show ((4 : Nat) : Int) = 4 from rfl]
     have LE := Hd (show tell (dgt (2 ^ 64) (x / 2 ^ N)) 4 ++ zeros (4 - 4) = ls by rw [HS.out]; simp [zeros])
     rw [LE.out] at K3
     have j2 := K2.out.setRow (natsV .u64 ls)
     have hb2 := below_setRow' hbel (show w.heap.size ≤ w.heap.size + 1 by omega) (natsV .u64 ls).toArray
     go_wp2_with (first | (refine ld24 rfl (.tmp 7) rfl (w.heap.size + 1 + 1) rfl ls K3.out LS.out ?_) | (refine st24 rfl (.tmp 4) (.tmp 37) rfl (w.heap.size + 1) rfl ls rfl LS.out (zeros 4) K2.out rfl ?_))
     refine bodyPost_ret (v := .agg (natsV .u64 ls).toArray) ?_ rfl ⟨rfl, hb2⟩
     exact ret24 Tryz.results116 _ _ (w.heap.size + 1) ls rfl j2 LS.out
end Go.Proofs.YtdkkombpkojjaaaGreat
