/- Parts of proofs of statements, each text behind those that it stands on. No condition of its own. -/
import Derived.Test.YtdkkombpkojjaaaD05
namespace Go.Proofs.Ytdkkombpkojjaaa
set_option maxRecDepth 100000
set_option maxHeartbeats 1600000
open Go.RowKit
set_option linter.unusedVariables false
set_option linter.unusedSimpArgs false
def cyM (x q i : Nat) : Nat := (x % (2 ^ 64) ^ i * q) / (2 ^ 64) ^ i
theorem cyM_zero (x q : Nat) : cyM x q 0 = 0 := by simp [cyM, Nat.mod_one]
theorem cyM_gen (W x q i : Nat) (hW : 0 < W) : (x % W ^ (i + 1) * q) / W ^ (i + 1) = (dgt W x i * q + (x % W ^ i * q) / W ^ i) / W := by
 have hM := Nat.pow_pos (n := i) hW
 rw [mod_pow_succ, Nat.pow_succ, ← Nat.div_div_eq_div_mul, Nat.add_mul, Nat.mul_assoc, Nat.add_mul_div_left _ _ hM, Nat.add_comm]
theorem dgtM_gen (W x q i : Nat) (hW : 0 < W) : dgt W (x * q) i = (dgt W x i * q + (x % W ^ i * q) / W ^ i) % W := by
 have hM := Nat.pow_pos (n := i) hW
 have e : x * q = x % W ^ i * q + W ^ i * (x / W ^ i * q) := by
   conv => lhs; rw [← Nat.mod_add_div x (W ^ i)]
   rw [Nat.add_mul, Nat.mul_assoc]
 unfold dgt
 conv => lhs; rw [e, Nat.add_mul_div_left _ _ hM, Nat.add_comm]
 have hX : (x / W ^ i * q) % W = (x / W ^ i % W * q) % W := by
   conv => lhs; rw [← Nat.mod_add_div (x / W ^ i) W, Nat.add_mul, Nat.mul_assoc, Nat.add_mul_mod_self_left]
 rw [Nat.add_mod, hX, ← Nat.add_mod]
theorem cyM_lt (x q i : Nat) (hq : q < 2 ^ 64) : cyM x q i < 2 ^ 64 := by
 unfold cyM
 have hM := Nat.pow_pos (n := i) (show 0 < 2 ^ 64 by decide)
 rw [Nat.div_lt_iff_lt_mul hM, Nat.mul_comm (2 ^ 64)]
 exact Nat.mul_lt_mul_of_lt_of_le (Nat.mod_lt _ hM) (Nat.le_of_lt hq) (by decide)
theorem cyM_succ (x q i : Nat) : cyM x q (i + 1) = mhi (dgt (2 ^ 64) x i) q 0 (cyM x q i) := by
 unfold cyM mhi
 rw [cyM_gen _ _ _ _ (by decide), Nat.add_zero]
theorem dgtM (x q i : Nat) : dgt (2 ^ 64) (x * q) i = mlo (dgt (2 ^ 64) x i) q 0 (cyM x q i) := by
 unfold mlo
 rw [dgtM_gen _ _ _ _ (by decide), Nat.add_zero]; rfl
theorem cyM_top (x q : Nat) (hx : x < 2 ^ 256) : cyM x q 4 = x * q / 2 ^ 256 := by
 unfold cyM; rw [pow256, Nat.mod_eq_of_lt hx]
theorem times_any (x q : Nat) (w : World) (hx : x < 2 ^ 256) (hq : q < 2 ^ 64) :
   Calls Try.prog 98 #[.agg (natsV .u64 (wds 4 x)).toArray, .int .u64 (q : Nat)] w fun e w' => e = .returned (.tuple #[.agg (natsV .u64 (wds 4 (x * q))).toArray, .int .u64 (cyM x q 4 : Nat)]) ∧ Below w.heap.size w w' := by
 have LA := Hd (wds_len 4 x)
 have AA := Hd (wds_at 4 x)
 have LS := Hd (wds_len 4 (x * q))
 have AS := Hd (wds_at 4 (x * q))
 generalize wds 4 (x * q) = ls at *
 generalize wds 4 x = la at *
 have B1 := Hd ((Blk.new w 24 (natsV .u64 la)).alloc (.cells (natsV .u64 (zeros 4)).toArray 24))
 have B2 := Hd (Blk.new2 w (.cells (natsV .u64 la).toArray 24) 24 (natsV .u64 (zeros 4)))
 have BEL := Hd (((Below.refl w.heap.size w).alloc (Nat.le_refl _) (.cells (natsV .u64 la).toArray 24)).alloc (by simp) (.cells (natsV .u64 (zeros 4)).toArray 24))
 have C0 := Hd (cyM_zero x q)
 obtain ⟨cf, hcf⟩ : ∃ cf, cf = cyM x q 4 := ⟨_, rfl⟩
 rw [← hcf]
 have HCF := Hd hcf
 clear hcf
 go_enter Try.func98, Try.ntmps98
 go_wp2_with (refine ld24 rfl (.tmp 2) rfl w.heap.size rfl la B1.out LA.out ?_)
 go_loopw [6, 10] (fun cc i wr => ∃ t : Nat, t ≤ 4 ∧ i = .int .i64 t ∧ cc = .int .u64 (cyM x q t : Nat) ∧ Blk wr w.heap.size 24 (natsV .u64 (ls.take t ++ la.drop t)) ∧ Blk wr (w.heap.size + 1) 24 (natsV .u64 (zeros 4)) ∧ Below w.heap.size w wr) (fun _ i _ => 4 - (intOf i).toNat)
 case atStart => exact ⟨0, by omega, rfl, by rw [C0.out]; rfl, B1.out, B2.out, BEL.out⟩
 case round =>
   clear B1 B2 BEL C0
   obtain ⟨t, ht, rfl, rfl, k1, k2, hbel⟩ := hrel
   have K1 := Hd k1
   have K2 := Hd k2
   clear k1 k2
   by_cases h5 : t < 4
   · as_aux_lemma =>
     have hti : (t : Int) < 4 := by omega
     have ix := fun w0 => index_nats (P := Try.prog) w0 24 22 4 .u64 la t Try.underlying24 Try.underlying22 info22 h5 LA.out
     rw [AA.out t h5] at ix
     have HU := dgt_lt (B := 2 ^ 64) (by decide) x t
     have HCL := cyM_lt x q t hq
     have HC := Hd (fun w => mulAdd_any (dgt (2 ^ 64) x t) q 0 (cyM x q t) w HU hq (by decide) HCL)
     rw [← dgtM, ← cyM_succ] at HC
     have HSET := Hd (mix_set ls la t 4 LS.out LA.out h5)
     rw [AS.out t h5] at HSET
     have c0 := K1.out.nat t (by rw [mix_len ls la t 4 LS.out LA.out ht]; exact h5)
     have f0 := K1.out.free t
     generalize dgt (2 ^ 64) (x * q) t = lo at *
     generalize dgt (2 ^ 64) x t = u at *
     generalize cyM x q t = cy at *
     obtain ⟨hi, hhi⟩ : ∃ hi, hi = cyM x q (t + 1) := ⟨_, rfl⟩
     rw [← hhi] at HC
     have HHI := Hd hhi
     clear hhi
     rw [show ((0 : Nat) : Int) = 0 from rfl] at HC
     go_wp2_with fail
     refine (HC.out _).mono ?_
     rintro e w1 ⟨rfl, rfl⟩
     have n1 := Hd (K1.out.natSet t lo)
     have n2 := Hd (K2.out.other ⟨w.heap.size, t, none⟩ (.int .u64 (lo : Nat)) (by simp))
     have hb2 := hbel.setCell (p := ⟨w.heap.size, t, none⟩) (by simp) (.int .u64 (lo : Nat))
     rw [HSET.out] at n1
     clear K1 K2 hbel ix
     go_wp2_with fail
     go_roundw
     case rel => exact ⟨t + 1, by omega, by go_num, by rw [HHI.out], n1.out, n2.out, hb2⟩
     case measure => simp [intOf] <;> omega
   · obtain rfl : t = 4 := by omega
     rw [show ((4 : Nat) : Int) = 4 from rfl]
     have LE := Hd (show ls.take 4 ++ la.drop 4 = ls by rw [List.take_of_length_le (by rw [LS.out]; decide), List.drop_of_length_le (by rw [LA.out]; decide), List.append_nil])
     rw [LE.out] at K1
     rw [← HCF.out]
     have j2 := K2.out.setRow (natsV .u64 ls)
     have hb2 := below_setRow' hbel (show w.heap.size ≤ w.heap.size + 1 by omega) (natsV .u64 ls).toArray
     go_wp2_with (first | (refine ld24 rfl (.tmp 2) rfl w.heap.size rfl ls K1.out LS.out ?_) | (refine st24 rfl (.tmp 4) (.tmp 24) rfl (w.heap.size + 1) rfl ls rfl LS.out (zeros 4) K2.out rfl ?_))
     refine bodyPost_ret (v := .tuple #[.agg (natsV .u64 ls).toArray, .int .u64 (cf : Nat)]) ?_ rfl ⟨rfl, hb2⟩
     exact ret24x Try.results98 _ _ (w.heap.size + 1) ls _ rfl rfl j2 LS.out
def DigInv (N m : Nat) (o : Int) (q R : Nat) : Prop := R < 2 ^ 256 ∧ o * 2 ^ 256 + (R : Int) = (N : Int) - ((m * q : Nat) : Int) ∧ N / m ≤ q ∧ q < 4294967296 ∧ -8589934592 ≤ o ∧ o ≤ 8589934592
theorem dig_step {N m : Nat} {o : Int} {q R : Nat} (h : DigInv N m o q R) (ho : o < 0) (hm : m < 2 ^ 256) (hm0 : 0 < m) : 1 ≤ q ∧ DigInv N m (o + (addC R m : Nat)) (q - 1) ((R + m) % 2 ^ 256) := by
 obtain ⟨h1, h2, h3, h4, h5, h6⟩ := h
 have hlt : N < m * q := by
   generalize m * q = mq at *
   omega
 have hq : N / m < q := by rw [Nat.div_lt_iff_lt_mul hm0, Nat.mul_comm]; exact hlt
 have hq1 : 1 ≤ q := Nat.lt_of_le_of_lt (Nat.zero_le _) hq
 obtain ⟨k, rfl⟩ : ∃ k, q = k + 1 := ⟨q - 1, by omega⟩
 rw [Nat.mul_add, Nat.mul_one] at h2
 have hc : addC R m ≤ 1 := by unfold addC; omega
 have hr : (R + m) % 2 ^ 256 + 2 ^ 256 * addC R m = R + m := Nat.mod_add_div _ _
 refine ⟨hq1, Nat.mod_lt _ (by decide), ?_, by omega, by omega, by omega, by omega⟩
 rw [show k + 1 - 1 = k from rfl]
 generalize m * k = mk at *
 generalize addC R m = c at *
 generalize (R + m) % 2 ^ 256 = R' at *
 rw [Int.add_mul]
 clear hlt hq h3
 omega
theorem dig_done {N m : Nat} {o : Int} {q R : Nat} (h : DigInv N m o q R) (ho : ¬ o < 0) (hm : m < 2 ^ 256) (hm0 : 0 < m) : q = N / m ∧ R = N % m := by
 obtain ⟨h1, h2, h3, h4, h5, h6⟩ := h
 have hle : m * q ≤ N := by
   generalize m * q = mq at *
   omega
 have hq : q ≤ N / m := by rw [Nat.le_div_iff_mul_le hm0, Nat.mul_comm]; exact hle
 have he : q = N / m := by omega
 refine ⟨he, ?_⟩
 have hd := Nat.mod_add_div N m
 have hl := Nat.mod_lt N hm0
 rw [← he] at hd
 generalize m * q = mq at *
 generalize N % m = z at *
 clear h3 hq he
 omega
theorem top_word (x : Nat) (hx : x < 2 ^ 256) : dgt (2 ^ 64) x 3 = x / 2 ^ 192 := by
 have := dgt_top (2 ^ 64) x 3 (by decide) (by rw [show (2 ^ 64) ^ (3 + 1) = 2 ^ 256 from pow256]; exact hx)
 rw [this, ← Nat.pow_mul]
theorem guess_hi (r m nx : Nat) (hr : r < m) (hm : m < 2 ^ 256) (hm2 : 2 ^ 255 ≤ m) (hn : nx < 4294967296) : (r * 4294967296 + nx) / m ≤ min (r / 2 ^ 192 / (m / 2 ^ 224)) 4294967295 := by
 have hm0 : 0 < m := by omega
 have h1 : (r * 4294967296 + nx) / m < 4294967296 := by
   rw [Nat.div_lt_iff_lt_mul hm0]; omega
 have hmh : 0 < m / 2 ^ 224 := by omega
 have h2 : (r * 4294967296 + nx) / m ≤ (r * 4294967296 + nx) / (2 ^ 224 * (m / 2 ^ 224)) := Nat.div_le_div_left (Nat.mul_div_le _ _) (Nat.mul_pos (by decide) hmh)
 have h3 : (r * 4294967296 + nx) / (2 ^ 224 * (m / 2 ^ 224)) = r / 2 ^ 192 / (m / 2 ^ 224) := by
   rw [← Nat.div_div_eq_div_mul]
   congr 1
   omega
 rw [h3] at h2
 omega
theorem dig_start (r m nx q : Nat) (hr : r < m) (hm : m < 2 ^ 256) (hm2 : 2 ^ 255 ≤ m) (hn : nx < 4294967296) (hq : q = min (dgt (2 ^ 64) r 3 / (dgt (2 ^ 64) m 3 / 4294967296)) 4294967295) :
   DigInv (r * 4294967296 + nx) m (((dgt (2 ^ 64) r 3 / 4294967296 : Nat) : Int) - (m * q / 2 ^ 256 : Nat) - (lt01 ((r * 4294967296 + nx) % 2 ^ 256) (m * q % 2 ^ 256) : Nat)) q (((r * 4294967296 + nx) % 2 ^ 256 + 2 ^ 256 - m * q % 2 ^ 256) % 2 ^ 256) := by
 have hr2 : r < 2 ^ 256 := by omega
 rw [top_word r hr2, top_word m hm] at hq
 rw [top_word r hr2]
 have e1 : m / 2 ^ 192 / 4294967296 = m / 2 ^ 224 := by omega
 rw [e1] at hq
 have hg := guess_hi r m nx hr hm hm2 hn
 rw [← hq] at hg
 have hq32 : q < 4294967296 := by omega
 have hmq : m * q < 2 ^ 256 * 4294967296 := Nat.mul_lt_mul_of_lt_of_le hm (Nat.le_of_lt hq32) (by decide)
 refine ⟨Nat.mod_lt _ (by decide), ?_, hg, hq32, ?_, ?_⟩
 · clear hg hq
   generalize m * q = mq at *
   unfold lt01
   split <;> omega
 · clear hg hq
   generalize m * q = mq at *
   unfold lt01
   split <;> omega
 · clear hg hq
   generalize m * q = mq at *
   unfold lt01
   split <;> omega
theorem dig_q_lt {N m : Nat} {o : Int} {q R : Nat} (h : DigInv N m o q R) : q < 4294967296 ∧ -8589934592 ≤ o ∧ o ≤ 8589934592 ∧ R < 2 ^ 256 := ⟨h.2.2.2.1, h.2.2.2.2.1, h.2.2.2.2.2, h.1⟩
theorem low_set (r nx : Nat) (hn : nx < 4294967296) : (wds 4 (r * 2 ^ 32)).set 0 (dgt (2 ^ 64) (r * 2 ^ 32) 0 ||| nx) = wds 4 (r * 2 ^ 32 + nx) := by
 unfold wds
 rw [tell_set]
 have e : r * 2 ^ 32 + nx = r * 2 ^ 32 ||| nx := by
   have := Nat.two_pow_add_eq_or_of_lt (show nx < 2 ^ 32 from hn) r
   rw [Nat.mul_comm] at this; exact this
 refine tell_congr fun i hi => ?_
 rw [e]
 have ho : dgt (2 ^ 64) (r * 2 ^ 32 ||| nx) i = dgt (2 ^ 64) (r * 2 ^ 32) i ||| dgt (2 ^ 64) nx i := by
   apply Nat.eq_of_testBit_eq
   intro b
   simp only [dgt_bit, Nat.testBit_or]
   cases decide (b < 64) <;> simp
 rw [ho]
 by_cases h0 : i = 0
 · subst h0
   rw [if_pos rfl, show dgt (2 ^ 64) nx 0 = nx from by rw [dgt_zero]; omega]
 · rw [if_neg h0]
   have : dgt (2 ^ 64) nx i = 0 := dgt_high (n := 1) (by decide) (by rw [Nat.pow_one]; omega) (by omega)
   rw [this, Nat.or_zero]
theorem norm_m (m : Nat) (h0 : m ≠ 0) (hm : m < 2 ^ 256) : 256 - bl m < 256 ∧ bl m ≤ 256 ∧ 2 ^ 255 ≤ m * 2 ^ (256 - bl m) ∧ m * 2 ^ (256 - bl m) < 2 ^ 256 := by
 have h1 := (bl_le_iff 256 m).2 hm
 have h2 : 1 ≤ bl m := by rw [bl_half m h0]; omega
 have h3 : m < 2 ^ bl m := (bl_le_iff (bl m) m).1 (Nat.le_refl _)
 have h4 : 2 ^ (bl m - 1) ≤ m := by
   rcases Nat.lt_or_ge m (2 ^ (bl m - 1)) with h | h
   · have := (bl_le_iff (bl m - 1) m).2 h; omega
   · exact h
 refine ⟨by omega, h1, ?_, ?_⟩
 · have h5 := Nat.mul_le_mul_right (2 ^ (256 - bl m)) h4
   rw [← Nat.pow_add, show bl m - 1 + (256 - bl m) = 255 by omega] at h5
   exact h5
 · have h5 := Nat.mul_lt_mul_of_pos_right h3 (Nat.two_pow_pos (256 - bl m))
   rw [← Nat.pow_add, show bl m + (256 - bl m) = 256 by omega] at h5
   exact h5
def remW (W X M s : Nat) : Nat := X / W ^ s % M
theorem step_gen (h W X M i r q1 r1 q0 : Nat) (hM : 0 < M) (hh : 0 < h) (hW : W = h * h) (hr : r = remW W X M (i + 1))
   (h1 : q1 = (r * h + dgt W X i / h) / M) (h2 : r1 = (r * h + dgt W X i / h) % M) (h3 : q0 = (r1 * h + dgt W X i % h) / M) :
   (r1 * h + dgt W X i % h) % M = remW W X M i ∧ q1 < h ∧ q0 < h ∧ q1 * h + q0 = dgt W (X / M) i := by
 have hrM : r < M := by rw [hr]; exact Nat.mod_lt _ hM
 have hr1M : r1 < M := by rw [h2]; exact Nat.mod_lt _ hM
 have hWp : 0 < W := by rw [hW]; exact Nat.mul_pos hh hh
 have hx := dgt_lt hWp X i
 generalize hxi : dgt W X i = x at *
 have hxh : x / h < h := by rw [Nat.div_lt_iff_lt_mul hh, ← hW]; exact hx
 have hxl : x % h < h := Nat.mod_lt _ hh
 have hq1 : q1 < h := by
   rw [h1, Nat.div_lt_iff_lt_mul hM]
   have := Nat.mul_le_mul_right h (show r + 1 ≤ M from hrM)
   rw [Nat.add_mul, Nat.one_mul, Nat.mul_comm M] at this
   omega
 have hq0 : q0 < h := by
   rw [h3, Nat.div_lt_iff_lt_mul hM]
   have := Nat.mul_le_mul_right h (show r1 + 1 ≤ M from hr1M)
   rw [Nat.add_mul, Nat.one_mul, Nat.mul_comm M] at this
   omega
 have e0 : X / W ^ i = X / W ^ (i + 1) * W + x := by
   have g1 := Nat.mod_add_div (X / W ^ i) W
   have g2 : X / W ^ i / W = X / W ^ (i + 1) := by rw [Nat.div_div_eq_div_mul, Nat.pow_succ]
   rw [g2] at g1
   rw [← hxi, Nat.mul_comm (X / W ^ (i + 1))]
   exact g1.symm.trans (Nat.add_comm _ _)
 have e1 := Nat.mod_add_div (X / W ^ (i + 1)) M
 have e2 := Nat.mod_add_div (r * h + x / h) M
 have e3 := Nat.mod_add_div (r1 * h + x % h) M
 have e4 := Nat.mod_add_div x h
 have hr0 := Nat.mod_lt (r1 * h + x % h) hM
 have hrr : X / W ^ (i + 1) % M = r := hr.symm
 rw [hrr] at e1
 rw [← h1, ← h2] at e2
 rw [← h3] at e3
 generalize (r1 * h + x % h) % M = r0 at *
 generalize hK : X / W ^ (i + 1) / M = K at *
 have key : X / W ^ i = r0 + M * (K * W + (q1 * h + q0)) := by
   rw [e0, ← e1, hW]
   have a1 : (r + M * K) * (h * h) + x = (r * h + x / h) * h + x % h + M * K * (h * h) := by
     rw [Nat.add_mul, Nat.add_mul]
     have : r * (h * h) = r * h * h := by rw [Nat.mul_assoc]
     rw [this]
     have : x / h * h = h * (x / h) := Nat.mul_comm _ _
     omega
   rw [a1, ← e2, Nat.add_mul r1]
   have a2 : r1 * h + M * q1 * h + x % h = (r1 * h + x % h) + M * q1 * h := by omega
   rw [a2, ← e3, Nat.mul_add, Nat.mul_add]
   have a3 : M * K * (h * h) = M * (K * (h * h)) := Nat.mul_assoc _ _ _
   have a4 : M * q1 * h = M * (q1 * h) := Nat.mul_assoc _ _ _
   omega
 have hmod : X / W ^ i % M = r0 := by rw [key, Nat.add_mul_mod_self_left, Nat.mod_eq_of_lt hr0]
 have hdiv : X / W ^ i / M = K * W + (q1 * h + q0) := by rw [key, Nat.add_mul_div_left _ _ hM, Nat.div_eq_of_lt hr0, Nat.zero_add]
 refine ⟨hmod.symm, hq1, hq0, ?_⟩
 have hlt : q1 * h + q0 < W := by
   have := Nat.mul_le_mul_right h (show q1 + 1 ≤ h from hq1)
   rw [Nat.add_mul, Nat.one_mul, ← hW] at this
   omega
 have hc : X / M / W ^ i = X / W ^ i / M := by rw [Nat.div_div_eq_div_mul, Nat.div_div_eq_div_mul, Nat.mul_comm]
 unfold dgt
 rw [hc, hdiv, Nat.add_comm (K * W), Nat.add_mul_mod_self_right, Nat.mod_eq_of_lt hlt]
def quoW (Q s : Nat) : List Nat := tell (fun j => if s ≤ j then dgt (2 ^ 64) Q j else 0) 8
theorem quoW_len (Q s : Nat) : (quoW Q s).length = 8 := tell_length _ _
theorem quoW_top (Q : Nat) : quoW Q 8 = zeros 8 := by
 have : quoW Q 8 = tell (fun _ => 0) 8 := tell_congr fun i hi => if_neg (by omega)
 rw [this]; rfl
theorem quoW_all (Q : Nat) : quoW Q 0 = wds 8 Q := tell_congr fun i hi => if_pos (by omega)
theorem quoW_set (Q i : Nat) (hi : i < 8) : (quoW Q (i + 1)).set i (dgt (2 ^ 64) Q i) = quoW Q i := by
 unfold quoW
 rw [tell_set]
 refine tell_congr fun j hj => ?_
 by_cases h : j = i
 · rw [if_pos h, if_pos (by omega), h]
 · rw [if_neg h]
   by_cases h2 : i + 1 ≤ j
   · rw [if_pos h2, if_pos (by omega)]
   · rw [if_neg h2, if_neg (by omega)]
theorem rem_top (X n M : Nat) (hX : X < 2 ^ 256 * 2 ^ 256) (hM : 2 ^ n ≤ M) : X * 2 ^ n / 2 ^ 256 / 2 ^ 256 = remW (2 ^ 64) (X * 2 ^ n) M 8 := by
 unfold remW
 have e : (2 ^ 64) ^ 8 = 2 ^ 256 * 2 ^ 256 := by rw [show (8 : Nat) = 4 + 4 from rfl, Nat.pow_add, pow256]
 rw [e, ← Nat.div_div_eq_div_mul, Nat.mod_eq_of_lt]
 refine Nat.lt_of_lt_of_le ?_ hM
 rw [Nat.div_div_eq_div_mul, Nat.div_lt_iff_lt_mul (Nat.mul_pos (Nat.two_pow_pos 256) (Nat.two_pow_pos 256)), Nat.mul_comm (2 ^ n)]
 exact Nat.mul_lt_mul_of_pos_right hX (Nat.two_pow_pos n)
theorem rem_end (X m n : Nat) : remW (2 ^ 64) (X * 2 ^ n) (m * 2 ^ n) 0 = X % m * 2 ^ n := by
 unfold remW; rw [Nat.pow_zero, Nat.div_one, Nat.mul_mod_mul_right]
theorem quo_end (X m n : Nat) : X * 2 ^ n / (m * 2 ^ n) = X / m := Nat.mul_div_mul_right _ _ (Nat.two_pow_pos n)
theorem pow_le_norm (m n : Nat) (h : m ≠ 0) : 2 ^ n ≤ m * 2 ^ n := Nat.le_mul_of_pos_left _ (by omega)
section
variable {w : World} {o : Oper} {a : Act} {K : Act → World → Prop} {Q : Exit → Act → World → Prop}
theorem wst24 (x y : Operand) (ho : o.op = .store 24 x y) (g : Nat) (hx : a.eval x = .pointer (some ⟨g, 0, none⟩)) (l : List Nat) (hy : a.eval y = .agg (natsV .u64 l).toArray) (hl : l.length = 4) (old : List Nat) (hg : Blk w g 24 (natsV .u64 old)) (ho4 : old.length = 4)
   (h : K (a.put o.dst undef) (w.setRow g (natsV .u64 l).toArray)) : o.wp Try.prog a w K Q :=
 wp_store_row 24 x y ho g (natsV .u64 l).toArray hx hy 24 (natsV .u64 old).toArray hg (by rw [info24, size_nats, hl]) (by rw [size_nats, size_nats, hl, ho4]) (all_nats _ _) h
theorem wst26 (x y : Operand) (ho : o.op = .store 103 x y) (g : Nat) (hx : a.eval x = .pointer (some ⟨g, 0, none⟩)) (l : List Nat) (hy : a.eval y = .agg (natsV .u64 l).toArray) (hl : l.length = 8) (old : List Nat) (hg : Blk w g 103 (natsV .u64 old)) (ho4 : old.length = 8)
   (h : K (a.put o.dst undef) (w.setRow g (natsV .u64 l).toArray)) : o.wp Try.prog a w K Q :=
 wp_store_row 103 x y ho g (natsV .u64 l).toArray hx hy 103 (natsV .u64 old).toArray hg (by rw [info26, size_nats, hl]) (by rw [size_nats, size_nats, hl, ho4]) (all_nats _ _) h
end
theorem range_keepV {w w' : World} {g : Nat} {vs : List Value} (h : w.rangeAt g 0 vs) (hb : Below w.heap.size w w') : w'.rangeAt g 0 vs := by
 intro j v hv
 have h1 := h j v hv
 exact (hb.cell (World.block_lt_of_cell? w _ h1)).trans h1
theorem blk_rangeV {w : World} {G : Nat} {t : TypeId} {vs : List Value} (h : Blk w G t vs) : w.rangeAt G 0 vs := by
 intro j v hv
 rw [Nat.zero_add, h.cell, hv]
theorem wds8_join (a b : Nat) (ha : a < 2 ^ 256) : wds 8 (a + 2 ^ 256 * b) = wds 4 a ++ wds 4 b := by
 have h1 : ∀ i, i < 4 → dgt (2 ^ 64) (a + 2 ^ 256 * b) i = dgt (2 ^ 64) a i := by
   intro i hi
   have h : (tell (dgt (2 ^ 64) ((a + 2 ^ 256 * b) % (2 ^ 64) ^ 4)) 4).getD i 0 = (tell (dgt (2 ^ 64) (a + 2 ^ 256 * b)) 4).getD i 0 := by rw [tell_mod (2 ^ 64) (a + 2 ^ 256 * b) 4 4 (Nat.le_refl _)]
   rw [tell_getD _ _ _ hi, tell_getD _ _ _ hi, show (2 ^ 64) ^ 4 = 2 ^ 256 from by rw [← Nat.pow_mul], Nat.add_mul_mod_self_left, Nat.mod_eq_of_lt ha] at h
   exact h.symm
 have h2 : ∀ i, dgt (2 ^ 64) (a + 2 ^ 256 * b) (4 + i) = dgt (2 ^ 64) b i := by
   intro i
   unfold dgt
   have e : (a + 2 ^ 256 * b) / (2 ^ 64) ^ 4 = b := by
     rw [show (2 ^ 64) ^ 4 = 2 ^ 256 from by rw [← Nat.pow_mul], Nat.add_mul_div_left _ _ (Nat.two_pow_pos 256), Nat.div_eq_of_lt ha, Nat.zero_add]
   rw [Nat.pow_add, ← Nat.div_div_eq_div_mul, e]
 show [_, _, _, _, _, _, _, _] = [_, _, _, _] ++ [_, _, _, _]
 simp only [List.cons_append, List.nil_append, List.cons.injEq, and_true]
 exact ⟨h1 0 (by decide), h1 1 (by decide), h1 2 (by decide), h1 3 (by decide), h2 0, h2 1, h2 2, h2 3⟩
theorem sp0 (la : List Nat) (h : la.length = 4) : splice (natsV .u64 (zeros 8)) 0 (natsV .u64 la) = natsV .u64 (la ++ zeros 4) := by
 match la, h with
 | [a, b, c, d], _ => rfl
theorem sp4 (la lb : List Nat) (h : la.length = 4) (h2 : lb.length = 4) : splice (natsV .u64 (la ++ zeros 4)) 4 (natsV .u64 lb) = natsV .u64 (la ++ lb) := by
 match la, lb, h, h2 with
 | [a, b, c, d], [e, f, g, i], _, _ => rfl
theorem src_of {w : World} {g t : Nat} {l : List Nat} (h : Blk w g t (natsV .u64 l)) (n : Nat) : ∀ j v, (natsV .u64 l)[j]? = some v → w.cell? ((⟨g, 0, none⟩ : Addr).add j) = some v := by
 intro j v hv
 rcases j with _ | j
 · have := h.cell 0; rw [hv] at this; simpa [Addr.add] using this
 · have := h.cell (j + 1); rw [hv] at this; simpa [Addr.add] using this
theorem join_any (a b : Nat) (w : World) (ha : a < 2 ^ 256) :
   Calls Try.prog 97 #[.agg (natsV .u64 (wds 4 a)).toArray, .agg (natsV .u64 (wds 4 b)).toArray] w fun e w' => e = .returned (.agg (natsV .u64 (wds 8 (a + 2 ^ 256 * b))).toArray) ∧ Below w.heap.size w w' := by
 rw [wds8_join a b ha]
 have LA := Hd (wds_len 4 a)
 have LB := Hd (wds_len 4 b)
 clear ha
 generalize wds 4 a = la at *
 generalize wds 4 b = lb at *
 have NA := Hd (show (natsV .u64 la).length = Nat.min 4 8 by rw [natsV_length, LA.out]; rfl)
 have NB := Hd (show (natsV .u64 lb).length = Nat.min 4 4 by rw [natsV_length, LB.out]; rfl)
 have FA := Hd (show 0 + (natsV .u64 la).length ≤ (natsV .u64 (zeros 8)).length by rw [natsV_length, LA.out]; decide)
 have FB := Hd (show 4 + (natsV .u64 lb).length ≤ (natsV .u64 (la ++ zeros 4)).length by rw [natsV_length, natsV_length, List.length_append, LB.out, LA.out]; decide)
 have L8 := Hd (show (la ++ lb).length = 8 by rw [List.length_append, LA.out, LB.out])
 have S0 := Hd (sp0 la LA.out)
 have S4 := Hd (sp4 la lb LA.out LB.out)
 obtain ⟨ls, hls⟩ : ∃ ls, ls = la ++ lb := ⟨_, rfl⟩
 rw [← hls] at S4 L8 ⊢
 have B1 := Hd ((((Blk.new w 24 (natsV .u64 la)).alloc (.cells (natsV .u64 lb).toArray 24)).alloc (.cells (natsV .u64 (zeros 8)).toArray 103)).alloc (.cells (natsV .u64 (zeros 8)).toArray 103))
 have B2 := Hd (((Blk.new2 w (.cells (natsV .u64 la).toArray 24) 24 (natsV .u64 lb)).alloc (.cells (natsV .u64 (zeros 8)).toArray 103)).alloc (.cells (natsV .u64 (zeros 8)).toArray 103))
 have B3 := Hd ((Blk.new3 w (.cells (natsV .u64 la).toArray 24) (.cells (natsV .u64 lb).toArray 24) 103 (natsV .u64 (zeros 8))).alloc (.cells (natsV .u64 (zeros 8)).toArray 103))
 have B4 := Hd (Blk.new4 w (.cells (natsV .u64 la).toArray 24) (.cells (natsV .u64 lb).toArray 24) (.cells (natsV .u64 (zeros 8)).toArray 103) 103 (natsV .u64 (zeros 8)))
 clear hls
 have BEL := Hd (((((Below.refl w.heap.size w).alloc (Nat.le_refl _) (.cells (natsV .u64 la).toArray 24)).alloc (by simp) (.cells (natsV .u64 lb).toArray 24)).alloc (by simp; omega) (.cells (natsV .u64 (zeros 8)).toArray 103)).alloc (by simp; omega) (.cells (natsV .u64 (zeros 8)).toArray 103))
 go_enter Try.func97, Try.ntmps97
 go_wp2_with fail
 refine wp_region_held_drew (S := (fun w' => True)) (by kernel_rfl) trivial (fun hHeld => ?_)
 refine th1 0 rfl hHeld ?_
 try simp only [Act.put, zq]
 refine th1 1 rfl hHeld ?_
 try simp only [Act.put, zq]
 refine wpAnyH_ready (rs := [2]) (by kernel_rfl) (by simp) ?_
 refine AllReadyH.cons (o := _) rfl (fun K hK => ?_) AllReadyH.nil
 refine step_copy_splice rfl (.tmp 6) (.tmp 7) 109 109 rfl 22 Try.underlying109 info22 (some ⟨w.heap.size + 1 + 1 + 1, 0, none⟩) (some ⟨w.heap.size, 0, none⟩) 8 8 4 4 rfl rfl (w.heap.size + 1 + 1 + 1) 0 (natsV .u64 (zeros 8)) 103 B4.out.drew (natsV .u64 la) NA.out (fun _ => ⟨rfl, _, rfl, src_of B1.out.drew 0⟩) FA.out n1' (w.heap.size + 1 + 1 + 1) _ (Below.refl _ _) (Nat.le_refl _) ?_
 intro w4 hg4 hb4
 refine hK.out _ _ trivial (fun _ => ?_)
 clear hK K hHeld
 refine wpAnyH_done (by kernel_rfl) ?_ _
 have C4 := Hd (show Blk w4 (w.heap.size + 1 + 1 + 1) 103 (natsV .u64 (la ++ zeros 4)) from by rw [← S0.out]; exact hg4.out)
 have C2 := Hd (B2.out.drew.below hb4 (by omega))
 have C3 := Hd (B3.out.drew.below hb4 (by omega))
 have bel4 := BEL.out.drew.trans (hb4.mono (by omega))
 clear hg4 hb4 B1 B2 B3 B4 BEL
 go_wp2_with fail
 refine wp_region_held_drew (S := (fun w' => True)) (by kernel_rfl) trivial (fun hHeld => ?_)
 refine th1 0 rfl hHeld ?_
 try simp only [Act.put, zq]
 refine th1 1 rfl hHeld ?_
 try simp only [Act.put, zq]
 refine wpAnyH_ready (rs := [2]) (by kernel_rfl) (by simp) ?_
 refine AllReadyH.cons (o := _) rfl (fun K hK => ?_) AllReadyH.nil
 refine step_copy_splice rfl (.tmp 9) (.tmp 10) 109 109 rfl 22 Try.underlying109 info22 (some ⟨w.heap.size + 1 + 1 + 1, 4, none⟩) (some ⟨(w.heap.size + 1), 0, none⟩) 4 4 4 4 rfl rfl (w.heap.size + 1 + 1 + 1) 4 (natsV .u64 (la ++ zeros 4)) 103 C4.out.drew (natsV .u64 lb) NB.out (fun _ => ⟨rfl, _, rfl, src_of C2.out.drew 0⟩) FB.out n1' (w.heap.size + 1 + 1 + 1) _ (Below.refl _ _) (Nat.le_refl _) ?_
 intro w5 hg5 hb5
 refine hK.out _ _ trivial (fun _ => ?_)
 clear hK K hHeld
 refine wpAnyH_done (by kernel_rfl) ?_ _
 have D4 := Hd (show Blk w5 (w.heap.size + 1 + 1 + 1) 103 (natsV .u64 ls) from by rw [← S4.out]; exact hg5.out)
 have D3 := Hd (C3.out.drew.below hb5 (by omega))
 have bel5 := bel4.drew.trans (hb5.mono (by omega))
 have j2 := D3.out.setRow (natsV .u64 ls)
 have hb2 := below_setRow' bel5 (show w.heap.size ≤ w.heap.size + 1 + 1 by omega) (natsV .u64 ls).toArray
 clear hg5 hb5 C2 C3 C4 bel4
 go_wp2_with (first | (refine ld26 rfl (.tmp 5) rfl (w.heap.size + 1 + 1 + 1) rfl ls D4.out L8.out ?_) | (refine st26 rfl (.tmp 4) (.tmp 12) rfl (w.heap.size + 1 + 1) rfl ls rfl L8.out (zeros 8) D3.out rfl ?_))
 refine bodyPost_ret (v := .agg (natsV .u64 ls).toArray) ?_ rfl ⟨rfl, hb2⟩
 exact results_cell_row Try.results97 _ _ (w.heap.size + 1 + 1) 103 _ (0, 0) _ rfl j2 Try.underlying103 rfl (by rw [info26, size_nats, L8.out])
end Go.Proofs.Ytdkkombpkojjaaa
