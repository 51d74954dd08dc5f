/- The project takes a number times a word. Condition: 256 bits, a word. -/
import Derived.Test.YtfffmoolkgheaaaMa
import Derived.Test.YtfffmoolkgheaaaD
namespace Go.Proofs.Ytfffmoolkgheaaa
open Go.RowKit
set_option linter.unusedVariables false
set_option linter.unusedSimpArgs false
/-- the carry of a number times a word, at word i -/
def cyM (x q i : Nat) : Nat := (x % (2 ^ 64) ^ i * q) / (2 ^ 64) ^ i
theorem cyM_zero (x q : Nat) : cyM x q 0 = 0 := by simp [cyM, Nat.mod_one]
theorem cyM_gen (W x q i : Nat) (hW : 0 < W) : (x % W ^ (i + 1) * q) / W ^ (i + 1) = (dgt W x i * q + (x % W ^ i * q) / W ^ i) / W := by
  have hM := Nat.pow_pos (n := i) hW
  rw [mod_pow_succ, Nat.pow_succ, ← Nat.div_div_eq_div_mul, Nat.add_mul, Nat.mul_assoc, Nat.add_mul_div_left _ _ hM, Nat.add_comm]
theorem dgtM_gen (W x q i : Nat) (hW : 0 < W) : dgt W (x * q) i = (dgt W x i * q + (x % W ^ i * q) / W ^ i) % W := by
  have hM := Nat.pow_pos (n := i) hW
  have e : x * q = x % W ^ i * q + W ^ i * (x / W ^ i * q) := by
    conv => lhs; rw [← Nat.mod_add_div x (W ^ i)]
    rw [Nat.add_mul, Nat.mul_assoc]
  unfold dgt
  conv => lhs; rw [e, Nat.add_mul_div_left _ _ hM, Nat.add_comm]
  have hX : (x / W ^ i * q) % W = (x / W ^ i % W * q) % W := by
    conv => lhs; rw [← Nat.mod_add_div (x / W ^ i) W, Nat.add_mul, Nat.mul_assoc, Nat.add_mul_mod_self_left]
  rw [Nat.add_mod, hX, ← Nat.add_mod]
theorem cyM_lt (x q i : Nat) (hq : q < 2 ^ 64) : cyM x q i < 2 ^ 64 := by
  unfold cyM
  have hM := Nat.pow_pos (n := i) (show 0 < 2 ^ 64 by decide)
  rw [Nat.div_lt_iff_lt_mul hM, Nat.mul_comm (2 ^ 64)]
  exact Nat.mul_lt_mul_of_lt_of_le (Nat.mod_lt _ hM) (Nat.le_of_lt hq) (by decide)
theorem cyM_succ (x q i : Nat) : cyM x q (i + 1) = mhi (dgt (2 ^ 64) x i) q 0 (cyM x q i) := by
  unfold cyM mhi
  rw [cyM_gen _ _ _ _ (by decide), Nat.add_zero]
theorem dgtM (x q i : Nat) : dgt (2 ^ 64) (x * q) i = mlo (dgt (2 ^ 64) x i) q 0 (cyM x q i) := by
  unfold mlo
  rw [dgtM_gen _ _ _ _ (by decide), Nat.add_zero]; rfl
theorem cyM_top (x q : Nat) (hx : x < 2 ^ 256) : cyM x q 4 = x * q / 2 ^ 256 := by
  unfold cyM; rw [pow256, Nat.mod_eq_of_lt hx]
set_option maxRecDepth 100000 in
set_option maxHeartbeats 1600000 in
theorem times_any (x q : Nat) (w : World) (hx : x < 2 ^ 256) (hq : q < 2 ^ 64) :
    Calls Try.prog 124 #[.agg (natsV .u64 (wds 4 x)).toArray, .int .u64 (q : Nat)] w fun e w' => e = .returned (.tuple #[.agg (natsV .u64 (wds 4 (x * q))).toArray, .int .u64 (cyM x q 4 : Nat)]) ∧ Below w.heap.size w w' := by
  have LA := Lib.hid (wds_len 4 x)
  have AA := Lib.hid (wds_at 4 x)
  have LS := Lib.hid (wds_len 4 (x * q))
  have AS := Lib.hid (wds_at 4 (x * q))
  generalize wds 4 (x * q) = ls at *
  generalize wds 4 x = la at *
  have B1 := Lib.hid ((Blk.new w 24 (natsV .u64 la)).alloc (.cells (natsV .u64 (zeros 4)).toArray 24))
  have B2 := Lib.hid (Blk.new2 w (.cells (natsV .u64 la).toArray 24) 24 (natsV .u64 (zeros 4)))
  have BEL := Lib.hid (((Below.refl w.heap.size w).alloc (Nat.le_refl _) (.cells (natsV .u64 la).toArray 24)).alloc (by simp) (.cells (natsV .u64 (zeros 4)).toArray 24))
  have C0 := Lib.hid (cyM_zero x q)
  obtain ⟨cf, hcf⟩ : ∃ cf, cf = cyM x q 4 := ⟨_, rfl⟩
  rw [← hcf]
  have HCF := Lib.hid hcf
  clear hcf
  go_enter Try.func124, Try.ntmps124
  go_wp2_with (refine ld24 rfl (.tmp 2) rfl w.heap.size rfl la B1.out LA.out ?_)
  go_loopw [6, 10] (fun cc i wr => ∃ t : Nat, t ≤ 4 ∧ i = .int .i64 t ∧ cc = .int .u64 (cyM x q t : Nat) ∧ Blk wr w.heap.size 24 (natsV .u64 (ls.take t ++ la.drop t)) ∧ Blk wr (w.heap.size + 1) 24 (natsV .u64 (zeros 4)) ∧ Below w.heap.size w wr) (fun _ i _ => 4 - (intOf i).toNat)
  case atStart => exact ⟨0, by omega, rfl, by rw [C0.out]; rfl, B1.out, B2.out, BEL.out⟩
  case round =>
    clear B1 B2 BEL C0
    obtain ⟨t, ht, rfl, rfl, k1, k2, hbel⟩ := hrel
    have K1 := Lib.hid k1
    have K2 := Lib.hid k2
    clear k1 k2
    by_cases h5 : t < 4
    · as_aux_lemma =>
      have hti : (t : Int) < 4 := by omega
      have ix := fun w0 => index_nats (P := Try.prog) w0 24 22 4 .u64 la t Try.underlying24 Try.underlying22 info22 h5 LA.out
      rw [AA.out t h5] at ix
      have HU := dgt_lt (B := 2 ^ 64) (by decide) x t
      have HCL := cyM_lt x q t hq
      have HC := Lib.hid (fun w => mulAdd_any (dgt (2 ^ 64) x t) q 0 (cyM x q t) w HU hq (by decide) HCL)
      rw [← dgtM, ← cyM_succ] at HC
      have HSET := Lib.hid (mix_set ls la t 4 LS.out LA.out h5)
      rw [AS.out t h5] at HSET
      have c0 := K1.out.nat t (by rw [mix_len ls la t 4 LS.out LA.out ht]; exact h5)
      have f0 := K1.out.free t
      generalize dgt (2 ^ 64) (x * q) t = lo at *
      generalize dgt (2 ^ 64) x t = u at *
      generalize cyM x q t = cy at *
      obtain ⟨hi, hhi⟩ : ∃ hi, hi = cyM x q (t + 1) := ⟨_, rfl⟩
      rw [← hhi] at HC
      have HHI := Lib.hid hhi
      clear hhi
      rw [show ((0 : Nat) : Int) = 0 from rfl] at HC
      go_wp2_with fail
      refine (HC.out _).mono ?_
      rintro e w1 ⟨rfl, rfl⟩
      have n1 := Lib.hid (K1.out.natSet t lo)
      have n2 := Lib.hid (K2.out.other ⟨w.heap.size, t, none⟩ (.int .u64 (lo : Nat)) (by simp))
      have hb2 := hbel.setCell (p := ⟨w.heap.size, t, none⟩) (by simp) (.int .u64 (lo : Nat))
      rw [HSET.out] at n1
      clear K1 K2 hbel ix
      go_wp2_with fail
      go_roundw
      case rel => exact ⟨t + 1, by omega, by go_num, by rw [HHI.out], n1.out, n2.out, hb2⟩
      case measure => simp [intOf] <;> omega
    · obtain rfl : t = 4 := by omega
      rw [show ((4 : Nat) : Int) = 4 from rfl]
      have LE := Lib.hid (show ls.take 4 ++ la.drop 4 = ls by rw [List.take_of_length_le (by rw [LS.out]; decide), List.drop_of_length_le (by rw [LA.out]; decide), List.append_nil])
      rw [LE.out] at K1
      rw [← HCF.out]
      have j2 := K2.out.setRow (natsV .u64 ls)
      have hb2 := below_setRow' hbel (show w.heap.size ≤ w.heap.size + 1 by omega) (natsV .u64 ls).toArray
      go_wp2_with (first | (refine ld24 rfl (.tmp 2) rfl w.heap.size rfl ls K1.out LS.out ?_) | (refine st24 rfl (.tmp 4) (.tmp 24) rfl (w.heap.size + 1) rfl ls rfl LS.out (zeros 4) K2.out rfl ?_))
      refine bodyPost_ret (v := .tuple #[.agg (natsV .u64 ls).toArray, .int .u64 (cf : Nat)]) ?_ rfl ⟨rfl, hb2⟩
      exact ret24x Try.results124 _ _ (w.heap.size + 1) ls _ rfl rfl j2 LS.out
end Go.Proofs.Ytfffmoolkgheaaa
