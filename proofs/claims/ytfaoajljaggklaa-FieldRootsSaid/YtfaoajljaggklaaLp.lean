/- The document's way from a form to its number. Condition: the sizes of the arguments. -/
import Derived.Test.YtfaoajljaggklaaLr
namespace Go.Proofs.Ytfaoajljaggklaa
open Go.RowKit
set_option linter.unusedVariables false
set_option linter.unusedSimpArgs false
def hf (m x : Nat) : Nat := if x % 2 = 1 then (x + m) / 2 else x / 2
def hfs (m x : Nat) : Nat → Nat | 0 => x | n + 1 => hf m (hfs m x n)
theorem hf_lt (m x : Nat) (h : x < m) : hf m x < m := by unfold hf; split <;> omega
theorem hfs_lt (m x : Nat) (h : x < m) (n : Nat) : hfs m x n < m := by
  induction n with
  | zero => exact h
  | succ n ih => exact hf_lt m _ ih
theorem Fld.odd {m f v : Nat} (H : Fld m f v) : m % 2 = 1 := by
  have h := H.neg
  rcases Nat.mod_two_eq_zero_or_one m with h0 | h0
  · exfalso
    have h1 : m * f % 2 = 0 := by rw [Nat.mul_mod, h0, Nat.zero_mul]
    omega
  · exact h0
theorem hf_twice (m x : Nat) (hm : m % 2 = 1) : hf m x * 2 % m = x % m := by
  unfold hf
  split
  · rw [show (x + m) / 2 * 2 = x + m by omega, Nat.add_mod_right]
  · rw [show x / 2 * 2 = x by omega]
theorem hfs_pow (m x : Nat) (hm : m % 2 = 1) (n : Nat) : hfs m x n * 2 ^ n % m = x % m := by
  induction n with
  | zero => simp [hfs]
  | succ n ih =>
    rw [Nat.pow_succ, Nat.mul_comm (2 ^ n) 2, ← Nat.mul_assoc, ← mulmod_left]
    show hf m (hfs m x n) * 2 % m * 2 ^ n % m = _
    rw [hf_twice m _ hm, mulmod_left, ih]
theorem hfs_end {m f v : Nat} (H : Fld m f v) (x : Nat) (hx : x < m) : hfs m x 256 = ofF m v x := by
  have h := hfs_pow m x H.odd 256
  have h2 : hfs m x 256 * 2 ^ 256 * v % m = x * v % m := by rw [← mulmod_left, h, mulmod_left]
  rw [Nat.mul_assoc, Nat.mul_comm (2 ^ 256) v, ← mulmod_right, H.inv, Nat.mul_one, Nat.mod_eq_of_lt (hfs_lt m x hx 256)] at h2
  exact h2
theorem dgt_half (y i : Nat) : dgt (2 ^ 64) (y / 2) i = dgt (2 ^ 64) y i / 2 + 9223372036854775808 * (dgt (2 ^ 64) y (i + 1) % 2) := by
  unfold dgt
  have ep : (2 ^ 64) ^ (i + 1) = (2 ^ 64) ^ i * 2 ^ 64 := Nat.pow_succ _ _
  rw [ep, ← Nat.div_div_eq_div_mul, Nat.div_div_eq_div_mul, Nat.mul_comm 2, ← Nat.div_div_eq_div_mul]
  generalize y / (2 ^ 64) ^ i = z
  show z / 2 % 18446744073709551616 = z % 18446744073709551616 / 2 + 9223372036854775808 * (z / 18446744073709551616 % 18446744073709551616 % 2)
  omega
theorem half_wds (y ov : Nat) (h : dgt (2 ^ 64) y 4 = ov) (ho : ov ≤ 1) : wds 4 (y / 2) = [dgt (2 ^ 64) y 0 / 2 + 9223372036854775808 * (dgt (2 ^ 64) y 1 % 2), dgt (2 ^ 64) y 1 / 2 + 9223372036854775808 * (dgt (2 ^ 64) y 2 % 2), dgt (2 ^ 64) y 2 / 2 + 9223372036854775808 * (dgt (2 ^ 64) y 3 % 2), dgt (2 ^ 64) y 3 / 2 + 9223372036854775808 * ov] := by
  have e : wds 4 (y / 2) = [dgt (2 ^ 64) (y / 2) 0, dgt (2 ^ 64) (y / 2) 1, dgt (2 ^ 64) (y / 2) 2, dgt (2 ^ 64) (y / 2) 3] := rfl
  rw [e, dgt_half, dgt_half, dgt_half, dgt_half, h, Nat.mod_eq_of_lt (show ov < 2 by omega)]
theorem dgt4_low (x : Nat) (h : x < 2 ^ 256) : dgt (2 ^ 64) x 4 = 0 := by
  unfold dgt; rw [pow256, Nat.div_eq_of_lt h]
theorem dgt4_sum (a b : Nat) (ha : a < 2 ^ 256) (hb : b < 2 ^ 256) : dgt (2 ^ 64) (a + b) 4 = addC a b := by
  unfold dgt addC; rw [pow256]; exact Nat.mod_eq_of_lt (by omega)
theorem dgt0_odd (x : Nat) : dgt (2 ^ 64) x 0 % 2 = x % 2 := by
  unfold dgt; rw [Nat.pow_zero, Nat.div_one]
  show x % 18446744073709551616 % 2 = x % 2
  omega
theorem q_half (d h : Nat) (e : h = d / 2) : (d : Int) / 2 = (h : Int) := by omega
theorem s_half (d u : Nat) (e : u = 9223372036854775808 * (d % 2)) : IntKind.u64.wrap ((d : Int) * 9223372036854775808) = (u : Int) := by rw [IntKind.wrap_u64]; omega
theorem a_half (h u n : Nat) (e : n = h + u) (hn : n < 18446744073709551616) : IntKind.u64.wrap ((h : Int) + (u : Int)) = (n : Int) := by rw [IntKind.wrap_u64]; omega
theorem a_half0 (h n : Nat) (e : n = h + 9223372036854775808 * 0) (hn : h < 18446744073709551616) : IntKind.u64.wrap (h : Int) = (n : Int) := by rw [IntKind.wrap_u64]; omega
theorem a_half1 (h n : Nat) (e : n = h + 9223372036854775808 * 1) (hn : n < 18446744073709551616) : IntKind.u64.wrap ((h : Int) + 9223372036854775808) = (n : Int) := by rw [IntKind.wrap_u64]; omega
set_option maxRecDepth 100000 in
set_option maxHeartbeats 1600000 in
theorem Plain_any (x m f v : Nat) (w : World) (H : Fld m f v) (hx : x < m) :
    Calls Try.prog 26 #[.agg (natsV .u64 (wds 4 x)).toArray, .agg (natsV .u64 (wds 4 m)).toArray] w fun e w' => e = .returned (.agg (natsV .u64 (wds 4 (ofF m v x))).toArray) ∧ Below w.heap.size w w' := by
  have hm := H.lt
  rw [← hfs_end H x hx]
  have HLT := Lib.hid (hfs_lt m x hx)
  have HSM := Lib.hid (fun y (hy : y < m) w => dsum_any y m w (by omega) hm)
  have h0 : hfs m x 0 = x := rfl
  rw [show wds 4 x = wds 4 (hfs m x 0) from rfl]
  have HST := Lib.hid (fun i => show hfs m x (i + 1) = hf m (hfs m x i) from rfl)
  have LM := Lib.hid (wds_len 4 m)
  obtain ⟨lm, hlm⟩ : ∃ l, l = wds 4 m := ⟨_, rfl⟩
  rw [← hlm] at HSM LM ⊢
  clear hlm
  obtain ⟨R, hR⟩ : ∃ R : Nat → Nat, R = hfs m x := ⟨_, rfl⟩
  rw [← hR] at HLT HST ⊢
  have LR := Lib.hid (fun i => wds_len 4 (R i))
  clear hR h0 hx H
  have B1 := Lib.hid (((Blk.new w 24 (natsV .u64 (wds 4 (R 0)))).alloc (.cells (natsV .u64 lm).toArray 24)).alloc (.cells (natsV .u64 (zeros 4)).toArray 24))
  have B2 := Lib.hid ((Blk.new2 w (.cells (natsV .u64 (wds 4 (R 0))).toArray 24) 24 (natsV .u64 lm)).alloc (.cells (natsV .u64 (zeros 4)).toArray 24))
  have B3 := Lib.hid (Blk.new3 w (.cells (natsV .u64 (wds 4 (R 0))).toArray 24) (.cells (natsV .u64 lm).toArray 24) 24 (natsV .u64 (zeros 4)))
  have BEL := Lib.hid ((((Below.refl w.heap.size w).alloc (Nat.le_refl _) (.cells (natsV .u64 (wds 4 (R 0))).toArray 24)).alloc (by simp) (.cells (natsV .u64 lm).toArray 24)).alloc (by simp; omega) (.cells (natsV .u64 (zeros 4)).toArray 24))
  have hL0 := LR.out 0
  go_enter Try.func26, Try.ntmps26
  go_wp2_with fail
  go_loopw [5] (fun i wr => ∃ s : Nat, s ≤ 256 ∧ i = .int .i64 s ∧ Blk wr w.heap.size 24 (natsV .u64 (wds 4 (R s))) ∧ Blk wr (w.heap.size + 1) 24 (natsV .u64 lm) ∧ Blk wr (w.heap.size + 1 + 1) 24 (natsV .u64 (zeros 4)) ∧ Below w.heap.size w wr) (fun i _ => 256 - (intOf i).toNat)
  case atStart => exact ⟨0, by omega, rfl, B1.out, B2.out, B3.out, BEL.out⟩
  case round =>
    clear B1 B2 B3 BEL
    obtain ⟨s, hs, rfl, k1, k2, k3, hbel⟩ := hrel
    have K1 := Lib.hid k1
    have K2 := Lib.hid k2
    have K3 := Lib.hid k3
    clear k1 k2 k3
    have hL := LR.out s
    have hL1 := LR.out (s + 1)
    by_cases h5 : s < 256
    · have hti : (s : Int) < 256 := by omega
      have hlt := HLT.out s
      have hsx := HST.out s
      have HSM2 := Lib.hid (HSM.out (R s) hlt)
      have e0 := dgt0_odd (R s)
      have ax := wds_at 4 (R s)
      obtain ⟨l1, hl1⟩ : ∃ l, l = wds 4 (R (s + 1)) := ⟨_, rfl⟩
      rw [← hl1] at hL1
      rw [hsx] at hl1
      have HL1 := Lib.hid (show l1 = wds 4 (R (s + 1)) by rw [hl1, hsx])
      clear HSM HLT HST LR hsx
      by_cases hodd : R s % 2 = 1
      · rw [show hf m (R s) = (R s + m) / 2 from if_pos hodd] at hl1
        rw [hodd] at e0
        have d4 := dgt4_sum (R s) m (by omega) hm
        have ay := wds_at 4 (R s + m)
        have ly := wds_len 4 (R s + m)
        have c0 := K1.out.nat 0 (by rw [hL]; omega)
        rw [ax 0 (by omega)] at c0
        have hcy : addC (R s) m ≤ 1 := by unfold addC; omega
        generalize addC (R s) m = cy at *
        generalize dgt (2 ^ 64) (R s) 0 = d0 at *
        generalize R s + m = y at *
        have hl2 := half_wds y cy d4 hcy
        rw [← hl1] at hl2
        clear hl1 d4
        have z0 := dgt_lt (B := 2 ^ 64) (by decide) y 0
        have z1 := dgt_lt (B := 2 ^ 64) (by decide) y 1
        have z2 := dgt_lt (B := 2 ^ 64) (by decide) y 2
        have z3 := dgt_lt (B := 2 ^ 64) (by decide) y 3
        have a0 := ay 0 (by omega)
        have a1 := ay 1 (by omega)
        have a2 := ay 2 (by omega)
        have a3 := ay 3 (by omega)
        clear ay ax
        generalize wds 4 y = lY at *
        generalize dgt (2 ^ 64) y 0 = y0 at *
        generalize dgt (2 ^ 64) y 1 = y1 at *
        generalize dgt (2 ^ 64) y 2 = y2 at *
        generalize dgt (2 ^ 64) y 3 = y3 at *
        have hi0 : (d0 : Int) % 2 = 1 := by omega
        generalize wds 4 (R s) = l0 at *
        go_wp2_with (first | (refine ld24 rfl (.tmp 2) rfl w.heap.size rfl l0 K1.out hL ?_) | (refine ld24 rfl (.tmp 3) rfl (w.heap.size + 1) rfl lm K2.out LM.out ?_))
        refine (HSM2.out _).mono ?_
        rintro e w21 ⟨rfl, hbw21⟩
        have C22 := Lib.hid (K1.out.below' hbw21)
        have C23 := Lib.hid (K2.out.below' hbw21)
        have C24 := Lib.hid (K3.out.below' hbw21)
        have hbel25 := hbel.trans (hbw21.mono hbel.size)
        clear K1 K2 K3 hbw21 hbel
        clear c0
        have hz27 := Lib.hid (below_setRow' hbel25 (show w.heap.size ≤ w.heap.size by first | exact Nat.le_refl _ | omega) (natsV .u64 lY).toArray)
        have Y28 := Lib.hid (C23.out.row (natsV .u64 lY).toArray (show (w.heap.size + 1) ≠ w.heap.size by first | omega | assumption | exact Ne.symm (by assumption)))
        have Y29 := Lib.hid (C24.out.row (natsV .u64 lY).toArray (show (w.heap.size + 1 + 1) ≠ w.heap.size by first | omega | assumption | exact Ne.symm (by assumption)))
        have Y30 := Lib.hid (C22.out.setRow (natsV .u64 lY))
        by_cases hov : cy = 1
        · as_aux_lemma =>
          obtain rfl : cy = 1 := hov
          have hdc : decide (1 = 1) = true := by decide
          rw [hdc]
          clear hdc
          obtain ⟨h0, hh0⟩ : ∃ z, z = y0 / 2 := ⟨_, rfl⟩
          obtain ⟨h1, hh1⟩ : ∃ z, z = y1 / 2 := ⟨_, rfl⟩
          obtain ⟨h2, hh2⟩ : ∃ z, z = y2 / 2 := ⟨_, rfl⟩
          obtain ⟨h3, hh3⟩ : ∃ z, z = y3 / 2 := ⟨_, rfl⟩
          obtain ⟨u1, hu1⟩ : ∃ z, z = 9223372036854775808 * (y1 % 2) := ⟨_, rfl⟩
          obtain ⟨u2, hu2⟩ : ∃ z, z = 9223372036854775808 * (y2 % 2) := ⟨_, rfl⟩
          obtain ⟨u3, hu3⟩ : ∃ z, z = 9223372036854775808 * (y3 % 2) := ⟨_, rfl⟩
          obtain ⟨n0, hn0⟩ : ∃ z, z = h0 + u1 := ⟨_, rfl⟩
          obtain ⟨n1, hn1⟩ : ∃ z, z = h1 + u2 := ⟨_, rfl⟩
          obtain ⟨n2, hn2⟩ : ∃ z, z = h2 + u3 := ⟨_, rfl⟩
          obtain ⟨n3, hn3⟩ : ∃ z, z = h3 + 9223372036854775808 * 1 := ⟨_, rfl⟩
          have HL3 := Lib.hid (show l1 = [n0, n1, n2, n3] by rw [hl2, hn0, hn1, hn2, hn3, hh0, hh1, hh2, hh3, hu1, hu2, hu3])
          have q0 := q_half y0 h0 hh0
          have q1 := q_half y1 h1 hh1
          have q2 := q_half y2 h2 hh2
          have q3 := q_half y3 h3 hh3
          have s1 := s_half y1 u1 hu1
          have s2 := s_half y2 u2 hu2
          have s3 := s_half y3 u3 hu3
          have p0 := a_half h0 u1 n0 hn0 (by omega)
          have p1 := a_half h1 u2 n1 hn1 (by omega)
          have p2 := a_half h2 u3 n2 hn2 (by omega)
          have p3 := a_half1 h3 n3 hn3 (by omega)
          clear hl2 hh0 hh1 hh2 hh3 hu1 hu2 hu3 hn0 hn1 hn2 hn3
          go_wp2_with (first | (refine st24 rfl (.tmp 2) (.tmp 20) rfl w.heap.size rfl lY rfl ly l0 C22.out hL ?_; generalize hW : World.setRow _ _ _ = w26; have D31 := Lib.hid (show Blk w26 (w.heap.size + 1) 24 (natsV .u64 lm) from (by rw [← hW]; exact Y28.out)); have D32 := Lib.hid (show Blk w26 (w.heap.size + 1 + 1) 24 (natsV .u64 (zeros 4)) from (by rw [← hW]; exact Y29.out)); have D33 := Lib.hid (show Blk w26 w.heap.size 24 (natsV .u64 lY) from (by rw [← hW]; exact Y30.out)); have hbel34 : Below w.heap.size w w26 := (by rw [← hW]; exact hz27.out); clear hW hz27 C22 C23 C24 Y28 Y29 Y30 hbel25; have c0 := D33.out.nat 0 (by rw [ly]; omega); rw [a0] at c0; have c1 := D33.out.nat 1 (by rw [ly]; omega); rw [a1] at c1; have c2 := D33.out.nat 2 (by rw [ly]; omega); rw [a2] at c2; have c3 := D33.out.nat 3 (by rw [ly]; omega); rw [a3] at c3) | (refine st24 rfl (.tmp 2) (.tmp 49) rfl w.heap.size rfl l1 (by rw [HL3.out]; rfl) hL1 lY D33.out ly ?_))
          go_roundw
          case rel => exact ⟨s + 1, by omega, by go_num, by rw [← HL1.out]; exact D33.out.setRow _, D31.out.row _ (by omega), D32.out.row _ (by omega), below_setRow' hbel34 (Nat.le_refl _) _⟩
          case measure => simp [intOf] <;> omega
        · as_aux_lemma =>
          obtain rfl : cy = 0 := by omega
          have hdc : decide (0 = 1) = false := by decide
          rw [hdc]
          clear hdc
          obtain ⟨h0, hh0⟩ : ∃ z, z = y0 / 2 := ⟨_, rfl⟩
          obtain ⟨h1, hh1⟩ : ∃ z, z = y1 / 2 := ⟨_, rfl⟩
          obtain ⟨h2, hh2⟩ : ∃ z, z = y2 / 2 := ⟨_, rfl⟩
          obtain ⟨h3, hh3⟩ : ∃ z, z = y3 / 2 := ⟨_, rfl⟩
          obtain ⟨u1, hu1⟩ : ∃ z, z = 9223372036854775808 * (y1 % 2) := ⟨_, rfl⟩
          obtain ⟨u2, hu2⟩ : ∃ z, z = 9223372036854775808 * (y2 % 2) := ⟨_, rfl⟩
          obtain ⟨u3, hu3⟩ : ∃ z, z = 9223372036854775808 * (y3 % 2) := ⟨_, rfl⟩
          obtain ⟨n0, hn0⟩ : ∃ z, z = h0 + u1 := ⟨_, rfl⟩
          obtain ⟨n1, hn1⟩ : ∃ z, z = h1 + u2 := ⟨_, rfl⟩
          obtain ⟨n2, hn2⟩ : ∃ z, z = h2 + u3 := ⟨_, rfl⟩
          obtain ⟨n3, hn3⟩ : ∃ z, z = h3 + 9223372036854775808 * 0 := ⟨_, rfl⟩
          have HL3 := Lib.hid (show l1 = [n0, n1, n2, n3] by rw [hl2, hn0, hn1, hn2, hn3, hh0, hh1, hh2, hh3, hu1, hu2, hu3])
          have q0 := q_half y0 h0 hh0
          have q1 := q_half y1 h1 hh1
          have q2 := q_half y2 h2 hh2
          have q3 := q_half y3 n3 (by omega)
          have s1 := s_half y1 u1 hu1
          have s2 := s_half y2 u2 hu2
          have s3 := s_half y3 u3 hu3
          have p0 := a_half h0 u1 n0 hn0 (by omega)
          have p1 := a_half h1 u2 n1 hn1 (by omega)
          have p2 := a_half h2 u3 n2 hn2 (by omega)
          have p3 := u64_in n3 (by omega)
          clear hl2 hh0 hh1 hh2 hh3 hu1 hu2 hu3 hn0 hn1 hn2 hn3
          go_wp2_with (first | (refine st24 rfl (.tmp 2) (.tmp 20) rfl w.heap.size rfl lY rfl ly l0 C22.out hL ?_; generalize hW : World.setRow _ _ _ = w26; have D31 := Lib.hid (show Blk w26 (w.heap.size + 1) 24 (natsV .u64 lm) from (by rw [← hW]; exact Y28.out)); have D32 := Lib.hid (show Blk w26 (w.heap.size + 1 + 1) 24 (natsV .u64 (zeros 4)) from (by rw [← hW]; exact Y29.out)); have D33 := Lib.hid (show Blk w26 w.heap.size 24 (natsV .u64 lY) from (by rw [← hW]; exact Y30.out)); have hbel34 : Below w.heap.size w w26 := (by rw [← hW]; exact hz27.out); clear hW hz27 C22 C23 C24 Y28 Y29 Y30 hbel25; have c0 := D33.out.nat 0 (by rw [ly]; omega); rw [a0] at c0; have c1 := D33.out.nat 1 (by rw [ly]; omega); rw [a1] at c1; have c2 := D33.out.nat 2 (by rw [ly]; omega); rw [a2] at c2; have c3 := D33.out.nat 3 (by rw [ly]; omega); rw [a3] at c3) | (refine st24 rfl (.tmp 2) (.tmp 49) rfl w.heap.size rfl l1 (by rw [HL3.out]; rfl) hL1 lY D33.out ly ?_))
          go_roundw
          case rel => exact ⟨s + 1, by omega, by go_num, by rw [← HL1.out]; exact D33.out.setRow _, D31.out.row _ (by omega), D32.out.row _ (by omega), below_setRow' hbel34 (Nat.le_refl _) _⟩
          case measure => simp [intOf] <;> omega
      · rw [show hf m (R s) = R s / 2 from if_neg hodd] at hl1
        have he0 : dgt (2 ^ 64) (R s) 0 % 2 = 0 := by omega
        have d4 := dgt4_low (R s) (by omega)
        have hl2 := half_wds (R s) 0 d4 (by omega)
        rw [← hl1] at hl2
        clear hl1 d4 e0 HSM2
        have y0_ := dgt_lt (B := 2 ^ 64) (by decide) (R s) 0
        have z0 := dgt_lt (B := 2 ^ 64) (by decide) (R s) 0
        have z1 := dgt_lt (B := 2 ^ 64) (by decide) (R s) 1
        have z2 := dgt_lt (B := 2 ^ 64) (by decide) (R s) 2
        have z3 := dgt_lt (B := 2 ^ 64) (by decide) (R s) 3
        have a0 := ax 0 (by omega)
        have a1 := ax 1 (by omega)
        have a2 := ax 2 (by omega)
        have a3 := ax 3 (by omega)
        clear ax y0_
        generalize dgt (2 ^ 64) (R s) 0 = y0 at *
        generalize dgt (2 ^ 64) (R s) 1 = y1 at *
        generalize dgt (2 ^ 64) (R s) 2 = y2 at *
        generalize dgt (2 ^ 64) (R s) 3 = y3 at *
        have hi0 : (y0 : Int) % 2 = 0 := by omega
        generalize wds 4 (R s) = l0 at *
        obtain ⟨h0, hh0⟩ : ∃ z, z = y0 / 2 := ⟨_, rfl⟩
        obtain ⟨h1, hh1⟩ : ∃ z, z = y1 / 2 := ⟨_, rfl⟩
        obtain ⟨h2, hh2⟩ : ∃ z, z = y2 / 2 := ⟨_, rfl⟩
        obtain ⟨h3, hh3⟩ : ∃ z, z = y3 / 2 := ⟨_, rfl⟩
        obtain ⟨u1, hu1⟩ : ∃ z, z = 9223372036854775808 * (y1 % 2) := ⟨_, rfl⟩
        obtain ⟨u2, hu2⟩ : ∃ z, z = 9223372036854775808 * (y2 % 2) := ⟨_, rfl⟩
        obtain ⟨u3, hu3⟩ : ∃ z, z = 9223372036854775808 * (y3 % 2) := ⟨_, rfl⟩
        obtain ⟨n0, hn0⟩ : ∃ z, z = h0 + u1 := ⟨_, rfl⟩
        obtain ⟨n1, hn1⟩ : ∃ z, z = h1 + u2 := ⟨_, rfl⟩
        obtain ⟨n2, hn2⟩ : ∃ z, z = h2 + u3 := ⟨_, rfl⟩
        obtain ⟨n3, hn3⟩ : ∃ z, z = h3 + 9223372036854775808 * 0 := ⟨_, rfl⟩
        have HL3 := Lib.hid (show l1 = [n0, n1, n2, n3] by rw [hl2, hn0, hn1, hn2, hn3, hh0, hh1, hh2, hh3, hu1, hu2, hu3])
        have q0 := q_half y0 h0 hh0
        have q1 := q_half y1 h1 hh1
        have q2 := q_half y2 h2 hh2
        have q3 := q_half y3 n3 (by omega)
        have s1 := s_half y1 u1 hu1
        have s2 := s_half y2 u2 hu2
        have s3 := s_half y3 u3 hu3
        have p0 := a_half h0 u1 n0 hn0 (by omega)
        have p1 := a_half h1 u2 n1 hn1 (by omega)
        have p2 := a_half h2 u3 n2 hn2 (by omega)
        have p3 := u64_in n3 (by omega)
        clear hl2 hh0 hh1 hh2 hh3 hu1 hu2 hu3 hn0 hn1 hn2 hn3
        have c0 := K1.out.nat 0 (by rw [hL]; omega)
        rw [a0] at c0
        have c1 := K1.out.nat 1 (by rw [hL]; omega)
        rw [a1] at c1
        have c2 := K1.out.nat 2 (by rw [hL]; omega)
        rw [a2] at c2
        have c3 := K1.out.nat 3 (by rw [hL]; omega)
        rw [a3] at c3
        have hz22 := Lib.hid (below_setRow' hbel (show w.heap.size ≤ w.heap.size by first | exact Nat.le_refl _ | omega) (natsV .u64 l1).toArray)
        have Y23 := Lib.hid (K2.out.row (natsV .u64 l1).toArray (show (w.heap.size + 1) ≠ w.heap.size by first | omega | assumption | exact Ne.symm (by assumption)))
        have Y24 := Lib.hid (K3.out.row (natsV .u64 l1).toArray (show (w.heap.size + 1 + 1) ≠ w.heap.size by first | omega | assumption | exact Ne.symm (by assumption)))
        have Y25 := Lib.hid (K1.out.setRow (natsV .u64 l1))
        go_wp2_with (refine st24 rfl (.tmp 2) (.tmp 49) rfl w.heap.size rfl l1 (by rw [HL3.out]; rfl) hL1 l0 K1.out hL ?_; generalize hW : World.setRow _ _ _ = w21; have D26 := Lib.hid (show Blk w21 (w.heap.size + 1) 24 (natsV .u64 lm) from (by rw [← hW]; exact Y23.out)); have D27 := Lib.hid (show Blk w21 (w.heap.size + 1 + 1) 24 (natsV .u64 (zeros 4)) from (by rw [← hW]; exact Y24.out)); have D28 := Lib.hid (show Blk w21 w.heap.size 24 (natsV .u64 l1) from (by rw [← hW]; exact Y25.out)); have hbel29 : Below w.heap.size w w21 := (by rw [← hW]; exact hz22.out); clear hW hz22 K1 K2 K3 Y23 Y24 Y25 hbel)
        go_roundw
        case rel => exact ⟨s + 1, by omega, by go_num, by rw [← HL1.out]; exact D28.out, D26.out, D27.out, hbel29⟩
        case measure => simp [intOf] <;> omega
    · obtain rfl : s = 256 := by omega
      rw [show ((256 : Nat) : Int) = 256 from rfl]
      go_wp2_with (first | (refine ld24 rfl (.tmp 2) rfl w.heap.size rfl (wds 4 (R 256)) K1.out hL ?_) | (refine st24 rfl (.tmp 4) (.tmp 50) rfl (w.heap.size + 1 + 1) rfl (wds 4 (R 256)) rfl hL (zeros 4) K3.out rfl ?_))
      refine bodyPost_ret (v := .agg (natsV .u64 (wds 4 (R 256))).toArray) ?_ rfl ⟨rfl, below_setRow' hbel (by omega) _⟩
      exact ret24 Try.results26 _ _ (w.heap.size + 1 + 1) (wds 4 (R 256)) rfl (K3.out.setRow _) hL
end Go.Proofs.Ytfaoajljaggklaa
