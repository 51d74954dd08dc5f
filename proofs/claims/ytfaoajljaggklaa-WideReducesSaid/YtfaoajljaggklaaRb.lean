/- The document's bytes and numbers. Condition: what the names say. -/
import Derived.Test.YtfaoajljaggklaaBm
import Derived.Test.YtfaoajljaggklaaRa
namespace Go.Proofs.Ytfaoajljaggklaa
open Go.RowKit
set_option linter.unusedVariables false
set_option linter.unusedSimpArgs false
theorem dgt16_lo (x i : Nat) : dgt (2 ^ 16) x i % 256 = dgt 256 x (2 * i) := by
  unfold dgt
  rw [show (256 : Nat) = 2 ^ 8 from rfl, ← Nat.pow_mul, ← Nat.pow_mul, show 16 * i = 8 * (2 * i) by omega, Nat.mod_mod_of_dvd _ (by decide)]
theorem dgt16_hi (x i : Nat) : dgt (2 ^ 16) x i / 256 = dgt 256 x (2 * i + 1) := by
  unfold dgt
  rw [show (256 : Nat) = 2 ^ 8 from rfl, ← Nat.pow_mul, ← Nat.pow_mul, show 8 * (2 * i + 1) = 16 * i + 8 by omega, Nat.pow_add, ← Nat.div_div_eq_div_mul]
  generalize x / 2 ^ (16 * i) = y
  omega
/-- the last t bytes are laid, the others are 0 -/
def lastB (x t : Nat) : List Nat := tell (fun j => if 32 - t ≤ j then dgt 256 x (31 - j) else 0) 32
theorem lastB_zero (x : Nat) : lastB x 0 = zeros 32 := by
  have : lastB x 0 = tell (fun _ => 0) 32 := tell_congr fun i hi => if_neg (by omega)
  rw [this]; rfl
theorem lastB_all (x : Nat) : lastB x 32 = bytesOf_ x := tell_congr fun i hi => if_pos (by omega)
theorem lastB_set (x t : Nat) (ht : t < 32) : (lastB x t).set (31 - t) (dgt 256 x t) = lastB x (t + 1) := by
  unfold lastB
  rw [tell_set]
  refine tell_congr fun i hi => ?_
  by_cases h : i = 31 - t
  · rw [if_pos h, if_pos (by omega)]; congr 1; omega
  · rw [if_neg h]
    by_cases h2 : 32 - t ≤ i
    · rw [if_pos h2, if_pos (by omega)]
    · rw [if_neg h2, if_neg (by omega)]
theorem lastB_len (x t : Nat) : (lastB x t).length = 32 := tell_length _ _
theorem cmpZ_self (a : Nat) : cmpZ a a = 0 := by unfold cmpZ; rw [if_neg (Nat.lt_irrefl a), if_pos rfl]
theorem cmpZ_lt {a b : Nat} (h : a < b) : cmpZ a b = -1 := if_pos h
theorem cmpZ_gt {a b : Nat} (h : b < a) : cmpZ a b = 1 := by unfold cmpZ; rw [if_neg (by omega), if_neg (by omega)]
set_option maxRecDepth 100000 in
set_option maxHeartbeats 800000 in
theorem Cmp_any (a b : Nat) (w : World) (ha : a < 2 ^ 256) (hb : b < 2 ^ 256) : Calls Try.prog 75 #[.agg (natsV .u64 (wds 4 a)).toArray, .agg (natsV .u64 (wds 4 b)).toArray] w fun e w' => e = .returned (.int .i64 (cmpZ a b)) ∧ Below w.heap.size w w' := by
  have HS := Lib.hid (fun w => Sub_any a b w ha hb)
  have LS := Lib.hid (wds_len 4 (a + 2 ^ 256 - b))
  have LA := Lib.hid (wds_len 4 a)
  have LB := Lib.hid (wds_len 4 b)
  have HI := wds_inj 4 a b ha hb
  have q := (fun w => eql24 (wds 4 a) (wds 4 b) LA.out LB.out w)
  rw [HI] at q
  clear HI
  generalize wds 4 (a + 2 ^ 256 - b) = ls at *
  generalize wds 4 a = la at *
  generalize wds 4 b = lb at *
  have B1 := Lib.hid ((Blk.new w 24 (natsV .u64 la)).alloc (.cells (natsV .u64 lb).toArray 24))
  have B2 := Lib.hid (Blk.new2 w (.cells (natsV .u64 la).toArray 24) 24 (natsV .u64 lb))
  have BEL := Lib.hid (((Below.refl w.heap.size w).alloc (Nat.le_refl _) (.cells (natsV .u64 la).toArray 24)).alloc (by simp) (.cells (natsV .u64 lb).toArray 24))
  have hbel := BEL.out
  by_cases hab : a = b
  · rw [decide_eq_true hab] at q
    subst hab
    rw [cmpZ_self]
    go_enter Try.func75, Try.ntmps75
    go_wp2_with (first | (refine ld24 rfl (.tmp 2) rfl w.heap.size rfl la B1.out LA.out ?_) | (refine ld24 rfl (.tmp 3) rfl (w.heap.size + 1) rfl lb B2.out LB.out ?_))
    go_ret
    exact ⟨rfl, hbel⟩
  · rw [decide_eq_false hab] at q
    by_cases hlt : a < b
    · rw [cmpZ_lt hlt]
      rw [show lt01 a b = 1 from if_pos hlt] at HS
      go_enter Try.func75, Try.ntmps75
      go_wp2_with (first | (refine ld24 rfl (.tmp 2) rfl w.heap.size rfl la B1.out LA.out ?_) | (refine ld24 rfl (.tmp 3) rfl (w.heap.size + 1) rfl lb B2.out LB.out ?_))
      refine (HS.out _).mono ?_
      rintro e w1 ⟨rfl, hb1⟩
      have hbel2 := below_setRow' ((hbel.trans (hb1.mono hbel.size)).alloc (Nat.le_trans hbel.size hb1.size) (.cells (natsV .u64 (zeros 4)).toArray 24)) (show w.heap.size ≤ w1.heap.size from Nat.le_trans hbel.size hb1.size |> Nat.le_trans (by simp)) (natsV .u64 ls).toArray
      have Z := Lib.hid (Blk.new w1 24 (natsV .u64 (zeros 4)))
      clear q
      go_wp2_with (refine st24 rfl (.tmp 5) (.tmp 14) rfl w1.heap.size rfl ls rfl LS.out (zeros 4) Z.out rfl ?_)
      go_ret
      exact ⟨rfl, hbel2⟩
    · rw [cmpZ_gt (show b < a by omega)]
      rw [show lt01 a b = 0 from if_neg hlt] at HS
      go_enter Try.func75, Try.ntmps75
      go_wp2_with (first | (refine ld24 rfl (.tmp 2) rfl w.heap.size rfl la B1.out LA.out ?_) | (refine ld24 rfl (.tmp 3) rfl (w.heap.size + 1) rfl lb B2.out LB.out ?_))
      refine (HS.out _).mono ?_
      rintro e w1 ⟨rfl, hb1⟩
      have hbel2 := below_setRow' ((hbel.trans (hb1.mono hbel.size)).alloc (Nat.le_trans hbel.size hb1.size) (.cells (natsV .u64 (zeros 4)).toArray 24)) (show w.heap.size ≤ w1.heap.size from Nat.le_trans hbel.size hb1.size |> Nat.le_trans (by simp)) (natsV .u64 ls).toArray
      have Z := Lib.hid (Blk.new w1 24 (natsV .u64 (zeros 4)))
      clear q
      go_wp2_with (refine st24 rfl (.tmp 5) (.tmp 14) rfl w1.heap.size rfl ls rfl LS.out (zeros 4) Z.out rfl ?_)
      go_ret
      exact ⟨rfl, hbel2⟩
theorem cmp_words {B a b s : Nat} (hB : 0 < B) (h : a / B ^ (s + 1) = b / B ^ (s + 1)) :
    (dgt B a s < dgt B b s → a < b) ∧ (dgt B b s < dgt B a s → b < a) ∧ (dgt B a s = dgt B b s → a / B ^ s = b / B ^ s) := by
  have hM := Nat.pow_pos (n := s) hB
  have e1 : ∀ v, v / B ^ (s + 1) = v / B ^ s / B := fun v => by rw [Nat.pow_succ, Nat.div_div_eq_div_mul]
  have key : ∀ u v, u / B ^ s / B = v / B ^ s / B → dgt B u s < dgt B v s → u < v := by
    intro u v he hd
    have h1 : u / B ^ s < v / B ^ s := by
      have h2 := Nat.mod_add_div (u / B ^ s) B
      have h3 := Nat.mod_add_div (v / B ^ s) B
      unfold dgt at hd
      rw [he] at h2
      omega
    have h4 := Nat.mod_add_div u (B ^ s)
    have h5 := Nat.mod_add_div v (B ^ s)
    have h6 := Nat.mod_lt u hM
    have h7 := Nat.mul_le_mul_left (B ^ s) (show u / B ^ s + 1 ≤ v / B ^ s from h1)
    rw [Nat.mul_add, Nat.mul_one] at h7
    have h8 := Nat.mod_lt v hM
    generalize B ^ s * (u / B ^ s) = P at *
    generalize B ^ s * (v / B ^ s) = Q at *
    generalize u % B ^ s = r at *
    generalize v % B ^ s = r2 at *
    generalize B ^ s = M at *
    clear he hd h1 e1 h
    omega
  rw [e1, e1] at h
  refine ⟨key a b h, key b a h.symm, fun hd => ?_⟩
  have h2 := Nat.mod_add_div (a / B ^ s) B
  have h3 := Nat.mod_add_div (b / B ^ s) B
  unfold dgt at hd
  rw [← h2, ← h3, hd, h]
set_option maxRecDepth 100000 in
set_option maxHeartbeats 1600000 in
theorem refCmp_any (a b : Nat) (w : World) (ha : a < 2 ^ 256) (hb : b < 2 ^ 256) : Calls Try.prog 71 #[.agg (natsV .u64 (wds 4 a)).toArray, .agg (natsV .u64 (wds 4 b)).toArray] w fun e w' => e = .returned (.int .i64 (cmpZ a b)) ∧ Below w.heap.size w w' := by
  have LA := Lib.hid (wds_len 4 a)
  have LB := Lib.hid (wds_len 4 b)
  have AA := Lib.hid (wds_at 4 a)
  have AB := Lib.hid (wds_at 4 b)
  have H4 := Lib.hid (show a / (2 ^ 64) ^ 4 = b / (2 ^ 64) ^ 4 by rw [pow256, Nat.div_eq_of_lt ha, Nat.div_eq_of_lt hb])
  obtain ⟨cz, hcz⟩ : ∃ cz, cz = cmpZ a b := ⟨_, rfl⟩
  rw [← hcz]
  have HCZ := Lib.hid hcz
  clear hcz
  generalize wds 4 a = la at *
  generalize wds 4 b = lb at *
  have B1 := Lib.hid ((Blk.new w 24 (natsV .u64 la)).alloc (.cells (natsV .u64 lb).toArray 24))
  have B2 := Lib.hid (Blk.new2 w (.cells (natsV .u64 la).toArray 24) 24 (natsV .u64 lb))
  have BEL := Lib.hid (((Below.refl w.heap.size w).alloc (Nat.le_refl _) (.cells (natsV .u64 la).toArray 24)).alloc (by simp) (.cells (natsV .u64 lb).toArray 24))
  go_enter Try.func71, Try.ntmps71
  go_wp2_with fail
  go_loopw [5] (fun i wr => ∃ s : Nat, s ≤ 4 ∧ i = .int .i64 ((s : Int) - 1) ∧ a / (2 ^ 64) ^ s = b / (2 ^ 64) ^ s ∧ Blk wr w.heap.size 24 (natsV .u64 la) ∧ Blk wr (w.heap.size + 1) 24 (natsV .u64 lb) ∧ Below w.heap.size w wr) (fun i _ => (intOf i + 1).toNat)
  case atStart => exact ⟨4, by omega, rfl, H4.out, B1.out, B2.out, BEL.out⟩
  case round =>
    clear B1 B2 BEL H4
    obtain ⟨s, hs, rfl, he, k1, k2, hbel⟩ := hrel
    have K1 := Lib.hid k1
    have K2 := Lib.hid k2
    clear k1 k2
    rcases s with _ | s
    · rw [show ((0 : Nat) : Int) - 1 = -1 from rfl]
      have h0 : cz = 0 := by rw [HCZ.out, show a = b by simpa using he, cmpZ_self]
      subst h0
      clear he
      go_wp2_with fail
      go_ret
      exact ⟨rfl, hbel⟩
    · rw [show ((s + 1 : Nat) : Int) - 1 = (s : Int) by omega]
      as_aux_lemma =>
      have hs4 : s < 4 := by omega
      have hsi : (s : Int) < 4 := by omega
      have c0 := K1.out.nat s (by rw [LA.out]; exact hs4)
      have c1 := K2.out.nat s (by rw [LB.out]; exact hs4)
      rw [AA.out s hs4] at c0
      rw [AB.out s hs4] at c1
      have HW := Lib.hid (cmp_words (B := 2 ^ 64) (by decide) he)
      clear he
      generalize dgt (2 ^ 64) a s = x at *
      generalize dgt (2 ^ 64) b s = y at *
      by_cases h1 : x < y
      · have hz : cz = -1 := by rw [HCZ.out, cmpZ_lt (HW.out.1 h1)]
        subst hz
        have hxy : (x : Int) < (y : Int) := by omega
        clear HW
        go_wp2_with fail
        go_quiet (fail)
        go_wp2_with fail
        go_ret
        exact ⟨rfl, below_drewN hbel _⟩
      · have hxy : ¬ ((x : Int) < (y : Int)) := by omega
        by_cases h2 : y < x
        · have hz : cz = 1 := by rw [HCZ.out, cmpZ_gt (HW.out.2.1 h2)]
          subst hz
          have hyx : (y : Int) < (x : Int) := by omega
          clear HW
          go_wp2_with fail
          go_quiet (fail)
          go_wp2_with fail
          go_quiet (fail)
          go_wp2_with fail
          go_ret
          exact ⟨rfl, below_drewN (below_drewN hbel _) _⟩
        · have hyx : ¬ ((y : Int) < (x : Int)) := by omega
          have HE := Lib.hid (HW.out.2.2 (by omega))
          clear HW
          go_wp2_with fail
          go_quiet (fail)
          go_wp2_with fail
          go_quiet (fail)
          go_wp2_with fail
          go_roundw
          case rel => exact ⟨s, by omega, rfl, HE.out, K1.out, K2.out, below_drewN hbel _⟩
          case measure => simp [intOf] <;> omega
end Go.Proofs.Ytfaoajljaggklaa
