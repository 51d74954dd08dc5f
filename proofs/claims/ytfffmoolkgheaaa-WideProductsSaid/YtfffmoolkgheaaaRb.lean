/- The document's bytes and numbers. Condition: what the names say. -/
import Derived.Test.YtfffmoolkgheaaaBm
import Derived.Test.YtfffmoolkgheaaaA2
import Derived.Test.YtfffmoolkgheaaaRa
namespace Go.Proofs.Ytfffmoolkgheaaa
open Go.RowKit
set_option linter.unusedVariables false
set_option linter.unusedSimpArgs false
theorem dgt16_lo (x i : Nat) : dgt (2 ^ 16) x i % 256 = dgt 256 x (2 * i) := by
  unfold dgt
  rw [show (256 : Nat) = 2 ^ 8 from rfl, ← Nat.pow_mul, ← Nat.pow_mul, show 16 * i = 8 * (2 * i) by omega, Nat.mod_mod_of_dvd _ (by decide)]
theorem dgt16_hi (x i : Nat) : dgt (2 ^ 16) x i / 256 = dgt 256 x (2 * i + 1) := by
  unfold dgt
  rw [show (256 : Nat) = 2 ^ 8 from rfl, ← Nat.pow_mul, ← Nat.pow_mul, show 8 * (2 * i + 1) = 16 * i + 8 by omega, Nat.pow_add, ← Nat.div_div_eq_div_mul]
  generalize x / 2 ^ (16 * i) = y
  omega
/-- the last t bytes are laid, the others are 0 -/
def lastB (x t : Nat) : List Nat := tell (fun j => if 32 - t ≤ j then dgt 256 x (31 - j) else 0) 32
theorem lastB_zero (x : Nat) : lastB x 0 = zeros 32 := by
  have : lastB x 0 = tell (fun _ => 0) 32 := tell_congr fun i hi => if_neg (by omega)
  rw [this]; rfl
theorem lastB_all (x : Nat) : lastB x 32 = bytesOf_ x := tell_congr fun i hi => if_pos (by omega)
theorem lastB_set (x t : Nat) (ht : t < 32) : (lastB x t).set (31 - t) (dgt 256 x t) = lastB x (t + 1) := by
  unfold lastB
  rw [tell_set]
  refine tell_congr fun i hi => ?_
  by_cases h : i = 31 - t
  · rw [if_pos h, if_pos (by omega)]; congr 1; omega
  · rw [if_neg h]
    by_cases h2 : 32 - t ≤ i
    · rw [if_pos h2, if_pos (by omega)]
    · rw [if_neg h2, if_neg (by omega)]
theorem lastB_len (x t : Nat) : (lastB x t).length = 32 := tell_length _ _
set_option maxRecDepth 100000 in
set_option maxHeartbeats 1600000 in
theorem refOf_any (A : Option Addr) (c : Nat) (l : List Nat) (w : World) (h : BIn w A 32 c l) :
    Calls Try.prog 78 #[.slice A 32 c] w fun e w' => e = .returned (.agg (natsV .u64 (wds 4 (be l))).toArray) ∧ Below w.heap.size w w' := by
  have HIN := Lib.hid h
  have HLT := Lib.hid h.1.2.2.1
  have HUS := Lib.hid (fun t (ht : t < 32) => pOf_step l h.1.1 h.1.2.2.1 t ht)
  clear h
  have LS := Lib.hid (wds_len 4 (be l))
  have HU0 := Lib.hid (pOf_zero (be l))
  have HU1 := Lib.hid (pOf_all (be l))
  generalize wds 4 (be l) = ls at *
  have B1 := Lib.hid ((Blk.new w 24 (natsV .u64 (zeros 4))).alloc (.cells (natsV .u64 (zeros 4)).toArray 24))
  have B2 := Lib.hid (Blk.new2 w (.cells (natsV .u64 (zeros 4)).toArray 24) 24 (natsV .u64 (zeros 4)))
  have BEL := Lib.hid (((Below.refl w.heap.size w).alloc (Nat.le_refl _) (.cells (natsV .u64 (zeros 4)).toArray 24)).alloc (by simp) (.cells (natsV .u64 (zeros 4)).toArray 24))
  go_enter Try.func78, Try.ntmps78
  go_wp2_with fail
  go_loopw [4] (fun i wr => ∃ t : Nat, t ≤ 32 ∧ i = .int .i64 t ∧ Blk wr w.heap.size 24 (natsV .u64 (zeros 4)) ∧ Blk wr (w.heap.size + 1) 24 (natsV .u64 (tell (pOf (be l) t) 4)) ∧ Below w.heap.size w wr) (fun i _ => 32 - (intOf i).toNat)
  case atStart => exact ⟨0, by omega, rfl, B1.out, by rw [HU0.out]; exact B2.out, BEL.out⟩
  case round =>
    clear B1 B2 BEL HU0
    obtain ⟨t, ht, rfl, k1, k2, hbel⟩ := hrel
    have K1 := Lib.hid k1
    have K2 := Lib.hid k2
    clear k1 k2
    by_cases h5 : t < 32
    · as_aux_lemma =>
      have hti : (t : Int) < 32 := by omega
      obtain ⟨b0, o0, rfl, hc⟩ := HIN.out.1.2.2.2.resolve_left (by omega)
      have c0 := (hbel.cell (World.block_lt_of_cell? w _ (hc t h5))).trans (hc t h5)
      have hlt := getD_lt HLT.out t
      have HUT := Lib.hid (HUS.out t h5)
      clear hc
      have hsm := pOf_small (be l) t h5
      obtain ⟨k, hk⟩ : ∃ k, k = t / 8 := ⟨_, rfl⟩
      obtain ⟨j, hj⟩ : ∃ j, j = 3 - t / 8 := ⟨_, rfl⟩
      rw [← hj] at HUT hsm
      have hj4 : j < 4 := by omega
      have hji : (j : Int) < 4 := by omega
      have e1 : (t : Int) / 8 = (k : Int) := by omega
      have e2 : IntKind.i64.wrap (3 - (k : Int)) = (j : Int) := by rw [IntWalk.i64_in _ (by omega)]; omega
      have e2b : 3 - (k : Int) = (j : Int) := by omega
      clear hj hk
      generalize l.getD t 0 = v at *
      have c1 := K2.out.nat j (by rw [tell_length]; exact hj4)
      have f1 := K2.out.free j
      rw [tell_getD _ _ _ hj4] at c1
      obtain ⟨d, hd⟩ : ∃ d, d = pOf (be l) t j := ⟨_, rfl⟩
      rw [← hd] at c1 hsm HUT
      clear hd
      obtain ⟨u, hu⟩ : ∃ u, u = d * 256 := ⟨_, rfl⟩
      obtain ⟨nv, hnv⟩ : ∃ nv, nv = u + v := ⟨_, rfl⟩
      rw [← hu, ← hnv] at HUT
      have r1 : IntKind.u64.wrap ((d : Int) * 256) = (u : Int) := by rw [IntKind.wrap_u64]; omega
      have r1b : IntKind.u64.wrap (v : Int) = (v : Int) := by rw [u64_cut, Nat.mod_eq_of_lt (by omega)]
      have r2 : IntKind.u64.wrap ((u : Int) + (v : Int)) = (nv : Int) := by rw [IntKind.wrap_u64]; omega
      clear hu hnv
      go_wp2_with fail
      go_region
      all_goals
        clear r1 r1b r2 c1 f1 c0 e2 e2b e1
        have n1 := K1.out.other ⟨w.heap.size + 1, j, none⟩ (.int .u64 (nv : Nat)) (by simp)
        have n2 := K2.out.natSet j nv
        have hb2 := hbel.setCell (p := ⟨w.heap.size + 1, j, none⟩) (by simp) (.int .u64 (nv : Nat))
        rw [HUT.out] at n2
        have N1 := Lib.hid n1.drew
        have N2 := Lib.hid n2.drew
        have hb3 := hb2.drew
        clear n1 n2 K1 K2 hb2 hbel
        go_wp2_with fail
        go_roundw
        case rel => exact ⟨t + 1, by omega, by go_num, N1.out, N2.out, hb3⟩
        case measure => simp [intOf] <;> omega
    · obtain rfl : t = 32 := by omega
      rw [show ((32 : Nat) : Int) = 32 from rfl]
      rw [HU1.out] at K2
      have j2 := K1.out.setRow (natsV .u64 ls)
      have hb2 := below_setRow' hbel (Nat.le_refl _) (natsV .u64 ls).toArray
      go_wp2_with (first | (refine ld24 rfl (.tmp 3) rfl (w.heap.size + 1) rfl ls K2.out LS.out ?_) | (refine st24 rfl (.tmp 2) (.tmp 26) rfl w.heap.size rfl ls rfl LS.out (zeros 4) K1.out rfl ?_))
      refine bodyPost_ret (v := .agg (natsV .u64 ls).toArray) ?_ rfl ⟨rfl, hb2⟩
      exact ret24 Try.results78 _ _ w.heap.size ls rfl j2 LS.out
set_option maxRecDepth 100000 in
set_option maxHeartbeats 1600000 in
theorem refBytes_any (x : Nat) (w : World) : Calls Try.prog 75 #[.agg (natsV .u64 (wds 4 x)).toArray] w fun e w' => e = .returned (.agg (natsV .u8 (bytesOf_ x)).toArray) ∧ Below w.heap.size w w' := by
  have HD := Lib.hid (fun w => Digits_any x w)
  have LA := Lib.hid (wds_len 4 x)
  have LS := Lib.hid (bytesOf_len x)
  have HU0 := Lib.hid (lastB_zero x)
  have HU1 := Lib.hid (lastB_all x)
  generalize wds 4 x = la at *
  generalize bytesOf_ x = ls at *
  have B1 := Lib.hid (((Blk.new w 24 (natsV .u64 la)).alloc (.cells (natsV .u8 (zeros 32)).toArray 90)).alloc (.cells (natsV .u8 (zeros 32)).toArray 90))
  have B2 := Lib.hid ((Blk.new2 w (.cells (natsV .u64 la).toArray 24) 90 (natsV .u8 (zeros 32))).alloc (.cells (natsV .u8 (zeros 32)).toArray 90))
  have B3 := Lib.hid (Blk.new3 w (.cells (natsV .u64 la).toArray 24) (.cells (natsV .u8 (zeros 32)).toArray 90) 90 (natsV .u8 (zeros 32)))
  have BEL := Lib.hid ((((Below.refl w.heap.size w).alloc (Nat.le_refl _) (.cells (natsV .u64 la).toArray 24)).alloc (by simp) (.cells (natsV .u8 (zeros 32)).toArray 90)).alloc (by simp; omega) (.cells (natsV .u8 (zeros 32)).toArray 90))
  go_enter Try.func75, Try.ntmps75
  go_wp2_with (refine ld24 rfl (.tmp 1) rfl w.heap.size rfl la B1.out LA.out ?_)
  refine (HD.out _).mono ?_
  rintro e w1 hm
  obtain ⟨gx, cx, rfl, hgx, hcx, _, hrd, hb1⟩ := made16 hm (by decide)
  have C2 := Lib.hid (B2.out.below' hb1)
  have C3 := Lib.hid (B3.out.below' hb1)
  have RX := Lib.hid hrd
  have hbel1 := BEL.out.trans (hb1.mono BEL.out.size)
  have hgx2 : w.heap.size + 1 + 1 < gx := by simp at hgx; omega
  clear B1 B2 B3 BEL hb1 hm hgx hrd HD
  go_wp2_with fail
  go_loopw [5] (fun i wr => ∃ t : Nat, t ≤ 16 ∧ i = .int .i64 t ∧ Rd16 wr gx 16 x ∧ Blk wr (w.heap.size + 1) 90 (natsV .u8 (zeros 32)) ∧ Blk wr (w.heap.size + 1 + 1) 90 (natsV .u8 (lastB x (2 * t))) ∧ Below w.heap.size w wr) (fun i _ => 16 - (intOf i).toNat)
  case atStart => exact ⟨0, by omega, rfl, RX.out, C2.out, by rw [HU0.out]; exact C3.out, hbel1⟩
  case round =>
    clear RX C2 C3 hbel1 HU0
    obtain ⟨t, ht, rfl, hrd, k2, k3, hbel⟩ := hrel
    have RX := Lib.hid hrd
    have K2 := Lib.hid k2
    have K3 := Lib.hid k3
    clear k2 k3
    by_cases h5 : t < 16
    · as_aux_lemma =>
      have hti : (t : Int) < 16 := by omega
      have c0 := hrd t h5
      clear hrd
      have HS1 := Lib.hid (lastB_set x (2 * t) (by omega))
      have HS2 := Lib.hid (lastB_set x (2 * t + 1) (by omega))
      rw [← dgt16_lo, show 31 - 2 * t = 31 - 2 * t from rfl] at HS1
      rw [← dgt16_hi, show 31 - (2 * t + 1) = 30 - 2 * t by omega, show 2 * t + 1 + 1 = 2 * (t + 1) by omega] at HS2
      have hdl := dgt_lt (B := 2 ^ 16) (by decide) x t
      obtain ⟨d, hd⟩ : ∃ d, d = dgt (2 ^ 16) x t := ⟨_, rfl⟩
      rw [← hd] at HS1 HS2 hdl c0
      have HDE := Lib.hid hd
      clear hd
      obtain ⟨p, hp⟩ : ∃ p, p = 31 - 2 * t := ⟨_, rfl⟩
      obtain ⟨q, hq⟩ : ∃ q, q = 30 - 2 * t := ⟨_, rfl⟩
      obtain ⟨v1, hv1⟩ : ∃ v, v = d % 256 := ⟨_, rfl⟩
      obtain ⟨v2, hv2⟩ : ∃ v, v = d / 256 := ⟨_, rfl⟩
      rw [← hp, ← hv1] at HS1
      rw [← hq, ← hv2] at HS2
      have e1 : 31 - 2 * (t : Int) = (p : Int) := by omega
      have e2 : 30 - 2 * (t : Int) = (q : Int) := by omega
      have hpi : (p : Int) < 32 := by omega
      have hqi : (q : Int) < 32 := by omega
      have rv1 : (d : Int) % 256 = (v1 : Int) := by omega
      have rv2 : (d : Int) / 256 = (v2 : Int) := by omega
      have rw1 : IntKind.u8.wrap (v1 : Int) = (v1 : Int) := by rw [IntKind.wrap_u8]; omega
      have rw2 : IntKind.u8.wrap (v2 : Int) = (v2 : Int) := by rw [IntKind.wrap_u8]; omega
      have hpl : p < 32 := by omega
      have hql : q < 32 := by omega
      have c3 := K3.out.nat p (by rw [lastB_len]; exact hpl)
      have f3 := K3.out.free p
      have J := K3.out.natSet p v1
      rw [HS1.out] at J
      have c4 := J.nat q (by rw [lastB_len]; exact hql)
      have f4 := J.free q
      clear hp hq hv1 hv2
      have n3 := Lib.hid (J.natSet q v2)
      rw [HS2.out] at n3
      have n2 := Lib.hid ((K2.out.other ⟨w.heap.size + 1 + 1, p, none⟩ (.int .u8 (v1 : Nat)) (by simp)).other ⟨w.heap.size + 1 + 1, q, none⟩ (.int .u8 (v2 : Nat)) (by simp))
      have n1 := Lib.hid ((RX.out.set ⟨w.heap.size + 1 + 1, p, none⟩ (.int .u8 (v1 : Nat)) (by simp; omega)).set ⟨w.heap.size + 1 + 1, q, none⟩ (.int .u8 (v2 : Nat)) (by simp; omega))
      have c0b := (RX.out.set ⟨w.heap.size + 1 + 1, p, none⟩ (.int .u8 (v1 : Nat)) (by simp; omega)) t h5
      rw [← HDE.out] at c0b
      have hb2 := Lib.hid ((hbel.setCell (p := ⟨w.heap.size + 1 + 1, p, none⟩) (by simp; omega) (.int .u8 (v1 : Nat))).setCell (p := ⟨w.heap.size + 1 + 1, q, none⟩) (by simp; omega) (.int .u8 (v2 : Nat)))
      clear J K2 K3 RX hbel
      go_wp2_with fail
      go_roundw
      case rel => exact ⟨t + 1, by omega, by go_num, n1.out, n2.out, n3.out, hb2.out⟩
      case measure => simp [intOf] <;> omega
    · obtain rfl : t = 16 := by omega
      rw [show ((16 : Nat) : Int) = 16 from rfl]
      rw [show 2 * 16 = 32 from rfl, HU1.out] at K3
      have j2 := K2.out.setRow (natsV .u8 ls)
      have hb2 := below_setRow' hbel (show w.heap.size ≤ w.heap.size + 1 by omega) (natsV .u8 ls).toArray
      go_wp2_with (first | (refine ld90 rfl (.tmp 3) rfl (w.heap.size + 1 + 1) rfl ls K3.out LS.out ?_) | (refine st90 rfl (.tmp 2) (.tmp 32) rfl (w.heap.size + 1) rfl ls rfl LS.out (zeros 32) K2.out rfl ?_))
      refine bodyPost_ret (v := .agg (natsV .u8 ls).toArray) ?_ rfl ⟨rfl, hb2⟩
      exact results_cell_row Try.results75 _ _ (w.heap.size + 1) 90 _ (0, 0) _ rfl j2 Try.underlying90 rfl (by rw [info90, size_nats, LS.out])
theorem cmpZ_self (a : Nat) : cmpZ a a = 0 := by unfold cmpZ; rw [if_neg (Nat.lt_irrefl a), if_pos rfl]
theorem cmpZ_lt {a b : Nat} (h : a < b) : cmpZ a b = -1 := if_pos h
theorem cmpZ_gt {a b : Nat} (h : b < a) : cmpZ a b = 1 := by unfold cmpZ; rw [if_neg (by omega), if_neg (by omega)]
set_option maxRecDepth 100000 in
set_option maxHeartbeats 800000 in
theorem Cmp_any (a b : Nat) (w : World) (ha : a < 2 ^ 256) (hb : b < 2 ^ 256) : Calls Try.prog 100 #[.agg (natsV .u64 (wds 4 a)).toArray, .agg (natsV .u64 (wds 4 b)).toArray] w fun e w' => e = .returned (.int .i64 (cmpZ a b)) ∧ Below w.heap.size w w' := by
  have HS := Lib.hid (fun w => Sub_any a b w ha hb)
  have LS := Lib.hid (wds_len 4 (a + 2 ^ 256 - b))
  have LA := Lib.hid (wds_len 4 a)
  have LB := Lib.hid (wds_len 4 b)
  have HI := wds_inj 4 a b ha hb
  have q := (fun w => eql24 (wds 4 a) (wds 4 b) LA.out LB.out w)
  rw [HI] at q
  clear HI
  generalize wds 4 (a + 2 ^ 256 - b) = ls at *
  generalize wds 4 a = la at *
  generalize wds 4 b = lb at *
  have B1 := Lib.hid ((Blk.new w 24 (natsV .u64 la)).alloc (.cells (natsV .u64 lb).toArray 24))
  have B2 := Lib.hid (Blk.new2 w (.cells (natsV .u64 la).toArray 24) 24 (natsV .u64 lb))
  have BEL := Lib.hid (((Below.refl w.heap.size w).alloc (Nat.le_refl _) (.cells (natsV .u64 la).toArray 24)).alloc (by simp) (.cells (natsV .u64 lb).toArray 24))
  have hbel := BEL.out
  by_cases hab : a = b
  · rw [decide_eq_true hab] at q
    subst hab
    rw [cmpZ_self]
    go_enter Try.func100, Try.ntmps100
    go_wp2_with (first | (refine ld24 rfl (.tmp 2) rfl w.heap.size rfl la B1.out LA.out ?_) | (refine ld24 rfl (.tmp 3) rfl (w.heap.size + 1) rfl lb B2.out LB.out ?_))
    go_ret
    exact ⟨rfl, hbel⟩
  · rw [decide_eq_false hab] at q
    by_cases hlt : a < b
    · rw [cmpZ_lt hlt]
      rw [show lt01 a b = 1 from if_pos hlt] at HS
      go_enter Try.func100, Try.ntmps100
      go_wp2_with (first | (refine ld24 rfl (.tmp 2) rfl w.heap.size rfl la B1.out LA.out ?_) | (refine ld24 rfl (.tmp 3) rfl (w.heap.size + 1) rfl lb B2.out LB.out ?_))
      refine (HS.out _).mono ?_
      rintro e w1 ⟨rfl, hb1⟩
      have hbel2 := below_setRow' ((hbel.trans (hb1.mono hbel.size)).alloc (Nat.le_trans hbel.size hb1.size) (.cells (natsV .u64 (zeros 4)).toArray 24)) (show w.heap.size ≤ w1.heap.size from Nat.le_trans hbel.size hb1.size |> Nat.le_trans (by simp)) (natsV .u64 ls).toArray
      have Z := Lib.hid (Blk.new w1 24 (natsV .u64 (zeros 4)))
      clear q
      go_wp2_with (refine st24 rfl (.tmp 5) (.tmp 14) rfl w1.heap.size rfl ls rfl LS.out (zeros 4) Z.out rfl ?_)
      go_ret
      exact ⟨rfl, hbel2⟩
    · rw [cmpZ_gt (show b < a by omega)]
      rw [show lt01 a b = 0 from if_neg hlt] at HS
      go_enter Try.func100, Try.ntmps100
      go_wp2_with (first | (refine ld24 rfl (.tmp 2) rfl w.heap.size rfl la B1.out LA.out ?_) | (refine ld24 rfl (.tmp 3) rfl (w.heap.size + 1) rfl lb B2.out LB.out ?_))
      refine (HS.out _).mono ?_
      rintro e w1 ⟨rfl, hb1⟩
      have hbel2 := below_setRow' ((hbel.trans (hb1.mono hbel.size)).alloc (Nat.le_trans hbel.size hb1.size) (.cells (natsV .u64 (zeros 4)).toArray 24)) (show w.heap.size ≤ w1.heap.size from Nat.le_trans hbel.size hb1.size |> Nat.le_trans (by simp)) (natsV .u64 ls).toArray
      have Z := Lib.hid (Blk.new w1 24 (natsV .u64 (zeros 4)))
      clear q
      go_wp2_with (refine st24 rfl (.tmp 5) (.tmp 14) rfl w1.heap.size rfl ls rfl LS.out (zeros 4) Z.out rfl ?_)
      go_ret
      exact ⟨rfl, hbel2⟩
theorem cmp_words {B a b s : Nat} (hB : 0 < B) (h : a / B ^ (s + 1) = b / B ^ (s + 1)) :
    (dgt B a s < dgt B b s → a < b) ∧ (dgt B b s < dgt B a s → b < a) ∧ (dgt B a s = dgt B b s → a / B ^ s = b / B ^ s) := by
  have hM := Nat.pow_pos (n := s) hB
  have e1 : ∀ v, v / B ^ (s + 1) = v / B ^ s / B := fun v => by rw [Nat.pow_succ, Nat.div_div_eq_div_mul]
  have key : ∀ u v, u / B ^ s / B = v / B ^ s / B → dgt B u s < dgt B v s → u < v := by
    intro u v he hd
    have h1 : u / B ^ s < v / B ^ s := by
      have h2 := Nat.mod_add_div (u / B ^ s) B
      have h3 := Nat.mod_add_div (v / B ^ s) B
      unfold dgt at hd
      rw [he] at h2
      omega
    have h4 := Nat.mod_add_div u (B ^ s)
    have h5 := Nat.mod_add_div v (B ^ s)
    have h6 := Nat.mod_lt u hM
    have h7 := Nat.mul_le_mul_left (B ^ s) (show u / B ^ s + 1 ≤ v / B ^ s from h1)
    rw [Nat.mul_add, Nat.mul_one] at h7
    have h8 := Nat.mod_lt v hM
    generalize B ^ s * (u / B ^ s) = P at *
    generalize B ^ s * (v / B ^ s) = Q at *
    generalize u % B ^ s = r at *
    generalize v % B ^ s = r2 at *
    generalize B ^ s = M at *
    clear he hd h1 e1 h
    omega
  rw [e1, e1] at h
  refine ⟨key a b h, key b a h.symm, fun hd => ?_⟩
  have h2 := Nat.mod_add_div (a / B ^ s) B
  have h3 := Nat.mod_add_div (b / B ^ s) B
  unfold dgt at hd
  rw [← h2, ← h3, hd, h]
set_option maxRecDepth 100000 in
set_option maxHeartbeats 1600000 in
theorem refCmp_any (a b : Nat) (w : World) (ha : a < 2 ^ 256) (hb : b < 2 ^ 256) : Calls Try.prog 97 #[.agg (natsV .u64 (wds 4 a)).toArray, .agg (natsV .u64 (wds 4 b)).toArray] w fun e w' => e = .returned (.int .i64 (cmpZ a b)) ∧ Below w.heap.size w w' := by
  have LA := Lib.hid (wds_len 4 a)
  have LB := Lib.hid (wds_len 4 b)
  have AA := Lib.hid (wds_at 4 a)
  have AB := Lib.hid (wds_at 4 b)
  have H4 := Lib.hid (show a / (2 ^ 64) ^ 4 = b / (2 ^ 64) ^ 4 by rw [pow256, Nat.div_eq_of_lt ha, Nat.div_eq_of_lt hb])
  obtain ⟨cz, hcz⟩ : ∃ cz, cz = cmpZ a b := ⟨_, rfl⟩
  rw [← hcz]
  have HCZ := Lib.hid hcz
  clear hcz
  generalize wds 4 a = la at *
  generalize wds 4 b = lb at *
  have B1 := Lib.hid ((Blk.new w 24 (natsV .u64 la)).alloc (.cells (natsV .u64 lb).toArray 24))
  have B2 := Lib.hid (Blk.new2 w (.cells (natsV .u64 la).toArray 24) 24 (natsV .u64 lb))
  have BEL := Lib.hid (((Below.refl w.heap.size w).alloc (Nat.le_refl _) (.cells (natsV .u64 la).toArray 24)).alloc (by simp) (.cells (natsV .u64 lb).toArray 24))
  go_enter Try.func97, Try.ntmps97
  go_wp2_with fail
  go_loopw [5] (fun i wr => ∃ s : Nat, s ≤ 4 ∧ i = .int .i64 ((s : Int) - 1) ∧ a / (2 ^ 64) ^ s = b / (2 ^ 64) ^ s ∧ Blk wr w.heap.size 24 (natsV .u64 la) ∧ Blk wr (w.heap.size + 1) 24 (natsV .u64 lb) ∧ Below w.heap.size w wr) (fun i _ => (intOf i + 1).toNat)
  case atStart => exact ⟨4, by omega, rfl, H4.out, B1.out, B2.out, BEL.out⟩
  case round =>
    clear B1 B2 BEL H4
    obtain ⟨s, hs, rfl, he, k1, k2, hbel⟩ := hrel
    have K1 := Lib.hid k1
    have K2 := Lib.hid k2
    clear k1 k2
    rcases s with _ | s
    · rw [show ((0 : Nat) : Int) - 1 = -1 from rfl]
      have h0 : cz = 0 := by rw [HCZ.out, show a = b by simpa using he, cmpZ_self]
      subst h0
      clear he
      go_wp2_with fail
      go_ret
      exact ⟨rfl, hbel⟩
    · rw [show ((s + 1 : Nat) : Int) - 1 = (s : Int) by omega]
      as_aux_lemma =>
      have hs4 : s < 4 := by omega
      have hsi : (s : Int) < 4 := by omega
      have c0 := K1.out.nat s (by rw [LA.out]; exact hs4)
      have c1 := K2.out.nat s (by rw [LB.out]; exact hs4)
      rw [AA.out s hs4] at c0
      rw [AB.out s hs4] at c1
      have HW := Lib.hid (cmp_words (B := 2 ^ 64) (by decide) he)
      clear he
      generalize dgt (2 ^ 64) a s = x at *
      generalize dgt (2 ^ 64) b s = y at *
      by_cases h1 : x < y
      · have hz : cz = -1 := by rw [HCZ.out, cmpZ_lt (HW.out.1 h1)]
        subst hz
        have hxy : (x : Int) < (y : Int) := by omega
        clear HW
        go_wp2_with fail
        go_quiet (fail)
        go_wp2_with fail
        go_ret
        exact ⟨rfl, below_drewN hbel _⟩
      · have hxy : ¬ ((x : Int) < (y : Int)) := by omega
        by_cases h2 : y < x
        · have hz : cz = 1 := by rw [HCZ.out, cmpZ_gt (HW.out.2.1 h2)]
          subst hz
          have hyx : (y : Int) < (x : Int) := by omega
          clear HW
          go_wp2_with fail
          go_quiet (fail)
          go_wp2_with fail
          go_quiet (fail)
          go_wp2_with fail
          go_ret
          exact ⟨rfl, below_drewN (below_drewN hbel _) _⟩
        · have hyx : ¬ ((y : Int) < (x : Int)) := by omega
          have HE := Lib.hid (HW.out.2.2 (by omega))
          clear HW
          go_wp2_with fail
          go_quiet (fail)
          go_wp2_with fail
          go_quiet (fail)
          go_wp2_with fail
          go_roundw
          case rel => exact ⟨s, by omega, rfl, HE.out, K1.out, K2.out, below_drewN hbel _⟩
          case measure => simp [intOf] <;> omega
end Go.Proofs.Ytfffmoolkgheaaa
