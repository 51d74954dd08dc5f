/- Parts of proofs of statements, each text behind those that it stands on. No condition of its own. -/
import Derived.RowKit
import Derived.Test.YtdkkombpkojjaaaD04
namespace Go.Proofs.Ytdkkombpkojjaaa
set_option maxRecDepth 100000
set_option maxHeartbeats 1600000
open Go.RowKit
set_option linter.unusedVariables false
set_option linter.unusedSimpArgs false
theorem dgt16_lo (x i : Nat) : dgt (2 ^ 16) x i % 256 = dgt 256 x (2 * i) := by
 unfold dgt
 rw [show (256 : Nat) = 2 ^ 8 from rfl, ← Nat.pow_mul, ← Nat.pow_mul, show 16 * i = 8 * (2 * i) by omega, Nat.mod_mod_of_dvd _ (by decide)]
theorem dgt16_hi (x i : Nat) : dgt (2 ^ 16) x i / 256 = dgt 256 x (2 * i + 1) := by
 unfold dgt
 rw [show (256 : Nat) = 2 ^ 8 from rfl, ← Nat.pow_mul, ← Nat.pow_mul, show 8 * (2 * i + 1) = 16 * i + 8 by omega, Nat.pow_add, ← Nat.div_div_eq_div_mul]
 generalize x / 2 ^ (16 * i) = y
 omega
def lastB (x t : Nat) : List Nat := tell (fun j => if 32 - t ≤ j then dgt 256 x (31 - j) else 0) 32
theorem lastB_zero (x : Nat) : lastB x 0 = zeros 32 := by
 have : lastB x 0 = tell (fun _ => 0) 32 := tell_congr fun i hi => if_neg (by omega)
 rw [this]; rfl
theorem lastB_all (x : Nat) : lastB x 32 = bytesOf_ x := tell_congr fun i hi => if_pos (by omega)
theorem lastB_set (x t : Nat) (ht : t < 32) : (lastB x t).set (31 - t) (dgt 256 x t) = lastB x (t + 1) := by
 unfold lastB
 rw [tell_set]
 refine tell_congr fun i hi => ?_
 by_cases h : i = 31 - t
 · rw [if_pos h, if_pos (by omega)]; congr 1; omega
 · rw [if_neg h]
   by_cases h2 : 32 - t ≤ i
   · rw [if_pos h2, if_pos (by omega)]
   · rw [if_neg h2, if_neg (by omega)]
theorem lastB_len (x t : Nat) : (lastB x t).length = 32 := tell_length _ _
theorem refBytes_any (x : Nat) (w : World) : Calls Try.prog 30 #[.agg (natsV .u64 (wds 4 x)).toArray] w fun e w' => e = .returned (.agg (natsV .u8 (bytesOf_ x)).toArray) ∧ Below w.heap.size w w' := by
 have HD := Hd (fun w => Digits_any x w)
 have LA := Hd (wds_len 4 x)
 have LS := Hd (bytesOf_len x)
 have HU0 := Hd (lastB_zero x)
 have HU1 := Hd (lastB_all x)
 generalize wds 4 x = la at *
 generalize bytesOf_ x = ls at *
 have B1 := Hd (((Blk.new w 24 (natsV .u64 la)).alloc (.cells (natsV .u8 (zeros 32)).toArray 49)).alloc (.cells (natsV .u8 (zeros 32)).toArray 49))
 have B2 := Hd ((Blk.new2 w (.cells (natsV .u64 la).toArray 24) 49 (natsV .u8 (zeros 32))).alloc (.cells (natsV .u8 (zeros 32)).toArray 49))
 have B3 := Hd (Blk.new3 w (.cells (natsV .u64 la).toArray 24) (.cells (natsV .u8 (zeros 32)).toArray 49) 49 (natsV .u8 (zeros 32)))
 have BEL := Hd ((((Below.refl w.heap.size w).alloc (Nat.le_refl _) (.cells (natsV .u64 la).toArray 24)).alloc (by simp) (.cells (natsV .u8 (zeros 32)).toArray 49)).alloc (by simp; omega) (.cells (natsV .u8 (zeros 32)).toArray 49))
 go_enter Try.func30, Try.ntmps30
 go_wp2_with (refine ld24 rfl (.tmp 1) rfl w.heap.size rfl la B1.out LA.out ?_)
 refine (HD.out _).mono ?_
 rintro e w1 hm
 obtain ⟨gx, cx, rfl, hgx, hcx, _, hrd, hb1⟩ := made16 hm (by decide)
 have C2 := Hd (B2.out.below' hb1)
 have C3 := Hd (B3.out.below' hb1)
 have RX := Hd hrd
 have hbel1 := BEL.out.trans (hb1.mono BEL.out.size)
 have hgx2 : w.heap.size + 1 + 1 < gx := by simp at hgx; omega
 clear B1 B2 B3 BEL hb1 hm hgx hrd HD
 go_wp2_with fail
 go_loopw [5] (fun i wr => ∃ t : Nat, t ≤ 16 ∧ i = .int .i64 t ∧ Rd16 wr gx 16 x ∧ Blk wr (w.heap.size + 1) 49 (natsV .u8 (zeros 32)) ∧ Blk wr (w.heap.size + 1 + 1) 49 (natsV .u8 (lastB x (2 * t))) ∧ Below w.heap.size w wr) (fun i _ => 16 - (intOf i).toNat)
 case atStart => exact ⟨0, by omega, rfl, RX.out, C2.out, by rw [HU0.out]; exact C3.out, hbel1⟩
 case round =>
   clear RX C2 C3 hbel1 HU0
   obtain ⟨t, ht, rfl, hrd, k2, k3, hbel⟩ := hrel
   have RX := Hd hrd
   have K2 := Hd k2
   have K3 := Hd k3
   clear k2 k3
   by_cases h5 : t < 16
   · as_aux_lemma =>
     have hti : (t : Int) < 16 := by omega
     have c0 := hrd t h5
     have HS1 := Hd (lastB_set x (2 * t) (by omega))
     have HS2 := Hd (lastB_set x (2 * t + 1) (by omega))
     clear hrd
     rw [← dgt16_lo, show 31 - 2 * t = 31 - 2 * t from rfl] at HS1
     rw [← dgt16_hi, show 31 - (2 * t + 1) = 30 - 2 * t by omega, show 2 * t + 1 + 1 = 2 * (t + 1) by omega] at HS2
     have hdl := dgt_lt (B := 2 ^ 16) (by decide) x t
     obtain ⟨d, hd⟩ : ∃ d, d = dgt (2 ^ 16) x t := ⟨_, rfl⟩
     rw [← hd] at HS1 HS2 hdl c0
     have HDE := Hd hd
     clear hd
     obtain ⟨p, hp⟩ : ∃ p, p = 31 - 2 * t := ⟨_, rfl⟩
     obtain ⟨q, hq⟩ : ∃ q, q = 30 - 2 * t := ⟨_, rfl⟩
     obtain ⟨v1, hv1⟩ : ∃ v, v = d % 256 := ⟨_, rfl⟩
     obtain ⟨v2, hv2⟩ : ∃ v, v = d / 256 := ⟨_, rfl⟩
     rw [← hp, ← hv1] at HS1
     rw [← hq, ← hv2] at HS2
     have e1 : 31 - 2 * (t : Int) = (p : Int) := by omega
     have e2 : 30 - 2 * (t : Int) = (q : Int) := by omega
     have hpi : (p : Int) < 32 := by omega
     have hqi : (q : Int) < 32 := by omega
     have rv1 : (d : Int) % 256 = (v1 : Int) := by omega
     have rv2 : (d : Int) / 256 = (v2 : Int) := by omega
     have rw1 : IntKind.u8.wrap (v1 : Int) = (v1 : Int) := by rw [IntKind.wrap_u8]; omega
     have rw2 : IntKind.u8.wrap (v2 : Int) = (v2 : Int) := by rw [IntKind.wrap_u8]; omega
     have hpl : p < 32 := by omega
     have hql : q < 32 := by omega
     have c3 := K3.out.nat p (by rw [lastB_len]; exact hpl)
     have f3 := K3.out.free p
     have J := K3.out.natSet p v1
     rw [HS1.out] at J
     have c4 := J.nat q (by rw [lastB_len]; exact hql)
     have f4 := J.free q
     have n3 := Hd (J.natSet q v2)
     clear hp hq hv1 hv2
     rw [HS2.out] at n3
     have n2 := Hd ((K2.out.other ⟨w.heap.size + 1 + 1, p, none⟩ (.int .u8 (v1 : Nat)) (by simp)).other ⟨w.heap.size + 1 + 1, q, none⟩ (.int .u8 (v2 : Nat)) (by simp))
     have n1 := Hd ((RX.out.set ⟨w.heap.size + 1 + 1, p, none⟩ (.int .u8 (v1 : Nat)) (by simp; omega)).set ⟨w.heap.size + 1 + 1, q, none⟩ (.int .u8 (v2 : Nat)) (by simp; omega))
     have c0b := (RX.out.set ⟨w.heap.size + 1 + 1, p, none⟩ (.int .u8 (v1 : Nat)) (by simp; omega)) t h5
     rw [← HDE.out] at c0b
     have hb2 := Hd ((hbel.setCell (p := ⟨w.heap.size + 1 + 1, p, none⟩) (by simp; omega) (.int .u8 (v1 : Nat))).setCell (p := ⟨w.heap.size + 1 + 1, q, none⟩) (by simp; omega) (.int .u8 (v2 : Nat)))
     clear J K2 K3 RX hbel
     go_wp2_with fail
     go_roundw
     case rel => exact ⟨t + 1, by omega, by go_num, n1.out, n2.out, n3.out, hb2.out⟩
     case measure => simp [intOf] <;> omega
   · obtain rfl : t = 16 := by omega
     rw [show ((16 : Nat) : Int) = 16 from rfl]
     rw [show 2 * 16 = 32 from rfl, HU1.out] at K3
     have j2 := K2.out.setRow (natsV .u8 ls)
     have hb2 := below_setRow' hbel (show w.heap.size ≤ w.heap.size + 1 by omega) (natsV .u8 ls).toArray
     go_wp2_with (first | (refine ld90 rfl (.tmp 3) rfl (w.heap.size + 1 + 1) rfl ls K3.out LS.out ?_) | (refine st90 rfl (.tmp 2) (.tmp 32) rfl (w.heap.size + 1) rfl ls rfl LS.out (zeros 32) K2.out rfl ?_))
     refine bodyPost_ret (v := .agg (natsV .u8 ls).toArray) ?_ rfl ⟨rfl, hb2⟩
     exact results_cell_row Try.results30 _ _ (w.heap.size + 1) 49 _ (0, 0) _ rfl j2 Try.underlying49 rfl (by rw [info90, size_nats, LS.out])
theorem cmpZ_self (a : Nat) : cmpZ a a = 0 := by unfold cmpZ; rw [if_neg (Nat.lt_irrefl a), if_pos rfl]
theorem cmpZ_lt {a b : Nat} (h : a < b) : cmpZ a b = -1 := if_pos h
theorem cmpZ_gt {a b : Nat} (h : b < a) : cmpZ a b = 1 := by unfold cmpZ; rw [if_neg (by omega), if_neg (by omega)]
theorem Cmp_any (a b : Nat) (w : World) (ha : a < 2 ^ 256) (hb : b < 2 ^ 256) : Calls Try.prog 66 #[.agg (natsV .u64 (wds 4 a)).toArray, .agg (natsV .u64 (wds 4 b)).toArray] w fun e w' => e = .returned (.int .i64 (cmpZ a b)) ∧ Below w.heap.size w w' := by
 have HS := Hd (fun w => Sub_any a b w ha hb)
 have LS := Hd (wds_len 4 (a + 2 ^ 256 - b))
 have LA := Hd (wds_len 4 a)
 have LB := Hd (wds_len 4 b)
 have HI := wds_inj 4 a b ha hb
 have q := (fun w => eql24 (wds 4 a) (wds 4 b) LA.out LB.out w)
 rw [HI] at q
 clear HI
 generalize wds 4 (a + 2 ^ 256 - b) = ls at *
 generalize wds 4 a = la at *
 generalize wds 4 b = lb at *
 have B1 := Hd ((Blk.new w 24 (natsV .u64 la)).alloc (.cells (natsV .u64 lb).toArray 24))
 have B2 := Hd (Blk.new2 w (.cells (natsV .u64 la).toArray 24) 24 (natsV .u64 lb))
 have BEL := Hd (((Below.refl w.heap.size w).alloc (Nat.le_refl _) (.cells (natsV .u64 la).toArray 24)).alloc (by simp) (.cells (natsV .u64 lb).toArray 24))
 have hbel := BEL.out
 by_cases hab : a = b
 · rw [decide_eq_true hab] at q
   subst hab
   rw [cmpZ_self]
   go_enter Try.func66, Try.ntmps66
   go_wp2_with (first | (refine ld24 rfl (.tmp 2) rfl w.heap.size rfl la B1.out LA.out ?_) | (refine ld24 rfl (.tmp 3) rfl (w.heap.size + 1) rfl lb B2.out LB.out ?_))
   go_ret
   exact ⟨rfl, hbel⟩
 · rw [decide_eq_false hab] at q
   by_cases hlt : a < b
   · rw [cmpZ_lt hlt]
     rw [show lt01 a b = 1 from if_pos hlt] at HS
     go_enter Try.func66, Try.ntmps66
     go_wp2_with (first | (refine ld24 rfl (.tmp 2) rfl w.heap.size rfl la B1.out LA.out ?_) | (refine ld24 rfl (.tmp 3) rfl (w.heap.size + 1) rfl lb B2.out LB.out ?_))
     refine (HS.out _).mono ?_
     rintro e w1 ⟨rfl, hb1⟩
     have hbel2 := below_setRow' ((hbel.trans (hb1.mono hbel.size)).alloc (Nat.le_trans hbel.size hb1.size) (.cells (natsV .u64 (zeros 4)).toArray 24)) (show w.heap.size ≤ w1.heap.size from Nat.le_trans hbel.size hb1.size |> Nat.le_trans (by simp)) (natsV .u64 ls).toArray
     have Z := Hd (Blk.new w1 24 (natsV .u64 (zeros 4)))
     clear q
     go_wp2_with (refine st24 rfl (.tmp 5) (.tmp 14) rfl w1.heap.size rfl ls rfl LS.out (zeros 4) Z.out rfl ?_)
     go_ret
     exact ⟨rfl, hbel2⟩
   · rw [cmpZ_gt (show b < a by omega)]
     rw [show lt01 a b = 0 from if_neg hlt] at HS
     go_enter Try.func66, Try.ntmps66
     go_wp2_with (first | (refine ld24 rfl (.tmp 2) rfl w.heap.size rfl la B1.out LA.out ?_) | (refine ld24 rfl (.tmp 3) rfl (w.heap.size + 1) rfl lb B2.out LB.out ?_))
     refine (HS.out _).mono ?_
     rintro e w1 ⟨rfl, hb1⟩
     have hbel2 := below_setRow' ((hbel.trans (hb1.mono hbel.size)).alloc (Nat.le_trans hbel.size hb1.size) (.cells (natsV .u64 (zeros 4)).toArray 24)) (show w.heap.size ≤ w1.heap.size from Nat.le_trans hbel.size hb1.size |> Nat.le_trans (by simp)) (natsV .u64 ls).toArray
     have Z := Hd (Blk.new w1 24 (natsV .u64 (zeros 4)))
     clear q
     go_wp2_with (refine st24 rfl (.tmp 5) (.tmp 14) rfl w1.heap.size rfl ls rfl LS.out (zeros 4) Z.out rfl ?_)
     go_ret
     exact ⟨rfl, hbel2⟩
theorem cmp_words {B a b s : Nat} (hB : 0 < B) (h : a / B ^ (s + 1) = b / B ^ (s + 1)) :
   (dgt B a s < dgt B b s → a < b) ∧ (dgt B b s < dgt B a s → b < a) ∧ (dgt B a s = dgt B b s → a / B ^ s = b / B ^ s) := by
 have hM := Nat.pow_pos (n := s) hB
 have e1 : ∀ v, v / B ^ (s + 1) = v / B ^ s / B := fun v => by rw [Nat.pow_succ, Nat.div_div_eq_div_mul]
 have key : ∀ u v, u / B ^ s / B = v / B ^ s / B → dgt B u s < dgt B v s → u < v := by
   intro u v he hd
   have h1 : u / B ^ s < v / B ^ s := by
     have h2 := Nat.mod_add_div (u / B ^ s) B
     have h3 := Nat.mod_add_div (v / B ^ s) B
     unfold dgt at hd
     rw [he] at h2
     omega
   have h4 := Nat.mod_add_div u (B ^ s)
   have h5 := Nat.mod_add_div v (B ^ s)
   have h6 := Nat.mod_lt u hM
   have h7 := Nat.mul_le_mul_left (B ^ s) (show u / B ^ s + 1 ≤ v / B ^ s from h1)
   rw [Nat.mul_add, Nat.mul_one] at h7
   have h8 := Nat.mod_lt v hM
   generalize B ^ s * (u / B ^ s) = P at *
   generalize B ^ s * (v / B ^ s) = Q at *
   generalize u % B ^ s = r at *
   generalize v % B ^ s = r2 at *
   generalize B ^ s = M at *
   clear he hd h1 e1 h
   omega
 rw [e1, e1] at h
 refine ⟨key a b h, key b a h.symm, fun hd => ?_⟩
 have h2 := Nat.mod_add_div (a / B ^ s) B
 have h3 := Nat.mod_add_div (b / B ^ s) B
 unfold dgt at hd
 rw [← h2, ← h3, hd, h]
def IsPrime (p : Nat) : Prop := 2 ≤ p ∧ ∀ d, d ∣ p → d = 1 ∨ d = p
theorem IsPrime.coprime {p a : Nat} (hp : IsPrime p) (h : ¬ p ∣ a) : Nat.Coprime p a := by
 rcases hp.2 (Nat.gcd p a) (Nat.gcd_dvd_left p a) with h1 | h1
 · exact h1
 · exact absurd (h1 ▸ Nat.gcd_dvd_right p a) h
theorem IsPrime.dvd_mul {p a b : Nat} (hp : IsPrime p) (h : p ∣ a * b) : p ∣ a ∨ p ∣ b := by
 by_cases ha : p ∣ a
 · exact Or.inl ha
 · exact Or.inr ((hp.coprime ha).dvd_of_dvd_mul_left h)
theorem IsPrime.not_dvd_one {p : Nat} (hp : IsPrime p) : ¬ p ∣ 1 := fun h => by
 have := Nat.le_of_dvd (by omega) h
 have := hp.1
 omega
def prodL : List Nat → Nat | [] => 1 | x :: l => x * prodL l
theorem prodL_perm {l m : List Nat} (h : l.Perm m) : prodL l = prodL m := by
 induction h with
 | nil => rfl
 | cons x _ ih => simp only [prodL, ih]
 | swap x y l => simp only [prodL]; rw [← Nat.mul_assoc, Nat.mul_comm y x, Nat.mul_assoc]
 | trans _ _ a b => rw [a, b]
theorem perm_of_nodup {l m : List Nat} (hl : l.Nodup) (hs : ∀ x ∈ l, x ∈ m) (hn : m.length ≤ l.length) : l.Perm m := by
 induction l generalizing m with
 | nil =>
   have : m = [] := List.length_eq_zero_iff.1 (by simpa using hn)
   subst this; exact .nil
 | cons x l ih =>
   have hx : x ∈ m := hs x (by simp)
   have hp := List.perm_cons_erase hx
   refine .trans (.cons x (ih (List.nodup_cons.1 hl).2 (fun y hy => ?_) ?_)) hp.symm
   · have hne : y ≠ x := fun h => (List.nodup_cons.1 hl).1 (h ▸ hy)
     exact (List.mem_erase_of_ne hne).2 (hs y (by simp [hy]))
   · have := List.length_erase_of_mem hx
     have h0 : 0 < m.length := List.length_pos_of_mem hx
     simp only [List.length_cons] at hn
     omega
theorem prodL_map (a p : Nat) (l : List Nat) : prodL (l.map (fun x => a * x % p)) % p = a ^ l.length * prodL l % p := by
 induction l with
 | nil => simp [prodL]
 | cons x l ih =>
   simp only [List.map_cons, prodL, List.length_cons]
   rw [Nat.mul_mod, ih, Nat.mod_mod, ← Nat.mul_mod, Nat.pow_succ]
   congr 1
   simp only [Nat.mul_assoc, Nat.mul_comm, Nat.mul_left_comm]
theorem IsPrime.not_dvd_prodL {p : Nat} (hp : IsPrime p) {l : List Nat} (h : ∀ x ∈ l, ¬ p ∣ x) : ¬ p ∣ prodL l := by
 induction l with
 | nil => exact hp.not_dvd_one
 | cons x l ih =>
   intro hd
   rcases hp.dvd_mul hd with h1 | h1
   · exact h x (by simp) h1
   · exact ih (fun y hy => h y (by simp [hy])) h1
theorem mod_eq_of_dvd_sub {p x y : Nat} (hxy : y ≤ x) (h : p ∣ x - y) : x % p = y % p := by
 obtain ⟨k, hk⟩ := h
 have : x = y + p * k := by omega
 rw [this, Nat.add_mul_mod_self_left]
theorem dvd_sub_of_mod_eq {p x y : Nat} (hxy : y ≤ x) (h : x % p = y % p) : p ∣ x - y := by
 have := Nat.sub_mod_eq_zero_of_mod_eq h
 exact Nat.dvd_of_mod_eq_zero this
theorem IsPrime.cancel {p x y z : Nat} (hp : IsPrime p) (hz : ¬ p ∣ z) (h : x * z % p = y * z % p) : x % p = y % p := by
 rcases Nat.le_total y x with hxy | hxy
 · have h1 := dvd_sub_of_mod_eq (Nat.mul_le_mul_right z hxy) h
   rw [← Nat.sub_mul] at h1
   rcases hp.dvd_mul h1 with h2 | h2
   · exact mod_eq_of_dvd_sub hxy h2
   · exact absurd h2 hz
 · have h1 := dvd_sub_of_mod_eq (Nat.mul_le_mul_right z hxy) h.symm
   rw [← Nat.sub_mul] at h1
   rcases hp.dvd_mul h1 with h2 | h2
   · exact (mod_eq_of_dvd_sub hxy h2).symm
   · exact absurd h2 hz
theorem fermat {p a : Nat} (hp : IsPrime p) (ha : ¬ p ∣ a) : a ^ (p - 1) % p = 1 := by
 have h2 := hp.1
 let l := List.range' 1 (p - 1)
 have hmem : ∀ x, x ∈ l ↔ 1 ≤ x ∧ x < p := by
   intro x; simp only [l, List.mem_range'_1]; omega
 have hnd : ∀ x ∈ l, ¬ p ∣ x := by
   intro x hx hd
   have := (hmem x).1 hx
   have := Nat.le_of_dvd (by omega) hd
   omega
 have hperm : (l.map (fun x => a * x % p)).Perm l := by
   refine perm_of_nodup ?_ ?_ (by simp)
   · refine List.Pairwise.map _ (R := fun x y => ¬ (x % p = y % p)) ?_ ?_
     · intro x y hne heq
       apply hne
       refine hp.cancel ha ?_
       rw [Nat.mul_comm x, Nat.mul_comm y]; exact heq
     · have hn : l.Nodup := List.nodup_range'
       refine List.Pairwise.imp_of_mem ?_ hn
       intro x y hx hy hne he
       have hx' := (hmem x).1 hx
       have hy' := (hmem y).1 hy
       rw [Nat.mod_eq_of_lt hx'.2, Nat.mod_eq_of_lt hy'.2] at he
       exact hne he
   · intro x hx
     obtain ⟨y, hy, rfl⟩ := List.mem_map.1 hx
     refine (hmem _).2 ⟨?_, Nat.mod_lt _ (by omega)⟩
     rcases Nat.eq_zero_or_pos (a * y % p) with h0 | h0
     · exfalso
       rcases hp.dvd_mul (Nat.dvd_of_mod_eq_zero h0) with h1 | h1
       · exact ha h1
       · exact hnd y hy h1
     · exact h0
 have hprod := prodL_map a p l
 rw [prodL_perm hperm] at hprod
 have hlen : l.length = p - 1 := by simp [l]
 rw [hlen] at hprod
 have := hp.cancel (x := a ^ (p - 1)) (y := 1) (hp.not_dvd_prodL hnd) (by rw [Nat.one_mul]; exact hprod.symm)
 rw [this, Nat.mod_eq_of_lt (by omega)]
theorem prime_factor (n : Nat) : 2 ≤ n → IsPrime n ∨ ∃ s, IsPrime s ∧ s ∣ n ∧ s * s ≤ n := by
 induction n using Nat.strongRecOn with
 | ind n ih =>
   intro hn
   by_cases hp : IsPrime n
   · exact Or.inl hp
   right
   have : ∃ d, d ∣ n ∧ d ≠ 1 ∧ d ≠ n := by
     refine Classical.byContradiction fun hc => hp ⟨hn, fun d hd => ?_⟩
     refine Classical.byContradiction fun h2 => hc ⟨d, hd, ?_, ?_⟩
     · exact fun h => h2 (Or.inl h)
     · exact fun h => h2 (Or.inr h)
   obtain ⟨d, ⟨e, hde⟩, h1, h2⟩ := this
   have small : ∀ x y : Nat, n = x * y → x ≤ y → x ≠ 1 → ∃ s, IsPrime s ∧ s ∣ n ∧ s * s ≤ n := by
     intro x y hxy hle hx1
     have hx0 : x ≠ 0 := by intro h; subst h; simp at hxy; omega
     have hxx : x * x ≤ n := by rw [hxy]; exact Nat.mul_le_mul_left x hle
     have hxn : x < n := by
       have : x * 2 ≤ x * x := Nat.mul_le_mul_left x (by omega)
       omega
     rcases ih x hxn (by omega) with hpx | ⟨s, hs, hsx, hss⟩
     · exact ⟨x, hpx, ⟨y, hxy⟩, hxx⟩
     · refine ⟨s, hs, Nat.dvd_trans hsx ⟨y, hxy⟩, ?_⟩
       omega
   rcases Nat.le_total d e with hle | hle
   · exact small d e hde hle h1
   · refine small e d (by rw [hde, Nat.mul_comm]) hle ?_
     intro he; apply h2; rw [hde, he, Nat.mul_one]
def powm (n : Nat) : Nat → Nat → Nat → Nat
 | 0, _, _ => 1 % n
 | k + 1, a, e => if e % 2 = 1 then a * powm n k (a * a % n) (e / 2) % n else powm n k (a * a % n) (e / 2)
theorem powm_eq (n k : Nat) : ∀ a e, e < 2 ^ k → powm n k a e = a ^ e % n := by
 induction k with
 | zero => intro a e h; have : e = 0 := by simpa using h
           subst this; simp [powm]
 | succ k ih =>
   intro a e h
   have h2 : e / 2 < 2 ^ k := by rw [Nat.pow_succ] at h; omega
   have hsq : (a * a % n) ^ (e / 2) % n = a ^ (2 * (e / 2)) % n := by
     rw [← Nat.pow_mod, Nat.pow_mul, Nat.pow_two]
   simp only [powm]
   rw [ih _ _ h2, hsq]
   split
   · rename_i h1
     rw [Nat.mul_mod, Nat.mod_mod, ← Nat.mul_mod]
     have : e = 2 * (e / 2) + 1 := by omega
     conv => rhs; rw [this, Nat.pow_succ, Nat.mul_comm]
   · have : e = 2 * (e / 2) := by omega
     conv => rhs; rw [this]
theorem pock {n q r a : Nat} (hn : 2 ≤ n) (hq : IsPrime q) (hm : n - 1 = q * r) (h1 : a ^ (n - 1) % n = 1)
   (h2 : Nat.gcd (a ^ r % n + (n - 1)) n = 1) (s : Nat) (hs : IsPrime s) (hsn : s ∣ n) : q ∣ s - 1 := by
 have hs2 := hs.1
 by_cases hd : q ∣ s - 1
 · exact hd
 exfalso
 have hone : a ^ (n - 1) % s = 1 := by
   have := Nat.mod_mod_of_dvd (a ^ (n - 1)) hsn
   rw [h1] at this; rw [← this]; exact Nat.mod_eq_of_lt (by omega)
 have hsa : ¬ s ∣ a := by
   intro h
   have h3 : s ∣ a ^ (n - 1) := by
     have : n - 1 = (n - 2) + 1 := by omega
     rw [this, Nat.pow_succ]; exact Nat.dvd_trans h (Nat.dvd_mul_left _ _)
   rw [Nat.mod_eq_zero_of_dvd h3] at hone
   omega
 have hsb : ¬ s ∣ a ^ r := by
   intro h
   have : s ∣ (a ^ r) ^ q := by
     have : q = (q - 1) + 1 := by have := hq.1; omega
     rw [this, Nat.pow_succ]; exact Nat.dvd_trans h (Nat.dvd_mul_left _ _)
   rw [← Nat.pow_mul, Nat.mul_comm, ← hm] at this
   rw [Nat.mod_eq_zero_of_dvd this] at hone
   omega
 have hbq : (a ^ r) ^ q % s = 1 := by rw [← Nat.pow_mul, Nat.mul_comm, ← hm]; exact hone
 have hbs : (a ^ r) ^ (s - 1) % s = 1 := fermat hs hsb
 generalize a ^ r = b at *
 -- the powers of b that are 1 are closed under gcd
 have hg : ∀ x y : Nat, b ^ x % s = 1 → b ^ y % s = 1 → b ^ (Nat.gcd x y) % s = 1 := by
   intro x y
   induction x, y using Nat.gcd.induction with
   | H0 y => intro _ h; simpa using h
   | H1 x y hx ih =>
     intro h h'
     rw [Nat.gcd_rec]
     refine ih ?_ h
     have e : y = x * (y / x) + y % x := (Nat.div_add_mod y x).symm
     have hz : ¬ s ∣ b ^ (x * (y / x)) := by
       rw [Nat.pow_mul]
       intro hd
       have := Nat.mod_eq_zero_of_dvd hd
       rw [Nat.pow_mod, h, Nat.one_pow, Nat.mod_eq_of_lt (by omega)] at this
       omega
     have := hs.cancel (x := b ^ (y % x)) (y := 1) hz (by
       rw [Nat.one_mul, Nat.mul_comm, ← Nat.pow_add, ← e, h', Nat.pow_mul, Nat.pow_mod, h, Nat.one_pow, Nat.mod_eq_of_lt (by omega)])
     rw [this, Nat.mod_eq_of_lt (by omega)]
 have := hg q (s - 1) hbq hbs
 rw [show Nat.gcd q (s - 1) = 1 from hq.coprime hd, Nat.pow_one] at this
 -- then s divides both
 have hbig : s ∣ b % n + (n - 1) := by
   have e1 : b % n % s = 1 := by rw [Nat.mod_mod_of_dvd _ hsn]; exact this
   obtain ⟨k, hk⟩ := hsn
   have e2 : b % n = s * (b % n / s) + 1 := by have := Nat.div_add_mod (b % n) s; omega
   refine ⟨b % n / s + k, ?_⟩
   rw [Nat.mul_add, ← hk]; omega
 have h3 := Nat.dvd_gcd hbig hsn
 rw [h2] at h3
 exact hs.not_dvd_one h3
theorem prime_of_pock1 {n q r a : Nat} (hn : 2 ≤ n) (hq : IsPrime q) (hm : n - 1 = q * r) (h1 : a ^ (n - 1) % n = 1)
   (h2 : Nat.gcd (a ^ r % n + (n - 1)) n = 1) (hb : n < (q + 1) * (q + 1)) : IsPrime n := by
 rcases prime_factor n hn with h | ⟨s, hs, hsn, hss⟩
 · exact h
 · exfalso
   have hd := pock hn hq hm h1 h2 s hs hsn
   have hs2 := hs.1
   have := Nat.le_of_dvd (by omega) hd
   have := Nat.mul_le_mul (show q + 1 ≤ s by omega) (show q + 1 ≤ s by omega)
   omega
theorem prime_of_pock2 {n q1 q2 r1 r2 a : Nat} (hn : 2 ≤ n) (hq1 : IsPrime q1) (hq2 : IsPrime q2) (hne : q1 ≠ q2) (hm1 : n - 1 = q1 * r1) (hm2 : n - 1 = q2 * r2)
   (h1 : a ^ (n - 1) % n = 1) (h2 : Nat.gcd (a ^ r1 % n + (n - 1)) n = 1) (h3 : Nat.gcd (a ^ r2 % n + (n - 1)) n = 1) (hb : n < (q1 * q2 + 1) * (q1 * q2 + 1)) : IsPrime n := by
 rcases prime_factor n hn with h | ⟨s, hs, hsn, hss⟩
 · exact h
 · exfalso
   have hd1 := pock hn hq1 hm1 h1 h2 s hs hsn
   have hd2 := pock hn hq2 hm2 h1 h3 s hs hsn
   have hc : Nat.Coprime q1 q2 := hq1.coprime (fun h => by
     rcases hq2.2 q1 h with h | h
     · have := hq1.1; omega
     · exact hne h)
   have hd := Nat.Coprime.mul_dvd_of_dvd_of_dvd hc hd1 hd2
   have hs2 := hs.1
   have := Nat.le_of_dvd (by omega) hd
   have := Nat.mul_le_mul (show q1 * q2 + 1 ≤ s by omega) (show q1 * q2 + 1 ≤ s by omega)
   omega
def trial (p : Nat) : Nat → Bool | 0 => true | k + 1 => p % (k + 2) != 0 && trial p k
theorem trial_spec (p k : Nat) : trial p k = true → ∀ d, 2 ≤ d → d < k + 2 → ¬ d ∣ p := by
 induction k with
 | zero => intro _ d h1 h2; omega
 | succ k ih =>
   intro h d h1 h2 hd
   simp only [trial, Bool.and_eq_true, bne_iff_ne, ne_eq] at h
   rcases Nat.lt_or_ge d (k + 2) with h3 | h3
   · exact ih h.2 d h1 h3 hd
   · have : d = k + 2 := by omega
     subst this
     exact h.1 (Nat.mod_eq_zero_of_dvd hd)
theorem prime_of_trial {p : Nat} (k : Nat) (h : (trial p k && decide (2 ≤ p) && decide (p < (k + 2) * (k + 2))) = true) : IsPrime p := by
 simp only [Bool.and_eq_true, decide_eq_true_eq] at h
 rcases prime_factor p h.1.2 with hp | ⟨s, hs, hsn, hss⟩
 · exact hp
 · exfalso
   refine trial_spec p k h.1.1 s hs.1 ?_ hsn
   rcases Nat.lt_or_ge s (k + 2) with h3 | h3
   · exact h3
   · have := Nat.mul_le_mul h3 h3; omega
def pockB (n q r a k : Nat) : Bool := decide (2 ≤ n) && decide (n - 1 = q * r) && decide (n < 2 ^ k) && decide (powm n k a (n - 1) = 1) && decide (Nat.gcd (powm n k a r + (n - 1)) n = 1)
theorem pockB_spec {n q r a k : Nat} (h : pockB n q r a k = true) (hq : IsPrime q) : 2 ≤ n ∧ n - 1 = q * r ∧ a ^ (n - 1) % n = 1 ∧ Nat.gcd (a ^ r % n + (n - 1)) n = 1 := by
 simp only [pockB, Bool.and_eq_true, decide_eq_true_eq] at h
 obtain ⟨⟨⟨⟨h1, h2⟩, h3⟩, h4⟩, h5⟩ := h
 have hr : r ≤ n - 1 := by rw [h2]; have := Nat.mul_le_mul_right r (show 1 ≤ q by have := hq.1; omega); omega
 refine ⟨h1, h2, ?_, ?_⟩
 · rw [← powm_eq n k a (n - 1) (by omega)]; exact h4
 · rw [← powm_eq n k a r (by omega)]; exact h5
theorem prime_by1 {n : Nat} (q r a k : Nat) (hq : IsPrime q) (h : (pockB n q r a k && decide (n < (q + 1) * (q + 1))) = true) : IsPrime n := by
 simp only [Bool.and_eq_true, decide_eq_true_eq] at h
 obtain ⟨h1, h2, h3, h4⟩ := pockB_spec h.1 hq
 exact prime_of_pock1 h1 hq h2 h3 h4 h.2
theorem prime_by2 {n : Nat} (q1 r1 q2 r2 a k : Nat) (hq1 : IsPrime q1) (hq2 : IsPrime q2) (h : (pockB n q1 r1 a k && pockB n q2 r2 a k && decide (q1 ≠ q2) && decide (n < (q1 * q2 + 1) * (q1 * q2 + 1))) = true) : IsPrime n := by
 simp only [Bool.and_eq_true, decide_eq_true_eq] at h
 obtain ⟨⟨⟨h0, h1⟩, h2⟩, h3⟩ := h
 obtain ⟨a1, a2, a3, a4⟩ := pockB_spec h0 hq1
 obtain ⟨b1, b2, b3, b4⟩ := pockB_spec h1 hq2
 exact prime_of_pock2 a1 hq1 hq2 h2 a2 b2 a3 a4 b4 h3
set_option maxRecDepth 100000
set_option exponentiation.threshold 100000
def mP : Nat := 115792089210356248762697446949407573530086143415290314195533631308867097853951
def mN : Nat := 115792089210356248762697446949407573529996955224135760342422259061068512044369
theorem prime_704251 : IsPrime 704251 := prime_of_trial 839 (by decide +kernel)
theorem prime_78283 : IsPrime 78283 := prime_of_trial 279 (by decide +kernel)
theorem prime_46076956964474543 : IsPrime 46076956964474543 := prime_by2 704251 65426896042 78283 588594675274 2 56 prime_704251 prime_78283 (by decide +kernel)
theorem prime_3677 : IsPrime 3677 := prime_of_trial 60 (by decide +kernel)
theorem prime_197 : IsPrime 197 := prime_of_trial 14 (by decide +kernel)
theorem prime_66417393611 : IsPrime 66417393611 := prime_by2 3677 18062930 197 337144130 2 36 prime_3677 prime_197 (by decide +kernel)
theorem prime_11290956913871 : IsPrime 11290956913871 := prime_by1 66417393611 170 2 44 prime_66417393611 (by decide +kernel)
theorem prime_774023187263532362759620327192479577272145303 : IsPrime 774023187263532362759620327192479577272145303 := prime_by2 46076956964474543 16798487535978261528513091914 11290956913871 68552487904071337216976429044362 2 150 prime_46076956964474543 prime_11290956913871 (by decide +kernel)
theorem prime_835945042244614951780389953367877943453916927241 : IsPrime 835945042244614951780389953367877943453916927241 := prime_by1 774023187263532362759620327192479577272145303 1080 2 160 prime_774023187263532362759620327192479577272145303 (by decide +kernel)
theorem prime_115792089210356248762697446949407573530086143415290314195533631308867097853951 : IsPrime 115792089210356248762697446949407573530086143415290314195533631308867097853951 := prime_by1 835945042244614951780389953367877943453916927241 138516389665330497628477975950 2 256 prime_835945042244614951780389953367877943453916927241 (by decide +kernel)
theorem prime_191039911 : IsPrime 191039911 := prime_of_trial 13821 (by decide +kernel)
theorem prime_3023 : IsPrime 3023 := prime_of_trial 54 (by decide +kernel)
theorem prime_208150935158385979 : IsPrime 208150935158385979 := prime_by2 191039911 1089567798 3023 68855750962086 2 58 prime_191039911 prime_3023 (by decide +kernel)
theorem prime_2624747550333869278416773953 : IsPrime 2624747550333869278416773953 := prime_by1 208150935158385979 12609828288 2 92 prime_208150935158385979 (by decide +kernel)
theorem prime_3969899 : IsPrime 3969899 := prime_of_trial 1992 (by decide +kernel)
theorem prime_1002328039319 : IsPrime 1002328039319 := prime_by1 3969899 252482 2 40 prime_3969899 (by decide +kernel)
theorem prime_115792089210356248762697446949407573529996955224135760342422259061068512044369 : IsPrime 115792089210356248762697446949407573529996955224135760342422259061068512044369 := prime_by2 2624747550333869278416773953 44115514726598157485257412756682202504057278751056 1002328039319 115523146782392231311324540489179156958562150085032625197564538672 2 256 prime_2624747550333869278416773953 prime_1002328039319 (by decide +kernel)
theorem prime_mP : IsPrime mP := prime_115792089210356248762697446949407573530086143415290314195533631308867097853951
theorem prime_mN : IsPrime mN := prime_115792089210356248762697446949407573529996955224135760342422259061068512044369
theorem num_lit0 : (.agg #[.int .u64 0, .int .u64 0, .int .u64 0, .int .u64 0] : Value) = .agg (natsV .u64 (wds 4 0)).toArray := by
 rw [show wds 4 0 = [0, 0, 0, 0] by decide +kernel]; rfl
theorem num_lit1 : (.agg #[.int .u64 1, .int .u64 0, .int .u64 0, .int .u64 0] : Value) = .agg (natsV .u64 (wds 4 1)).toArray := by
 rw [show wds 4 1 = [1, 0, 0, 0] by decide +kernel]; rfl
theorem num_zero : wds 4 0 = zeros 4 := by decide +kernel
theorem ldw {w : World} {ops : Array Oper} {rest : List Oper} {o : Oper} {a : Act} {Q : Exit → Act → World → Prop} (t : TypeId) (x : Operand) (ho : o.op = .load t x) (g : Nat) (hx : a.eval x = .pointer (some ⟨g, 0, none⟩)) (k : IntKind) (l : List Nat) (hg : Blk w g t (natsV k l))
   (n : Nat) (e : TypeId) (hu : Try.prog.underlying t = some (.array n e)) (hi : (Try.prog.info? t).map (·.size) = some l.length) (j : Nat) (hgd : o.guard = some (j, true)) (d : Tmp) (hd : (ops[j]?).bind (·.dst) = some d) (hv : a.tmps[d]? = some (.bool true))
   (h : wpList Try.prog ops Q rest (a.put o.dst (.agg (natsV k l).toArray)) w) : wpList Try.prog ops Q (o :: rest) a w :=
 wpList_want (by simp [Region.wanted, hgd, yielded, hd, hv]) fun _ hK => wp_load_row t x ho g hx t (natsV k l).toArray (0, 0) _ hg hu rfl (by rw [hi, size_nats]) (hK _ _ h)
def mlo (a b c d : Nat) : Nat := (a * b + c + d) % 2 ^ 64
def mhi (a b c d : Nat) : Nat := (a * b + c + d) / 2 ^ 64
theorem mlo_lt (a b c d : Nat) : mlo a b c d < 2 ^ 64 := Nat.mod_lt _ (by decide)
theorem mm_eq (a b c d : Nat) : mlo a b c d + 2 ^ 64 * mhi a b c d = a * b + c + d := Nat.mod_add_div _ _
theorem mhi_lt (a b c d : Nat) (ha : a < 2 ^ 64) (hb : b < 2 ^ 64) (hc : c < 2 ^ 64) (hd : d < 2 ^ 64) : mhi a b c d < 2 ^ 64 := by
 unfold mhi
 rw [Nat.div_lt_iff_lt_mul (by decide)]
 have h1 : a * b ≤ (2 ^ 64 - 1) * (2 ^ 64 - 1) := Nat.mul_le_mul (by omega) (by omega)
 have h2 : (2 ^ 64 - 1) * (2 ^ 64 - 1) = 2 ^ 64 * 2 ^ 64 - 2 * 2 ^ 64 + 1 := by decide
 have h3 : 2 ^ 64 * 2 ^ 64 = 340282366920938463463374607431768211456 := by decide
 omega
theorem mul_hb {x y : Nat} (hx : x < 4294967296) (hy : y < 4294967296) : x * y ≤ 18446744065119617025 := by
 have := Nat.mul_le_mul (show x ≤ 4294967295 by omega) (show y ≤ 4294967295 by omega)
 omega
theorem mul_parts (a b a0 a1 b0 b1 : Nat) (ha : a = a0 + 4294967296 * a1) (hb : b = b0 + 4294967296 * b1) : a * b = a0 * b0 + 4294967296 * (a1 * b0) + 4294967296 * (a0 * b1) + 18446744073709551616 * (a1 * b1) := by
 subst ha hb
 rw [Nat.add_mul, Nat.mul_add, Nat.mul_add]
 have e1 : a0 * (4294967296 * b1) = 4294967296 * (a0 * b1) := by rw [← Nat.mul_assoc, Nat.mul_comm a0, Nat.mul_assoc]
 have e2 : 4294967296 * a1 * b0 = 4294967296 * (a1 * b0) := Nat.mul_assoc _ _ _
 have e3 : 4294967296 * a1 * (4294967296 * b1) = 18446744073709551616 * (a1 * b1) := by
   rw [Nat.mul_assoc, ← Nat.mul_assoc a1, Nat.mul_comm a1, Nat.mul_assoc, ← Nat.mul_assoc]
 rw [e1, e2, e3]; omega
theorem lo_and (v : Nat) : bits .and .u64 (v : Int) 4294967295 = ((v % 4294967296 : Nat) : Int) := by
 have h := u64_ba v 4294967295
 have e : ba 64 v 4294967295 = v % 4294967296 := by
   unfold ba
   rw [show 4294967295 % 2 ^ 64 = 2 ^ 32 - 1 from rfl, Nat.and_two_pow_sub_one_eq_mod, Nat.mod_mod_of_dvd _ (by decide)]
 rw [e] at h
 exact h
theorem ma_sum (p x y : Nat) (h : p ≤ 18446744065119617025) (hx : x < 4294967296) (hy : y < 4294967296) : p + x < 18446744073709551616 ∧ p + x + y < 18446744073709551616 := by omega
theorem ma_lo32 (v : Nat) : v % 4294967296 < 4294967296 := Nat.mod_lt _ (by decide)
theorem ma_hi32 (v : Nat) (h : v < 18446744073709551616) : v / 4294967296 < 4294967296 := by omega
theorem ma_fin (ab c d p00 p10 p01 p11 : Nat) (hab : ab = p00 + 4294967296 * p10 + 4294967296 * p01 + 18446744073709551616 * p11) (f s u : Nat) (hf : f = p00 + c % 4294967296 + d % 4294967296) (hs : s = p10 + c / 4294967296 + f / 4294967296) (hu : u = p01 + d / 4294967296 + s % 4294967296) :
   (ab + c + d) % 18446744073709551616 = 4294967296 * (u % 4294967296) + f % 4294967296 ∧ (ab + c + d) / 18446744073709551616 = p11 + s / 4294967296 + u / 4294967296 := by omega
theorem w_mul (x y p : Nat) (h : p = x * y) (hp : p ≤ 18446744065119617025) : IntKind.u64.wrap ((x : Int) * (y : Int)) = (p : Int) := by
 rw [← Int.natCast_mul, ← h, u64_cut, Nat.mod_eq_of_lt (by omega)]
theorem w_add (x y p : Nat) (h : p = x + y) (hp : p < 18446744073709551616) : IntKind.u64.wrap ((x : Int) + (y : Int)) = (p : Int) := by
 rw [IntKind.wrap_u64]; omega
theorem w_lo (v p : Nat) (h : p = v % 4294967296) : bits .and .u64 (v : Int) 4294967295 = (p : Int) := by rw [lo_and, h]
theorem w_hi (v p : Nat) (h : p = v / 4294967296) : (v : Int) / 4294967296 = (p : Int) := by omega
theorem w_up (v l p : Nat) (hl : l = v % 4294967296) (h : p = 4294967296 * l) : IntKind.u64.wrap ((v : Int) * 4294967296) = (p : Int) := by
 rw [IntKind.wrap_u64]; omega
theorem w_or (l f p r : Nat) (hp : p = 4294967296 * l) (hl : l < 4294967296) (hf : f < 4294967296) (hr : r = 4294967296 * l + f) : bits .or .u64 (p : Int) (f : Int) = (r : Int) := by
 have h1 := u64_or_nat p f (by omega) (by omega)
 rw [h1]
 congr 1
 have h2 : (2 ^ 32 * l + f) = 2 ^ 32 * l ||| f := Nat.two_pow_add_eq_or_of_lt (show f < 2 ^ 32 from hf) l
 have h3 : p = 2 ^ 32 * l := hp
 rw [h3, ← h2, hr]
theorem mulAdd_any (a b c d : Nat) (w : World) (ha : a < 2 ^ 64) (hb : b < 2 ^ 64) (hc : c < 2 ^ 64) (hd : d < 2 ^ 64) :
   Calls Try.prog 86 #[.int .u64 (a : Nat), .int .u64 (b : Nat), .int .u64 (c : Nat), .int .u64 (d : Nat)] w fun e w' => e = .returned (.tuple #[.int .u64 (mlo a b c d : Nat), .int .u64 (mhi a b c d : Nat)]) ∧ w = w' := by
 obtain ⟨a0, a0_⟩ : ∃ a0 : Nat, a0 = a % 4294967296 := ⟨_, rfl⟩
 obtain ⟨a1, a1_⟩ : ∃ a1 : Nat, a1 = a / 4294967296 := ⟨_, rfl⟩
 have ra0 := w_lo a a0 a0_
 have ra1 := w_hi a a1 a1_
 have ha0 : a0 < 4294967296 := a0_ ▸ ma_lo32 a
 have ha1 : a1 < 4294967296 := a1_ ▸ ma_hi32 a ha
 obtain ⟨b0, b0_⟩ : ∃ b0 : Nat, b0 = b % 4294967296 := ⟨_, rfl⟩
 obtain ⟨b1, b1_⟩ : ∃ b1 : Nat, b1 = b / 4294967296 := ⟨_, rfl⟩
 have rb0 := w_lo b b0 b0_
 have rb1 := w_hi b b1 b1_
 have hb0 : b0 < 4294967296 := b0_ ▸ ma_lo32 b
 have hb1 : b1 < 4294967296 := b1_ ▸ ma_hi32 b hb
 obtain ⟨c0, c0_⟩ : ∃ c0 : Nat, c0 = c % 4294967296 := ⟨_, rfl⟩
 obtain ⟨c1, c1_⟩ : ∃ c1 : Nat, c1 = c / 4294967296 := ⟨_, rfl⟩
 have rc0 := w_lo c c0 c0_
 have rc1 := w_hi c c1 c1_
 have hc0 : c0 < 4294967296 := c0_ ▸ ma_lo32 c
 have hc1 : c1 < 4294967296 := c1_ ▸ ma_hi32 c hc
 obtain ⟨d0, d0_⟩ : ∃ d0 : Nat, d0 = d % 4294967296 := ⟨_, rfl⟩
 obtain ⟨d1, d1_⟩ : ∃ d1 : Nat, d1 = d / 4294967296 := ⟨_, rfl⟩
 have rd0 := w_lo d d0 d0_
 have rd1 := w_hi d d1 d1_
 have hd0 : d0 < 4294967296 := d0_ ▸ ma_lo32 d
 have hd1 : d1 < 4294967296 := d1_ ▸ ma_hi32 d hd
 obtain ⟨p00, p00_⟩ : ∃ p00 : Nat, p00 = a0 * b0 := ⟨_, rfl⟩
 have hp00 : p00 ≤ 18446744065119617025 := p00_ ▸ mul_hb ha0 hb0
 have rp00 := w_mul a0 b0 p00 p00_ hp00
 obtain ⟨p10, p10_⟩ : ∃ p10 : Nat, p10 = a1 * b0 := ⟨_, rfl⟩
 have hp10 : p10 ≤ 18446744065119617025 := p10_ ▸ mul_hb ha1 hb0
 have rp10 := w_mul a1 b0 p10 p10_ hp10
 obtain ⟨p01, p01_⟩ : ∃ p01 : Nat, p01 = a0 * b1 := ⟨_, rfl⟩
 have hp01 : p01 ≤ 18446744065119617025 := p01_ ▸ mul_hb ha0 hb1
 have rp01 := w_mul a0 b1 p01 p01_ hp01
 obtain ⟨p11, p11_⟩ : ∃ p11 : Nat, p11 = a1 * b1 := ⟨_, rfl⟩
 have hp11 : p11 ≤ 18446744065119617025 := p11_ ▸ mul_hb ha1 hb1
 have rp11 := w_mul a1 b1 p11 p11_ hp11
 have hab := mul_parts a b a0 a1 b0 b1 (by rw [a0_, a1_]; exact (Nat.mod_add_div _ _).symm) (by rw [b0_, b1_]; exact (Nat.mod_add_div _ _).symm)
 rw [← p00_, ← p10_, ← p01_, ← p11_] at hab
 obtain ⟨f1, f1_⟩ : ∃ f1 : Nat, f1 = p00 + c0 := ⟨_, rfl⟩
 obtain ⟨f2, f2_⟩ : ∃ f2 : Nat, f2 = f1 + d0 := ⟨_, rfl⟩
 have hs_f1 := ma_sum p00 c0 d0 hp00 hc0 hd0
 have rf1 := w_add p00 c0 f1 f1_ (f1_ ▸ hs_f1.1)
 have hf2 : f2 < 18446744073709551616 := f2_ ▸ f1_ ▸ hs_f1.2
 have rf2 := w_add f1 d0 f2 f2_ hf2
 obtain ⟨fz, fz_⟩ : ∃ fz : Nat, fz = f2 % 4294967296 := ⟨_, rfl⟩
 obtain ⟨fh, fh_⟩ : ∃ fh : Nat, fh = f2 / 4294967296 := ⟨_, rfl⟩
 have rfz := w_lo f2 fz fz_
 have rfh := w_hi f2 fh fh_
 have hfz : fz < 4294967296 := fz_ ▸ ma_lo32 f2
 have hfh : fh < 4294967296 := fh_ ▸ ma_hi32 f2 hf2
 obtain ⟨s1, s1_⟩ : ∃ s1 : Nat, s1 = p10 + c1 := ⟨_, rfl⟩
 obtain ⟨s2, s2_⟩ : ∃ s2 : Nat, s2 = s1 + fh := ⟨_, rfl⟩
 have hs_s1 := ma_sum p10 c1 fh hp10 hc1 hfh
 have rs1 := w_add p10 c1 s1 s1_ (s1_ ▸ hs_s1.1)
 have hs2 : s2 < 18446744073709551616 := s2_ ▸ s1_ ▸ hs_s1.2
 have rs2 := w_add s1 fh s2 s2_ hs2
 obtain ⟨sl, sl_⟩ : ∃ sl : Nat, sl = s2 % 4294967296 := ⟨_, rfl⟩
 obtain ⟨sh, sh_⟩ : ∃ sh : Nat, sh = s2 / 4294967296 := ⟨_, rfl⟩
 have rsl := w_lo s2 sl sl_
 have rsh := w_hi s2 sh sh_
 have hsl : sl < 4294967296 := sl_ ▸ ma_lo32 s2
 have hsh : sh < 4294967296 := sh_ ▸ ma_hi32 s2 hs2
 obtain ⟨t1, t1_⟩ : ∃ t1 : Nat, t1 = p01 + d1 := ⟨_, rfl⟩
 obtain ⟨t2, t2_⟩ : ∃ t2 : Nat, t2 = t1 + sl := ⟨_, rfl⟩
 have hs_t1 := ma_sum p01 d1 sl hp01 hd1 hsl
 have rt1 := w_add p01 d1 t1 t1_ (t1_ ▸ hs_t1.1)
 have ht2 : t2 < 18446744073709551616 := t2_ ▸ t1_ ▸ hs_t1.2
 have rt2 := w_add t1 sl t2 t2_ ht2
 obtain ⟨tl, tl_⟩ : ∃ tl : Nat, tl = t2 % 4294967296 := ⟨_, rfl⟩
 obtain ⟨th, th_⟩ : ∃ th : Nat, th = t2 / 4294967296 := ⟨_, rfl⟩
 have rtl := w_lo t2 tl tl_
 have rth := w_hi t2 th th_
 have htl : tl < 4294967296 := tl_ ▸ ma_lo32 t2
 have hth : th < 4294967296 := th_ ▸ ma_hi32 t2 ht2
 obtain ⟨u1, u1_⟩ : ∃ u1 : Nat, u1 = p11 + sh := ⟨_, rfl⟩
 obtain ⟨u2, u2_⟩ : ∃ u2 : Nat, u2 = u1 + th := ⟨_, rfl⟩
 have hs_u1 := ma_sum p11 sh th hp11 hsh hth
 have ru1 := w_add p11 sh u1 u1_ (u1_ ▸ hs_u1.1)
 have hu2 : u2 < 18446744073709551616 := u2_ ▸ u1_ ▸ hs_u1.2
 have ru2 := w_add u1 th u2 u2_ hu2
 obtain ⟨tw, tw_⟩ : ∃ tw : Nat, tw = 4294967296 * tl := ⟨_, rfl⟩
 have hfin := ma_fin (a * b) c d p00 p10 p01 p11 hab f2 s2 t2 (by rw [f2_, f1_, c0_, d0_]) (by rw [s2_, s1_, c1_, fh_]) (by rw [t2_, t1_, d1_, sl_])
 have hlow : mlo a b c d = 4294967296 * tl + fz := by rw [tl_, fz_]; exact hfin.1
 have hup : u2 = mhi a b c d := by rw [u2_, u1_, sh_, th_]; exact hfin.2.symm
 have rtw := w_up t2 tl tw tl_ tw_
 have row := w_or tl fz tw (mlo a b c d) tw_ htl hfz hlow
 rw [← hup]
 obtain ⟨lw, hlw⟩ : ∃ lw, lw = mlo a b c d := ⟨_, rfl⟩
 rw [← hlw] at row ⊢
 clear hlw hup hab ha hb hc hd hfin hlow a0_ a1_ b0_ b1_ c0_ c1_ d0_ d1_ p00_ p10_ p01_ p11_ f1_ f2_ fz_ fh_ s1_ s2_ sl_ sh_ t1_ t2_ tl_ th_ u1_ u2_ tw_ hs_f1 hs_s1 hs_t1 hs_u1 rtl hu2
 go_enter Try.func86, Try.ntmps86
 go_wp2_with fail
 go_ret2
 exact ⟨rfl, rfl⟩
end Go.Proofs.Ytdkkombpkojjaaa
