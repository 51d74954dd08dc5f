/- Parts of proofs of statements, each text behind those that it stands on. No condition of its own. -/
import Derived.Test.YtdkkombpkojjaaaD10
namespace Go.Proofs.Ytdkkombpkojjaaa
set_option maxRecDepth 100000
set_option maxHeartbeats 1600000
open Go.RowKit
set_option linter.unusedVariables false
set_option linter.unusedSimpArgs false
theorem pow256' : (2 ^ 64) ^ 4 = 2 ^ 256 := by rw [← Nat.pow_mul]
theorem val_set (B : Nat) : ∀ (l : List Nat) (i x : Nat), i < l.length → val B (l.set i x) + B ^ i * l.getD i 0 = val B l + B ^ i * x
 | [], i, x, h => by simp at h
 | y :: l, 0, x, h => by simp [val]; omega
 | y :: l, i + 1, x, h => by
   have ih := val_set B l i x (by simpa using h)
   simp only [List.set_cons_succ, val, List.getD_cons_succ, Nat.pow_succ]
   have e1 : B ^ i * B * l.getD i 0 = B * (B ^ i * l.getD i 0) := by rw [Nat.mul_comm (B ^ i) B, Nat.mul_assoc]
   have e2 : B ^ i * B * x = B * (B ^ i * x) := by rw [Nat.mul_comm (B ^ i) B, Nat.mul_assoc]
   rw [e1, e2]
   have h2 : B * (val B (l.set i x) + B ^ i * l.getD i 0) = B * (val B l + B ^ i * x) := by rw [ih]
   rw [Nat.mul_add, Nat.mul_add] at h2
   omega
theorem set_lt {l : List Nat} {m i x : Nat} (h : ∀ y ∈ l, y < m) (hx : x < m) : ∀ y ∈ l.set i x, y < m := by
 intro y hy
 rcases List.mem_or_eq_of_mem_set hy with h1 | h1
 · exact h y h1
 · rw [h1]; exact hx
theorem val_zeros (B n : Nat) : val B (zeros n) = 0 := by
 induction n with
 | zero => rfl
 | succ n ih => simp only [zeros, List.replicate_succ, val] at ih ⊢; rw [ih]; simp
theorem zeros_getD (n i : Nat) : (zeros n).getD i 0 = 0 := by
 simp only [zeros, List.getD_eq_getElem?_getD]
 by_cases h : i < n
 · simp [h]
 · simp [h]
theorem zeros_lt (n : Nat) (m : Nat) (hm : 0 < m) : ∀ y ∈ zeros n, y < m := by
 intro y hy
 have := List.eq_of_mem_replicate hy
 rw [this]; exact hm
theorem getD_set_ne (l : List Nat) (i j x : Nat) (h : i ≠ j) : (l.set i x).getD j 0 = l.getD j 0 := by
 simp [List.getD_eq_getElem?_getD, List.getElem?_set_ne h]
theorem mul_step (a b i j P P' pj lo hi cy u v : Nat) (W : Nat)
   (hP : P + W ^ (i + j) * cy = (a % W ^ i) * b + u * (b % W ^ j) * W ^ i)
   (hset : P' + W ^ (i + j) * pj = P + W ^ (i + j) * lo)
   (hm : lo + W * hi = u * v + pj + cy) (hv : v = dgt W b j) :
   P' + W ^ (i + (j + 1)) * hi = (a % W ^ i) * b + u * (b % W ^ (j + 1)) * W ^ i := by
 have e1 : W ^ (i + (j + 1)) * hi = W ^ (i + j) * (W * hi) := by rw [← Nat.add_assoc, Nat.pow_succ, Nat.mul_assoc]
 have e2 : u * (b % W ^ (j + 1)) * W ^ i = u * (b % W ^ j) * W ^ i + W ^ (i + j) * (u * v) := by
   rw [mod_pow_succ, ← hv, Nat.mul_add, Nat.add_mul, Nat.pow_add]
   congr 1
   ac_rfl
 rw [e1, e2]
 have h3 : W ^ (i + j) * (lo + W * hi) = W ^ (i + j) * (u * v + pj + cy) := by rw [hm]
 rw [Nat.mul_add, Nat.mul_add, Nat.mul_add] at h3
 omega
theorem mul_row (W a b i P P' cy u : Nat) (hb : b < W ^ 4) (hP : P + W ^ (i + 4) * cy = (a % W ^ i) * b + u * (b % W ^ 4) * W ^ i) (hset : P' + W ^ (i + 4) * 0 = P + W ^ (i + 4) * cy) (hu : u = dgt W a i) :
   P' + W ^ (i + 1 + 0) * 0 = (a % W ^ (i + 1)) * b + dgt W a (i + 1) * (b % W ^ 0) * W ^ (i + 1) := by
 rw [Nat.mod_eq_of_lt hb] at hP
 rw [mod_pow_succ, Nat.pow_zero, Nat.mod_one]
 have e : (a % W ^ i + W ^ i * dgt W a i) * b = (a % W ^ i) * b + dgt W a i * b * W ^ i := by
   rw [Nat.add_mul]; congr 1; ac_rfl
 rw [e, ← hu, ← hP]
 simp only [Nat.mul_zero, Nat.add_zero, Nat.zero_mul] at hset ⊢
 exact hset
def MulAt (a b i j : Nat) (cy : Nat) (l : List Nat) : Prop := l.length = 8 ∧ (∀ y ∈ l, y < 2 ^ 64) ∧ cy < 2 ^ 64 ∧ val (2 ^ 64) l + (2 ^ 64) ^ (i + j) * cy = (a % (2 ^ 64) ^ i) * b + dgt (2 ^ 64) a i * (b % (2 ^ 64) ^ j) * (2 ^ 64) ^ i ∧ ∀ k, i + 4 ≤ k → l.getD k 0 = 0
theorem MulAt.start (a b : Nat) : MulAt a b 0 0 0 (zeros 8) := by
 refine ⟨rfl, zeros_lt 8 _ (by decide), by decide, ?_, fun k _ => zeros_getD 8 k⟩
 simp [val_zeros, Nat.mod_one]
theorem MulAt.next {a b i j cy : Nat} {l : List Nat} (h : MulAt a b i j cy l) (hi : i < 4) (hj : j < 4) (hb : b < 2 ^ 256) :
   MulAt a b i (j + 1) (mhi (dgt (2 ^ 64) a i) (dgt (2 ^ 64) b j) (l.getD (i + j) 0) cy) (l.set (i + j) (mlo (dgt (2 ^ 64) a i) (dgt (2 ^ 64) b j) (l.getD (i + j) 0) cy)) := by
 obtain ⟨h1, h2, h3, h4, h5⟩ := h
 have hu := dgt_lt (B := 2 ^ 64) (by decide) a i
 have hv := dgt_lt (B := 2 ^ 64) (by decide) b j
 have hp := getD_lt' h2 (by decide) (i + j)
 refine ⟨by rw [List.length_set]; exact h1, set_lt h2 (mlo_lt _ _ _ _), mhi_lt _ _ _ _ hu hv hp h3, ?_, fun k hk => ?_⟩
 · exact mul_step a b i j _ _ (l.getD (i + j) 0) _ _ cy _ _ (2 ^ 64) h4 (val_set (2 ^ 64) l (i + j) _ (by rw [h1]; omega)) (mm_eq _ _ _ _) rfl
 · rw [getD_set_ne _ _ _ _ (by omega)]; exact h5 k hk
theorem MulAt.row {a b i cy : Nat} {l : List Nat} (h : MulAt a b i 4 cy l) (hi : i < 4) (hb : b < 2 ^ 256) : MulAt a b (i + 1) 0 0 (l.set (i + 4) cy) := by
 obtain ⟨h1, h2, h3, h4, h5⟩ := h
 refine ⟨by rw [List.length_set]; exact h1, set_lt h2 h3, by decide, ?_, fun k hk => ?_⟩
 · have hs := val_set (2 ^ 64) l (i + 4) cy (by rw [h1]; omega)
   rw [h5 (i + 4) (by omega)] at hs
   exact mul_row (2 ^ 64) a b i _ _ cy _ (by rw [pow256']; exact hb) h4 hs rfl
 · rw [getD_set_ne _ _ _ _ (by omega)]; exact h5 k (by omega)
theorem MulAt.done {a b : Nat} {l : List Nat} (h : MulAt a b 4 0 0 l) (ha : a < 2 ^ 256) : l = wds 8 (a * b) := by
 obtain ⟨h1, h2, _, h4, _⟩ := h
 have ha4 : a % (2 ^ 64) ^ 4 = a := Nat.mod_eq_of_lt (by rw [pow256']; exact ha)
 rw [ha4, Nat.pow_zero, Nat.mod_one] at h4
 simp only [Nat.mul_zero, Nat.add_zero, Nat.zero_mul] at h4
 rw [← h4, ← h1]
 exact (wds_of l h2).symm
theorem Mul_any (a b : Nat) (w : World) (ha : a < 2 ^ 256) (hb : b < 2 ^ 256) :
   Calls Try.prog 75 #[.agg (natsV .u64 (wds 4 a)).toArray, .agg (natsV .u64 (wds 4 b)).toArray] w fun e w' => e = .returned (.agg (natsV .u64 (wds 8 (a * b))).toArray) ∧ Below w.heap.size w w' := by
 have LA := Hd (wds_len 4 a)
 have LB := Hd (wds_len 4 b)
 have AA := Hd (wds_at 4 a)
 have AB := Hd (wds_at 4 b)
 have LS := Hd (wds_len 8 (a * b))
 have HDN := Hd (fun (l : List Nat) (h : MulAt a b 4 0 0 l) => h.done ha)
 have HB := Hd hb
 generalize wds 8 (a * b) = ls at *
 generalize wds 4 a = la at *
 generalize wds 4 b = lb at *
 have B1 := Hd ((((Blk.new w 24 (natsV .u64 la)).alloc (.cells (natsV .u64 lb).toArray 24)).alloc (.cells (natsV .u64 (zeros 8)).toArray 103)).alloc (.cells (natsV .u64 (zeros 8)).toArray 103))
 have B2 := Hd (((Blk.new2 w (.cells (natsV .u64 la).toArray 24) 24 (natsV .u64 lb)).alloc (.cells (natsV .u64 (zeros 8)).toArray 103)).alloc (.cells (natsV .u64 (zeros 8)).toArray 103))
 have B3 := Hd ((Blk.new3 w (.cells (natsV .u64 la).toArray 24) (.cells (natsV .u64 lb).toArray 24) 103 (natsV .u64 (zeros 8))).alloc (.cells (natsV .u64 (zeros 8)).toArray 103))
 have B4 := Hd (Blk.new4 w (.cells (natsV .u64 la).toArray 24) (.cells (natsV .u64 lb).toArray 24) (.cells (natsV .u64 (zeros 8)).toArray 103) 103 (natsV .u64 (zeros 8)))
 have BEL := Hd (((((Below.refl w.heap.size w).alloc (Nat.le_refl _) (.cells (natsV .u64 la).toArray 24)).alloc (by simp) (.cells (natsV .u64 lb).toArray 24)).alloc (by simp; omega) (.cells (natsV .u64 (zeros 8)).toArray 103)).alloc (by simp; omega) (.cells (natsV .u64 (zeros 8)).toArray 103))
 clear ha hb
 go_enter Try.func75, Try.ntmps75
 go_wp2_with (refine ld24 rfl (.tmp 2) rfl w.heap.size rfl la B1.out LA.out ?_)
 go_loopw [12] (fun i wr => ∃ t : Nat, t ≤ 4 ∧ ∃ lp, MulAt a b t 0 0 lp ∧ i = .int .i64 t ∧ Blk wr (w.heap.size + 1) 24 (natsV .u64 lb) ∧ Blk wr (w.heap.size + 1 + 1) 103 (natsV .u64 (zeros 8)) ∧ Blk wr (w.heap.size + 1 + 1 + 1) 103 (natsV .u64 lp) ∧ Below w.heap.size w wr) (fun i _ => 4 - (intOf i).toNat)
 case atStart => exact ⟨0, by omega, zeros 8, MulAt.start a b, rfl, B2.out, B3.out, B4.out, BEL.out⟩
 case round =>
   clear B1 B2 B3 B4 BEL
   obtain ⟨t, ht, lp, hm, rfl, k2, k3, k4, hbel⟩ := hrel
   have K2 := Hd k2
   have K3 := Hd k3
   have K4 := Hd k4
   have HM := Hd hm
   clear k2 k3 k4 hm
   by_cases h5 : t < 4
   · as_aux_lemma =>
     have hti : (t : Int) < 4 := by omega
     have ix := fun w0 => index_nats (P := Try.prog) w0 24 22 4 .u64 la t Try.underlying24 Try.underlying22 info22 h5 LA.out
     rw [AA.out t h5] at ix
     have HU := dgt_lt (B := 2 ^ 64) (by decide) a t
     obtain ⟨u, hu⟩ : ∃ u, u = dgt (2 ^ 64) a t := ⟨_, rfl⟩
     rw [← hu] at ix HU
     have HUD := Hd hu
     clear hu
     obtain ⟨W1, hW1⟩ : ∃ W1 : World, W1 = wr := ⟨_, rfl⟩
     rw [← hW1] at hbel K2 K3 K4 ⊢
     clear hW1
     go_wp2_with (refine ld24 rfl (.tmp 3) rfl (w.heap.size + 1) rfl lb K2.out LB.out ?_)
     clear ix
     go_loopw [8, 17] (fun cc jj wr => ∃ s : Nat, s ≤ 4 ∧ ∃ lq cy, MulAt a b t s cy lq ∧ jj = .int .i64 s ∧ cc = .int .u64 (cy : Nat) ∧ Blk wr (w.heap.size + 1) 24 (natsV .u64 lb) ∧ Blk wr (w.heap.size + 1 + 1) 103 (natsV .u64 (zeros 8)) ∧ Blk wr (w.heap.size + 1 + 1 + 1) 103 (natsV .u64 lq) ∧ Below w.heap.size w wr) (fun _ jj _ => 4 - (intOf jj).toNat)
     case atStart => exact ⟨0, by omega, lp, 0, HM.out, rfl, rfl, K2.out, K3.out, K4.out, hbel⟩
     case round =>
       clear HM K2 K3 K4 hbel
       obtain ⟨s, hs, lq, cy, hm, rfl, rfl, k2, k3, k4, hbel⟩ := hrel
       have K2 := Hd k2
       have K3 := Hd k3
       have K4 := Hd k4
       have HM := Hd hm
       have hcy := hm.2.2.1
       have HLQ := Hd hm.1
       clear k2 k3 k4
       by_cases hs4 : s < 4
       · as_aux_lemma =>
         have hsi : (s : Int) < 4 := by omega
         have ix := fun w0 => index_nats (P := Try.prog) w0 24 22 4 .u64 lb s Try.underlying24 Try.underlying22 info22 hs4 LB.out
         rw [AB.out s hs4] at ix
         have HN := Hd (hm.next h5 hs4 HB.out)
         have hpj := getD_lt' hm.2.1 (by decide) (t + s)
         clear hm
         rw [← HUD.out] at HN
         have HV := dgt_lt (B := 2 ^ 64) (by decide) b s
         generalize dgt (2 ^ 64) b s = v at *
         obtain ⟨p, hp⟩ : ∃ p, p = t + s := ⟨_, rfl⟩
         rw [← hp] at HN hpj
         have e1 : (t : Int) + (s : Int) = (p : Int) := by omega
         have hp8 : p < 8 := by omega
         have hpi : (p : Int) < 8 := by omega
         clear hp
         have c0 := K4.out.nat p (by rw [HLQ.out]; exact hp8)
         have f0 := K4.out.free p
         generalize lq.getD p 0 = pj at *
         have HC := Hd (fun w => mulAdd_any u v pj cy w HU HV hpj hcy)
         generalize mlo u v pj cy = lo at *
         generalize mhi u v pj cy = hi at *
         go_wp2_with fail
         refine (HC.out _).mono ?_
         rintro e w1 ⟨rfl, rfl⟩
         have n4 := Hd (K4.out.natSet p lo)
         have n3 := Hd (K3.out.other ⟨w.heap.size + 1 + 1 + 1, p, none⟩ (.int .u64 (lo : Nat)) (by simp))
         have n2 := Hd (K2.out.other ⟨w.heap.size + 1 + 1 + 1, p, none⟩ (.int .u64 (lo : Nat)) (by simp))
         have hb2 := hbel.setCell (p := ⟨w.heap.size + 1 + 1 + 1, p, none⟩) (by simp; omega) (.int .u64 (lo : Nat))
         clear K2 K3 K4 hbel
         go_wp2_with fail
         go_roundw
         case rel => exact ⟨s + 1, by omega, _, hi, HN.out, by go_num, rfl, n2.out, n3.out, n4.out, hb2⟩
         case measure => simp [intOf] <;> omega
       · obtain rfl : s = 4 := by omega
         rw [show ((4 : Nat) : Int) = 4 from rfl]
         have HR := Hd (hm.row h5 HB.out)
         clear hm
         obtain ⟨p, hp⟩ : ∃ p, p = t + 4 := ⟨_, rfl⟩
         rw [← hp] at HR
         have e1 : (t : Int) + 4 = (p : Int) := by omega
         have hp8 : p < 8 := by omega
         have hpi : (p : Int) < 8 := by omega
         clear hp
         have c0 := K4.out.nat p (by rw [HLQ.out]; exact hp8)
         have f0 := K4.out.free p
         have n4 := Hd (K4.out.natSet p cy)
         have n3 := Hd (K3.out.other ⟨w.heap.size + 1 + 1 + 1, p, none⟩ (.int .u64 (cy : Nat)) (by simp))
         have n2 := Hd (K2.out.other ⟨w.heap.size + 1 + 1 + 1, p, none⟩ (.int .u64 (cy : Nat)) (by simp))
         have hb2 := hbel.setCell (p := ⟨w.heap.size + 1 + 1 + 1, p, none⟩) (by simp; omega) (.int .u64 (cy : Nat))
         clear K2 K3 K4 hbel
         go_wp2_with fail
         go_roundw
         case rel => exact ⟨t + 1, by omega, _, HR.out, by go_num, n2.out, n3.out, n4.out, hb2⟩
         case measure => simp [intOf] <;> omega
   · obtain rfl : t = 4 := by omega
     rw [show ((4 : Nat) : Int) = 4 from rfl]
     have HE := HDN.out lp HM.out
     subst HE
     have j2 := K3.out.setRow (natsV .u64 lp)
     have hb2 := below_setRow' hbel (show w.heap.size ≤ w.heap.size + 1 + 1 by omega) (natsV .u64 lp).toArray
     go_wp2_with (first | (refine ld26 rfl (.tmp 5) rfl (w.heap.size + 1 + 1 + 1) rfl lp K4.out LS.out ?_) | (refine st26 rfl (.tmp 4) (.tmp 43) rfl (w.heap.size + 1 + 1) rfl lp rfl LS.out (zeros 8) K3.out rfl ?_))
     refine bodyPost_ret (v := .agg (natsV .u64 lp).toArray) ?_ rfl ⟨rfl, hb2⟩
     exact results_cell_row Try.results75 _ _ (w.heap.size + 1 + 1) 103 _ (0, 0) _ rfl j2 Try.underlying103 rfl (by rw [info26, size_nats, LS.out])
theorem row_step (W m c i T j lij lo hi cy d P P' : Nat) (hP : P + W ^ (i + j) * cy = T + W ^ i * (c * (m % W ^ j)))
   (hset : P' + W ^ (i + j) * lij = P + W ^ (i + j) * lo) (hm : lo + W * hi = c * d + lij + cy) (hd : d = dgt W m j) :
   P' + W ^ (i + (j + 1)) * hi = T + W ^ i * (c * (m % W ^ (j + 1))) := by
 have e1 : W ^ (i + (j + 1)) * hi = W ^ (i + j) * (W * hi) := by rw [← Nat.add_assoc, Nat.pow_succ, Nat.mul_assoc]
 have e2 : W ^ i * (c * (m % W ^ (j + 1))) = W ^ i * (c * (m % W ^ j)) + W ^ (i + j) * (c * d) := by
   rw [mod_pow_succ, ← hd, Nat.mul_add, Nat.mul_add, Nat.pow_add]
   congr 1
   ac_rfl
 rw [e1, e2]
 have h3 : W ^ (i + j) * (lo + W * hi) = W ^ (i + j) * (c * d + lij + cy) := by rw [hm]
 rw [Nat.mul_add, Nat.mul_add, Nat.mul_add] at h3
 omega
def RowAt (m c i T j cy : Nat) (l : List Nat) : Prop :=
 l.length = 16 ∧ (∀ y ∈ l, y < 2 ^ 32) ∧ cy < 2 ^ 32 ∧ val (2 ^ 32) l + (2 ^ 32) ^ (i + j) * cy = T + (2 ^ 32) ^ i * (c * (m % (2 ^ 32) ^ j))
theorem fit32 (c d x y : Nat) (hc : c < 4294967296) (hd : d < 4294967296) (hx : x < 4294967296) (hy : y < 4294967296) : c * d + x + y < 18446744073709551616 ∧ c * d < 18446744073709551616 ∧ c * d + x < 18446744073709551616 := by
 have := Nat.mul_le_mul (show c ≤ 4294967295 by omega) (show d ≤ 4294967295 by omega)
 omega
theorem RowAt.next {m c i T j cy : Nat} {l : List Nat} (h : RowAt m c i T j cy l) (hi : i < 8) (hj : j < 8) (hc : c < 2 ^ 32) (s : Nat) (hs : s = c * dgt (2 ^ 32) m j + l.getD (i + j) 0 + cy) :
   s < 18446744073709551616 ∧ RowAt m c i T (j + 1) (s / 4294967296) (l.set (i + j) (s % 4294967296)) := by
 obtain ⟨h1, h2, h3, h4⟩ := h
 have hd := dgt_lt (B := 2 ^ 32) (by decide) m j
 have hp := getD_lt' h2 (by decide) (i + j)
 have hf := fit32 c _ _ cy hc hd hp h3
 refine ⟨by omega, by rw [List.length_set]; exact h1, set_lt h2 (Nat.mod_lt _ (by decide)), by omega, ?_⟩
 exact row_step (2 ^ 32) m c i T j (l.getD (i + j) 0) _ _ cy _ _ _ h4 (val_set (2 ^ 32) l (i + j) _ (by rw [h1]; omega)) (by rw [← hs]; exact Nat.mod_add_div s 4294967296) rfl
def RedAt (m X i over : Nat) (l : List Nat) : Prop :=
 l.length = 16 ∧ (∀ y ∈ l, y < 2 ^ 32) ∧ over ≤ 1 ∧ ∃ K, K < (2 ^ 32) ^ i ∧ val (2 ^ 32) l + (2 ^ 32) ^ (8 + i) * over = X + m * K ∧ (X + m * K) % (2 ^ 32) ^ i = 0
theorem RedAt.start (m X : Nat) (hX : X < (2 ^ 32) ^ 16) : RedAt m X 0 0 (tell (dgt (2 ^ 32) X) 16) := by
 refine ⟨tell_length _ _, tell_lt _ _ (fun i => dgt_lt (by decide) X i) 16, by omega, 0, by decide, ?_, by simp [Nat.mod_one]⟩
 rw [val_tell, Nat.mod_eq_of_lt hX]; simp
theorem RedAt.rowStart {m X i over : Nat} {l : List Nat} (h : RedAt m X i over l) (c : Nat) : RowAt m c i (val (2 ^ 32) l) 0 0 l :=
 ⟨h.1, h.2.1, by decide, by simp [Nat.mod_one]⟩
theorem dgt_add_high (W x y i k : Nat) (hW : 0 < W) (h : i < k) : dgt W (x + W ^ k * y) i = dgt W x i := by
 obtain ⟨d, rfl⟩ : ∃ d, k = i + (d + 1) := ⟨k - i - 1, by omega⟩
 unfold dgt
 rw [Nat.pow_add, Nat.mul_assoc, Nat.add_mul_div_left _ _ (Nat.pow_pos hW), Nat.pow_succ, Nat.mul_comm (W ^ d) W, Nat.mul_assoc, Nat.add_mul_mod_self_left]
theorem list_dgt {W : Nat} (hW : 0 < W) (l : List Nat) (h : ∀ y ∈ l, y < W) (i : Nat) (hi : i < l.length) : l.getD i 0 = dgt W (val W l) i := by
 have := tell_val hW l h
 rw [← tell_getD (dgt W (val W l)) l.length i hi, this]
theorem turn0 (W y l f m : Nat) (hl : y % W = l) (hf : (m * f + 1) % W = 0) : (y + l * f % W * m) % W = 0 := by
 rw [Nat.add_mod, mulmod_left, hl]
 have e : l * f * m = l * (m * f) := by ac_rfl
 rw [e]
 have : (l % W + l * (m * f) % W) % W = (l * (m * f + 1)) % W := by rw [← Nat.add_mod, Nat.mul_add, Nat.mul_one, Nat.add_comm]
 have hl2 : l = l % W := by rw [← hl, Nat.mod_mod]
 rw [← hl2] at this
 rw [this, Nat.mul_mod, hf, Nat.mul_zero, Nat.zero_mod]
theorem RowAt.row {m f v X i over cy : Nat} {l0 l : List Nat} (H : Fld m f v) (h0 : RedAt m X i over l0) (hi : i < 8)
   (h : RowAt m (l0.getD i 0 * f % 4294967296) i (val (2 ^ 32) l0) 8 cy l) (s : Nat) (hs : s = l.getD (i + 8) 0 + cy + over) :
   s < 8589934592 ∧ RedAt m X (i + 1) (s / 4294967296) (l.set (i + 8) (s % 4294967296)) := by
 obtain ⟨a1, a2, a3, K, a4, a5, a6⟩ := h0
 obtain ⟨b1, b2, b3, b4⟩ := h
 have hp := getD_lt' b2 (by decide) (i + 8)
 have hm8 : m % (2 ^ 32) ^ 8 = m := Nat.mod_eq_of_lt (by rw [← Nat.pow_mul]; exact H.lt)
 rw [hm8] at b4
 have hd0 : l0.getD i 0 = dgt (2 ^ 32) (val (2 ^ 32) l0) i := list_dgt (by decide) l0 a2 i (by rw [a1]; omega)
 obtain ⟨y, hy⟩ : (2 ^ 32) ^ i ∣ X + m * K := Nat.dvd_of_mod_eq_zero a6
 have hyd : y % 2 ^ 32 = l0.getD i 0 := by
   rw [hd0, ← dgt_add_high (2 ^ 32) _ over i (8 + i) (by decide) (by omega), a5, hy]
   unfold dgt
   rw [Nat.mul_div_cancel_left _ (Nat.pow_pos (by decide))]
 have ht := turn0 (2 ^ 32) y _ f m hyd H.neg
 have hc : l0.getD i 0 * f % 4294967296 < 4294967296 := Nat.mod_lt _ (by decide)
 rw [show (2 ^ 32 : Nat) = 4294967296 from rfl] at ht
 generalize l0.getD i 0 * f % 4294967296 = c at *
 have hset := val_set (2 ^ 32) l (i + 8) (s % 4294967296) (by rw [b1]; omega)
 have hmd := Nat.mod_add_div s 4294967296
 refine ⟨by omega, by rw [List.length_set]; exact b1, set_lt b2 (Nat.mod_lt _ (by decide)), by omega, K + c * (2 ^ 32) ^ i, ?_, ?_, ?_⟩
 · have ep : (2 ^ 32) ^ (i + 1) = (2 ^ 32) ^ i * 4294967296 := Nat.pow_succ _ _
   rw [ep]
   have := Nat.mul_le_mul_right ((2 ^ 32) ^ i) (show c ≤ 4294967295 by omega)
   generalize (2 ^ 32) ^ i = z at *
   omega
 · have e1 : (2 ^ 32) ^ (8 + (i + 1)) * (s / 4294967296) = (2 ^ 32) ^ (i + 8) * (4294967296 * (s / 4294967296)) := by
     rw [show 8 + (i + 1) = (i + 8) + 1 by omega, Nat.pow_succ, Nat.mul_assoc]
   have e2 : m * (K + c * (2 ^ 32) ^ i) = m * K + (2 ^ 32) ^ i * (c * m) := by
     rw [Nat.mul_add]; congr 1; ac_rfl
   rw [e1, e2]
   have h3 : (2 ^ 32) ^ (i + 8) * (s % 4294967296 + 4294967296 * (s / 4294967296)) = (2 ^ 32) ^ (i + 8) * (l.getD (i + 8) 0 + cy + over) := by rw [hmd, hs]
   rw [Nat.mul_add, Nat.mul_add, Nat.mul_add] at h3
   rw [Nat.add_comm 8 i] at a5
   omega
 · have e2 : X + m * (K + c * (2 ^ 32) ^ i) = (2 ^ 32) ^ i * (y + c * m) := by
     rw [Nat.mul_add, ← Nat.add_assoc, hy, Nat.mul_add]; congr 1; ac_rfl
   have ep : (2 ^ 32) ^ (i + 1) = (2 ^ 32) ^ i * 4294967296 := Nat.pow_succ _ _
   rw [e2, ep, Nat.mul_mod_mul_left, ht, Nat.mul_zero]
theorem RedAt.done {m f v X over : Nat} {l : List Nat} (H : Fld m f v) (h : RedAt m X 8 over l) (hX : X < m * 2 ^ 256) :
   ∃ U, U < 2 ^ 256 ∧ (∀ i, i < 8 → l.getD (8 + i) 0 = dgt (2 ^ 32) U i) ∧ U + 2 ^ 256 * over < 2 * m ∧ (U + 2 ^ 256 * over) % m = X * v % m := by
 obtain ⟨a1, a2, a3, K, a4, a5, a6⟩ := h
 have e8 : (2 ^ 32) ^ 8 = 2 ^ 256 := by rw [← Nat.pow_mul]
 have e16 : (2 ^ 32) ^ (8 + 8) = 2 ^ 256 * 2 ^ 256 := by rw [Nat.pow_add, e8]
 have hv : val (2 ^ 32) l < 2 ^ 256 * 2 ^ 256 := by
   have := val_lt l a2
   rw [a1] at this
   rw [← e16]; exact this
 rw [e8] at a4 a6
 rw [e16, Nat.mul_assoc] at a5
 have hS : (val (2 ^ 32) l / 2 ^ 256 + 2 ^ 256 * over) * 2 ^ 256 = X + m * K := by
   have hz : val (2 ^ 32) l % 2 ^ 256 = 0 := by
     rw [← a5, Nat.add_mul_mod_self_left] at a6; exact a6
   have := Nat.mod_add_div (val (2 ^ 32) l) (2 ^ 256)
   rw [Nat.add_mul, Nat.mul_comm _ (2 ^ 256), Nat.mul_comm (2 ^ 256 * over)]
   omega
 refine ⟨val (2 ^ 32) l / 2 ^ 256, by rw [Nat.div_lt_iff_lt_mul (Nat.two_pow_pos 256)]; exact hv, fun i hi => ?_, ?_, ?_⟩
 · rw [list_dgt (by decide) l a2 (8 + i) (by rw [a1]; omega)]
   unfold dgt
   rw [Nat.pow_add, e8, Nat.div_div_eq_div_mul]
 · have hK : m * K ≤ m * 2 ^ 256 := Nat.mul_le_mul_left m (Nat.le_of_lt a4)
   have : (val (2 ^ 32) l / 2 ^ 256 + 2 ^ 256 * over) * 2 ^ 256 < 2 * m * 2 ^ 256 := by rw [hS, Nat.mul_assoc, Nat.two_mul]; omega
   exact Nat.lt_of_mul_lt_mul_right this
 · generalize val (2 ^ 32) l / 2 ^ 256 + 2 ^ 256 * over = S at *
   have h1 : (X + m * K) * v % m = X * v % m := by rw [Nat.add_mul, Nat.mul_assoc, Nat.add_mul_mod_self_left]
   rw [← h1, ← hS, Nat.mul_assoc, Nat.mul_comm (2 ^ 256) v, ← mulmod_right, H.inv, Nat.mul_one]
theorem half_lo (X i : Nat) : dgt (2 ^ 64) X i % 4294967296 = dgt (2 ^ 32) X (2 * i) := by
 unfold dgt
 rw [show (2 : Nat) ^ 64 = 4294967296 * 4294967296 by decide, Nat.mod_mul_right_mod, show (2 : Nat) ^ 32 = 4294967296 by decide, Nat.pow_mul]
theorem half_hi (X i : Nat) : dgt (2 ^ 64) X i / 4294967296 = dgt (2 ^ 32) X (2 * i + 1) := by
 unfold dgt
 rw [show (2 : Nat) ^ 64 = 4294967296 * 4294967296 by decide, Nat.mod_mul_right_div_self, Nat.div_div_eq_div_mul, show (2 : Nat) ^ 32 = 4294967296 by decide, Nat.pow_succ, Nat.pow_mul]
theorem half_of (X i : Nat) : dgt (2 ^ 32) X (2 * i + 1) * 4294967296 + dgt (2 ^ 32) X (2 * i) = dgt (2 ^ 64) X i := by
 rw [← half_lo, ← half_hi]; omega
theorem u32_lo (x p : Nat) (h : p = x % 4294967296) : IntKind.u32.wrap (x : Int) = (p : Int) := by rw [IntKind.wrap_u32]; omega
theorem u32_in (x : Nat) (h : x < 4294967296) : IntKind.u32.wrap (x : Int) = (x : Int) := by rw [IntKind.wrap_u32]; omega
theorem u64_in (x : Nat) (h : x < 2 ^ 64) : IntKind.u64.wrap (x : Int) = (x : Int) := by rw [IntKind.wrap_u64]; omega
theorem split_any (T n g g2 X : Nat) (w : World) (hn : n ≤ 8) (hg : Blk w g T (natsV .u32 (zeros (2 * n)))) (hne : g2 ≠ g) (hlt : g2 < w.heap.size)
   (hc : ∀ i, i < n → w.cell? ⟨g2, i, none⟩ = some (.int .u64 (dgt (2 ^ 64) X i : Nat))) :
   Calls Try.prog 83 #[.slice (some ⟨g, 0, none⟩) (2 * n) (2 * n), .slice (some ⟨g2, 0, none⟩) n n] w fun e w' => e = .returned (.tuple #[]) ∧ Blk w' g T (natsV .u32 (tell (dgt (2 ^ 32) X) (2 * n))) ∧ w.grownBy w' (some g) := by
 have HG := Hd hg
 have HC := Hd hc
 clear hg hc
 go_enter Try.func83, Try.ntmps83
 go_wp2_with fail
 go_loopw [8] (fun i wr => ∃ t : Nat, t ≤ n ∧ i = .int .i64 t ∧ Blk wr g T (natsV .u32 (tell (dgt (2 ^ 32) X) (2 * t) ++ zeros (2 * n - 2 * t))) ∧ w.grownBy wr (some g)) (fun i _ => n - (intOf i).toNat)
 case atStart => exact ⟨0, by omega, rfl, HG.out, grown_refl _ _⟩
 case round =>
   clear HG
   obtain ⟨t, ht, rfl, k, hb⟩ := hrel
   have K := Hd k
   clear k
   by_cases hs : t < n
   · as_aux_lemma =>
     have hti : (t : Int) < (n : Int) := by omega
     have c0 := (World.cell?_of_block (a := ⟨g2, t, none⟩) (hb.block g2 hlt (by simp; omega))).trans (HC.out t hs)
     have hx := dgt_lt (B := 2 ^ 64) (by decide) X t
     have hlo := half_lo X t
     have hhi := half_hi X t
     have hset : ((tell (dgt (2 ^ 32) X) (2 * t) ++ zeros (2 * n - 2 * t)).set (2 * t) (dgt (2 ^ 32) X (2 * t))).set (2 * t + 1) (dgt (2 ^ 32) X (2 * t + 1)) = tell (dgt (2 ^ 32) X) (2 * (t + 1)) ++ zeros (2 * n - 2 * (t + 1)) := by
       rw [fill_tell _ (2 * n) (2 * t) (by omega), fill_tell _ (2 * n) (2 * t + 1) (by omega)]
       rfl
     have hlen : (tell (dgt (2 ^ 32) X) (2 * t) ++ zeros (2 * n - 2 * t)).length = 2 * n := by simp [tell_length, zeros]; omega
     have e1 := u32_lo (dgt (2 ^ 64) X t) _ hlo.symm
     have e2 : (dgt (2 ^ 64) X t : Int) / 4294967296 = ((dgt (2 ^ 32) X (2 * t + 1) : Nat) : Int) := by rw [← hhi]; rfl
     have hh := dgt_lt (B := 2 ^ 32) (by decide) X (2 * t + 1)
     have e3 := u32_in (dgt (2 ^ 32) X (2 * t + 1)) hh
     have HSET := Hd hset
     clear hset hlo hhi hx hh
     generalize dgt (2 ^ 32) X (2 * t + 1) = hi at *
     generalize dgt (2 ^ 32) X (2 * t) = lo at *
     generalize dgt (2 ^ 64) X t = x at *
     obtain ⟨p, hp⟩ : ∃ p, p = 2 * t := ⟨_, rfl⟩
     rw [← hp] at HSET K hlen
     obtain ⟨q, hq⟩ : ∃ q, q = p + 1 := ⟨_, rfl⟩
     rw [← hq] at HSET
     generalize tell (dgt (2 ^ 32) X) p ++ zeros (2 * n - p) = lc at *
     have i1 : 2 * (t : Int) = (p : Int) := by omega
     have i2 : (p : Int) + 1 = (q : Int) := by omega
     have hp0 : (p : Int) < 2 * (n : Int) := by omega
     have hq0 : (q : Int) < 2 * (n : Int) := by omega
     have hpi : (p : Nat) < 2 * n := by omega
     have hqi : (q : Nat) < 2 * n := by omega
     have hpb : (0:Int) ≤ (p : Int) := by omega
     have d0 := K.out.nat p (by rw [hlen]; exact hpi)
     have f0 := K.out.free p
     have k1 := Hd (K.out.natSet p lo)
     have d1 := k1.out.nat q (by rw [List.length_set, hlen]; exact hqi)
     have f1 := k1.out.free q
     have k2 := Hd (k1.out.natSet q hi)
     rw [HSET.out] at k2
     have hb2 := grown_trans (grown_trans hb (grown_setCell _ ⟨g, p, none⟩ (.int .u32 (lo : Nat)))) (grown_setCell _ ⟨g, q, none⟩ (.int .u32 (hi : Nat)))
     have hr1 : t ≤ 8 := by omega
     have hr2 : p ≤ 16 := by omega
     clear hp hq HSET
     go_wp2_with fail
     go_roundw
     case rel => exact ⟨t + 1, by omega, by go_num, k2.out, hb2⟩
     case measure => simp [intOf] <;> omega
   · obtain rfl : t = n := by omega
     have hti : ¬ ((t : Int) < (t : Int)) := by omega
     have hz : tell (dgt (2 ^ 32) X) (2 * t) ++ zeros (2 * t - 2 * t) = tell (dgt (2 ^ 32) X) (2 * t) := by simp [zeros]
     rw [hz] at K
     go_wp2_with fail
     refine ⟨rfl, .tuple #[], ?_, rfl, K.out, hb⟩
     first | rfl | simp [results, Try.results83] | (simp [results, Try.results83]; rfl)
theorem join_any' (o g V c : Nat) (w : World) (ho : o ≤ 8) (hc8 : 8 ≤ c) (hlt : g < w.heap.size) (hc : ∀ i, i < 8 → w.cell? ⟨g, o + i, none⟩ = some (.int .u32 (dgt (2 ^ 32) V i : Nat))) :
   Calls Try.prog 85 #[.slice (some ⟨g, o, none⟩) 8 c] w fun e w' => e = .returned (.agg (natsV .u64 (wds 4 V)).toArray) ∧ Below w.heap.size w w' := by
 have HC := Hd hc
 have LW := Hd (wds_len 4 V)
 have HLV := Hd (show tell (dgt (2 ^ 64) V) 4 ++ zeros (4 - 4) = wds 4 V by simp [zeros, wds])
 generalize wds 4 V = lv at *
 have B1 := Hd ((Blk.new w 24 (natsV .u64 (zeros 4))).alloc (.cells (natsV .u64 (zeros 4)).toArray 24))
 have B2 := Hd (Blk.new2 w (.cells (natsV .u64 (zeros 4)).toArray 24) 24 (natsV .u64 (zeros 4)))
 have BEL := Hd (((Below.refl w.heap.size w).alloc (Nat.le_refl _) (.cells (natsV .u64 (zeros 4)).toArray 24)).alloc (by simp) (.cells (natsV .u64 (zeros 4)).toArray 24))
 clear hc
 go_enter Try.func85, Try.ntmps85
 go_wp2_with fail
 go_loopw [5] (fun i wr => ∃ t : Nat, t ≤ 4 ∧ i = .int .i64 t ∧ Blk wr w.heap.size 24 (natsV .u64 (zeros 4)) ∧ Blk wr (w.heap.size + 1) 24 (natsV .u64 (tell (dgt (2 ^ 64) V) t ++ zeros (4 - t))) ∧ Below w.heap.size w wr) (fun i _ => 4 - (intOf i).toNat)
 case atStart => exact ⟨0, by omega, rfl, B1.out, B2.out, BEL.out⟩
 case round =>
   clear B1 B2 BEL
   obtain ⟨t, ht, rfl, k1, k2, hbel⟩ := hrel
   have K1 := Hd k1
   have K2 := Hd k2
   clear k1 k2
   by_cases hs : t < 4
   · as_aux_lemma =>
     have hti : (t : Int) < 4 := by omega
     have c0 := (hbel.cell (p := ⟨g, o + 2 * t, none⟩) hlt).trans (HC.out (2 * t) (by omega))
     have c1 := (hbel.cell (p := ⟨g, o + (2 * t + 1), none⟩) hlt).trans (HC.out (2 * t + 1) (by omega))
     have h0 := dgt_lt (B := 2 ^ 32) (by decide) V (2 * t)
     have h1 := dgt_lt (B := 2 ^ 32) (by decide) V (2 * t + 1)
     have hof := half_of V t
     have hset := fill_tell (dgt (2 ^ 64) V) 4 t hs
     have hlen : (tell (dgt (2 ^ 64) V) t ++ zeros (4 - t)).length = 4 := by simp [tell_length, zeros]; omega
     have HSET := Hd hset
     clear hset
     generalize dgt (2 ^ 32) V (2 * t) = lo at *
     generalize dgt (2 ^ 32) V (2 * t + 1) = hi at *
     generalize dgt (2 ^ 64) V t = x at *
     generalize tell (dgt (2 ^ 64) V) t ++ zeros (4 - t) = lc at *
     obtain ⟨p, hp⟩ : ∃ p, p = 2 * t := ⟨_, rfl⟩
     obtain ⟨q, hq⟩ : ∃ q, q = p + 1 := ⟨_, rfl⟩
     rw [← hp] at c0 c1
     rw [← hq] at c1
     have i1 : 2 * (t : Int) = (p : Int) := by omega
     have i2 : (p : Int) + 1 = (q : Int) := by omega
     have hp8 : (p : Int) < 8 := by omega
     have hq8 : (q : Int) < 8 := by omega
     obtain ⟨tw, htw⟩ : ∃ t, t = 4294967296 * hi := ⟨_, rfl⟩
     have e0 := u64_in lo (by omega)
     have e1 := u64_in hi (by omega)
     have etw : IntKind.u64.wrap ((hi : Int) * 4294967296) = (tw : Int) := by rw [IntKind.wrap_u64]; omega
     have eor := w_or hi lo tw x htw h1 h0 (by omega)
     have d0 := K2.out.nat t (by rw [hlen]; exact hs)
     have f0 := K2.out.free t
     have n2 := Hd (K2.out.natSet t x)
     rw [HSET.out] at n2
     have n1 := Hd (K1.out.other ⟨w.heap.size + 1, t, none⟩ (.int .u64 (x : Nat)) (by simp))
     have hb2 := hbel.setCell (p := ⟨w.heap.size + 1, t, none⟩) (by simp) (.int .u64 (x : Nat))
     clear hp hq htw HSET
     go_wp2_with fail
     go_region
     go_wp2_with fail
     go_roundw
     case rel => exact ⟨t + 1, by omega, by go_num, n1.out, n2.out, hb2.drew⟩
     case measure => simp [intOf] <;> omega
   · obtain rfl : t = 4 := by omega
     rw [show ((4 : Nat) : Int) = 4 from rfl]
     rw [HLV.out] at K2
     have j1 := K1.out.setRow (natsV .u64 lv)
     have hb2 := below_setRow' hbel (Nat.le_refl _) (natsV .u64 lv).toArray
     go_wp2_with (first | (refine ld24 rfl (.tmp 3) rfl (w.heap.size + 1) rfl lv K2.out LW.out ?_) | (refine st24 rfl (.tmp 2) (.tmp 26) rfl w.heap.size rfl lv rfl LW.out (zeros 4) K1.out rfl ?_))
     refine bodyPost_ret (v := .agg (natsV .u64 lv).toArray) ?_ rfl ⟨rfl, hb2⟩
     exact ret24 Try.results85 _ _ w.heap.size lv rfl j1 LW.out
end Go.Proofs.Ytdkkombpkojjaaa
