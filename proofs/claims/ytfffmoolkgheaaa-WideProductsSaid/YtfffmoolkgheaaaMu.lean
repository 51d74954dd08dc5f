/- The project multiplies. Condition: 256 bits. -/
import Derived.Test.YtfffmoolkgheaaaMa
import Derived.Test.YtfffmoolkgheaaaW
namespace Go.Proofs.Ytfffmoolkgheaaa
open Go.RowKit
set_option linter.unusedVariables false
set_option linter.unusedSimpArgs false
theorem pow256' : (2 ^ 64) ^ 4 = 2 ^ 256 := by rw [← Nat.pow_mul]
theorem val_set (B : Nat) : ∀ (l : List Nat) (i x : Nat), i < l.length → val B (l.set i x) + B ^ i * l.getD i 0 = val B l + B ^ i * x
  | [], i, x, h => by simp at h
  | y :: l, 0, x, h => by simp [val]; omega
  | y :: l, i + 1, x, h => by
    have ih := val_set B l i x (by simpa using h)
    simp only [List.set_cons_succ, val, List.getD_cons_succ, Nat.pow_succ]
    have e1 : B ^ i * B * l.getD i 0 = B * (B ^ i * l.getD i 0) := by rw [Nat.mul_comm (B ^ i) B, Nat.mul_assoc]
    have e2 : B ^ i * B * x = B * (B ^ i * x) := by rw [Nat.mul_comm (B ^ i) B, Nat.mul_assoc]
    rw [e1, e2]
    have h2 : B * (val B (l.set i x) + B ^ i * l.getD i 0) = B * (val B l + B ^ i * x) := by rw [ih]
    rw [Nat.mul_add, Nat.mul_add] at h2
    omega
theorem set_lt {l : List Nat} {m i x : Nat} (h : ∀ y ∈ l, y < m) (hx : x < m) : ∀ y ∈ l.set i x, y < m := by
  intro y hy
  rcases List.mem_or_eq_of_mem_set hy with h1 | h1
  · exact h y h1
  · rw [h1]; exact hx
theorem val_zeros (B n : Nat) : val B (zeros n) = 0 := by
  induction n with
  | zero => rfl
  | succ n ih => simp only [zeros, List.replicate_succ, val] at ih ⊢; rw [ih]; simp
theorem zeros_getD (n i : Nat) : (zeros n).getD i 0 = 0 := by
  simp only [zeros, List.getD_eq_getElem?_getD]
  by_cases h : i < n
  · simp [h]
  · simp [h]
theorem zeros_lt (n : Nat) (m : Nat) (hm : 0 < m) : ∀ y ∈ zeros n, y < m := by
  intro y hy
  have := List.eq_of_mem_replicate hy
  rw [this]; exact hm
theorem getD_set_ne (l : List Nat) (i j x : Nat) (h : i ≠ j) : (l.set i x).getD j 0 = l.getD j 0 := by
  simp [List.getD_eq_getElem?_getD, List.getElem?_set_ne h]
/-- one row's step: p stands at place i + j -/
theorem mul_step (a b i j P P' pj lo hi cy u v : Nat) (W : Nat)
    (hP : P + W ^ (i + j) * cy = (a % W ^ i) * b + u * (b % W ^ j) * W ^ i)
    (hset : P' + W ^ (i + j) * pj = P + W ^ (i + j) * lo)
    (hm : lo + W * hi = u * v + pj + cy) (hv : v = dgt W b j) :
    P' + W ^ (i + (j + 1)) * hi = (a % W ^ i) * b + u * (b % W ^ (j + 1)) * W ^ i := by
  have e1 : W ^ (i + (j + 1)) * hi = W ^ (i + j) * (W * hi) := by rw [← Nat.add_assoc, Nat.pow_succ, Nat.mul_assoc]
  have e2 : u * (b % W ^ (j + 1)) * W ^ i = u * (b % W ^ j) * W ^ i + W ^ (i + j) * (u * v) := by
    rw [mod_pow_succ, ← hv, Nat.mul_add, Nat.add_mul, Nat.pow_add]
    congr 1
    ac_rfl
  rw [e1, e2]
  have h3 : W ^ (i + j) * (lo + W * hi) = W ^ (i + j) * (u * v + pj + cy) := by rw [hm]
  rw [Nat.mul_add, Nat.mul_add, Nat.mul_add] at h3
  omega
theorem mul_row (W a b i P P' cy u : Nat) (hb : b < W ^ 4) (hP : P + W ^ (i + 4) * cy = (a % W ^ i) * b + u * (b % W ^ 4) * W ^ i) (hset : P' + W ^ (i + 4) * 0 = P + W ^ (i + 4) * cy) (hu : u = dgt W a i) :
    P' + W ^ (i + 1 + 0) * 0 = (a % W ^ (i + 1)) * b + dgt W a (i + 1) * (b % W ^ 0) * W ^ (i + 1) := by
  rw [Nat.mod_eq_of_lt hb] at hP
  rw [mod_pow_succ, Nat.pow_zero, Nat.mod_one]
  have e : (a % W ^ i + W ^ i * dgt W a i) * b = (a % W ^ i) * b + dgt W a i * b * W ^ i := by
    rw [Nat.add_mul]; congr 1; ac_rfl
  rw [e, ← hu, ← hP]
  simp only [Nat.mul_zero, Nat.add_zero, Nat.zero_mul] at hset ⊢
  exact hset
theorem info42z : (Try.prog.info? 26).map (·.size) = some 8 := info26
/-- what the product's words are, i rows and j places of the next one done -/
def MulAt (a b i j : Nat) (cy : Nat) (l : List Nat) : Prop := l.length = 8 ∧ (∀ y ∈ l, y < 2 ^ 64) ∧ cy < 2 ^ 64 ∧ val (2 ^ 64) l + (2 ^ 64) ^ (i + j) * cy = (a % (2 ^ 64) ^ i) * b + dgt (2 ^ 64) a i * (b % (2 ^ 64) ^ j) * (2 ^ 64) ^ i ∧ ∀ k, i + 4 ≤ k → l.getD k 0 = 0
theorem MulAt.start (a b : Nat) : MulAt a b 0 0 0 (zeros 8) := by
  refine ⟨rfl, zeros_lt 8 _ (by decide), by decide, ?_, fun k _ => zeros_getD 8 k⟩
  simp [val_zeros, Nat.mod_one]
theorem MulAt.next {a b i j cy : Nat} {l : List Nat} (h : MulAt a b i j cy l) (hi : i < 4) (hj : j < 4) (hb : b < 2 ^ 256) :
    MulAt a b i (j + 1) (mhi (dgt (2 ^ 64) a i) (dgt (2 ^ 64) b j) (l.getD (i + j) 0) cy) (l.set (i + j) (mlo (dgt (2 ^ 64) a i) (dgt (2 ^ 64) b j) (l.getD (i + j) 0) cy)) := by
  obtain ⟨h1, h2, h3, h4, h5⟩ := h
  have hu := dgt_lt (B := 2 ^ 64) (by decide) a i
  have hv := dgt_lt (B := 2 ^ 64) (by decide) b j
  have hp := getD_lt' h2 (by decide) (i + j)
  refine ⟨by rw [List.length_set]; exact h1, set_lt h2 (mlo_lt _ _ _ _), mhi_lt _ _ _ _ hu hv hp h3, ?_, fun k hk => ?_⟩
  · exact mul_step a b i j _ _ (l.getD (i + j) 0) _ _ cy _ _ (2 ^ 64) h4 (val_set (2 ^ 64) l (i + j) _ (by rw [h1]; omega)) (mm_eq _ _ _ _) rfl
  · rw [getD_set_ne _ _ _ _ (by omega)]; exact h5 k hk
theorem MulAt.row {a b i cy : Nat} {l : List Nat} (h : MulAt a b i 4 cy l) (hi : i < 4) (hb : b < 2 ^ 256) : MulAt a b (i + 1) 0 0 (l.set (i + 4) cy) := by
  obtain ⟨h1, h2, h3, h4, h5⟩ := h
  refine ⟨by rw [List.length_set]; exact h1, set_lt h2 h3, by decide, ?_, fun k hk => ?_⟩
  · have hs := val_set (2 ^ 64) l (i + 4) cy (by rw [h1]; omega)
    rw [h5 (i + 4) (by omega)] at hs
    exact mul_row (2 ^ 64) a b i _ _ cy _ (by rw [pow256']; exact hb) h4 hs rfl
  · rw [getD_set_ne _ _ _ _ (by omega)]; exact h5 k (by omega)
theorem MulAt.done {a b : Nat} {l : List Nat} (h : MulAt a b 4 0 0 l) (ha : a < 2 ^ 256) : l = wds 8 (a * b) := by
  obtain ⟨h1, h2, _, h4, _⟩ := h
  have ha4 : a % (2 ^ 64) ^ 4 = a := Nat.mod_eq_of_lt (by rw [pow256']; exact ha)
  rw [ha4, Nat.pow_zero, Nat.mod_one] at h4
  simp only [Nat.mul_zero, Nat.add_zero, Nat.zero_mul] at h4
  rw [← h4, ← h1]
  exact (wds_of l h2).symm
set_option maxRecDepth 100000 in
set_option maxHeartbeats 1600000 in
theorem Mul_any (a b : Nat) (w : World) (ha : a < 2 ^ 256) (hb : b < 2 ^ 256) :
    Calls Try.prog 11 #[.agg (natsV .u64 (wds 4 a)).toArray, .agg (natsV .u64 (wds 4 b)).toArray] w fun e w' => e = .returned (.agg (natsV .u64 (wds 8 (a * b))).toArray) ∧ Below w.heap.size w w' := by
  have LA := Lib.hid (wds_len 4 a)
  have LB := Lib.hid (wds_len 4 b)
  have AA := Lib.hid (wds_at 4 a)
  have AB := Lib.hid (wds_at 4 b)
  have LS := Lib.hid (wds_len 8 (a * b))
  have HDN := Lib.hid (fun (l : List Nat) (h : MulAt a b 4 0 0 l) => h.done ha)
  have HB := Lib.hid hb
  generalize wds 8 (a * b) = ls at *
  generalize wds 4 a = la at *
  generalize wds 4 b = lb at *
  have B1 := Lib.hid ((((Blk.new w 24 (natsV .u64 la)).alloc (.cells (natsV .u64 lb).toArray 24)).alloc (.cells (natsV .u64 (zeros 8)).toArray 26)).alloc (.cells (natsV .u64 (zeros 8)).toArray 26))
  have B2 := Lib.hid (((Blk.new2 w (.cells (natsV .u64 la).toArray 24) 24 (natsV .u64 lb)).alloc (.cells (natsV .u64 (zeros 8)).toArray 26)).alloc (.cells (natsV .u64 (zeros 8)).toArray 26))
  have B3 := Lib.hid ((Blk.new3 w (.cells (natsV .u64 la).toArray 24) (.cells (natsV .u64 lb).toArray 24) 26 (natsV .u64 (zeros 8))).alloc (.cells (natsV .u64 (zeros 8)).toArray 26))
  have B4 := Lib.hid (Blk.new4 w (.cells (natsV .u64 la).toArray 24) (.cells (natsV .u64 lb).toArray 24) (.cells (natsV .u64 (zeros 8)).toArray 26) 26 (natsV .u64 (zeros 8)))
  have BEL := Lib.hid (((((Below.refl w.heap.size w).alloc (Nat.le_refl _) (.cells (natsV .u64 la).toArray 24)).alloc (by simp) (.cells (natsV .u64 lb).toArray 24)).alloc (by simp; omega) (.cells (natsV .u64 (zeros 8)).toArray 26)).alloc (by simp; omega) (.cells (natsV .u64 (zeros 8)).toArray 26))
  clear ha hb
  go_enter Try.func11, Try.ntmps11
  go_wp2_with (refine ld24 rfl (.tmp 2) rfl w.heap.size rfl la B1.out LA.out ?_)
  go_loopw [12] (fun i wr => ∃ t : Nat, t ≤ 4 ∧ ∃ lp, MulAt a b t 0 0 lp ∧ i = .int .i64 t ∧ Blk wr (w.heap.size + 1) 24 (natsV .u64 lb) ∧ Blk wr (w.heap.size + 1 + 1) 26 (natsV .u64 (zeros 8)) ∧ Blk wr (w.heap.size + 1 + 1 + 1) 26 (natsV .u64 lp) ∧ Below w.heap.size w wr) (fun i _ => 4 - (intOf i).toNat)
  case atStart => exact ⟨0, by omega, zeros 8, MulAt.start a b, rfl, B2.out, B3.out, B4.out, BEL.out⟩
  case round =>
    clear B1 B2 B3 B4 BEL
    obtain ⟨t, ht, lp, hm, rfl, k2, k3, k4, hbel⟩ := hrel
    have K2 := Lib.hid k2
    have K3 := Lib.hid k3
    have K4 := Lib.hid k4
    have HM := Lib.hid hm
    clear k2 k3 k4 hm
    by_cases h5 : t < 4
    · as_aux_lemma =>
      have hti : (t : Int) < 4 := by omega
      have ix := fun w0 => index_nats (P := Try.prog) w0 24 22 4 .u64 la t Try.underlying24 Try.underlying22 info22 h5 LA.out
      rw [AA.out t h5] at ix
      have HU := dgt_lt (B := 2 ^ 64) (by decide) a t
      obtain ⟨u, hu⟩ : ∃ u, u = dgt (2 ^ 64) a t := ⟨_, rfl⟩
      rw [← hu] at ix HU
      have HUD := Lib.hid hu
      clear hu
      obtain ⟨W1, hW1⟩ : ∃ W1 : World, W1 = wr := ⟨_, rfl⟩
      rw [← hW1] at hbel K2 K3 K4 ⊢
      clear hW1
      go_wp2_with (refine ld24 rfl (.tmp 3) rfl (w.heap.size + 1) rfl lb K2.out LB.out ?_)
      clear ix
      go_loopw [8, 17] (fun cc jj wr => ∃ s : Nat, s ≤ 4 ∧ ∃ lq cy, MulAt a b t s cy lq ∧ jj = .int .i64 s ∧ cc = .int .u64 (cy : Nat) ∧ Blk wr (w.heap.size + 1) 24 (natsV .u64 lb) ∧ Blk wr (w.heap.size + 1 + 1) 26 (natsV .u64 (zeros 8)) ∧ Blk wr (w.heap.size + 1 + 1 + 1) 26 (natsV .u64 lq) ∧ Below w.heap.size w wr) (fun _ jj _ => 4 - (intOf jj).toNat)
      case atStart => exact ⟨0, by omega, lp, 0, HM.out, rfl, rfl, K2.out, K3.out, K4.out, hbel⟩
      case round =>
        clear HM K2 K3 K4 hbel
        obtain ⟨s, hs, lq, cy, hm, rfl, rfl, k2, k3, k4, hbel⟩ := hrel
        have K2 := Lib.hid k2
        have K3 := Lib.hid k3
        have K4 := Lib.hid k4
        have HM := Lib.hid hm
        have hcy := hm.2.2.1
        have HLQ := Lib.hid hm.1
        clear k2 k3 k4
        by_cases hs4 : s < 4
        · as_aux_lemma =>
          have hsi : (s : Int) < 4 := by omega
          have ix := fun w0 => index_nats (P := Try.prog) w0 24 22 4 .u64 lb s Try.underlying24 Try.underlying22 info22 hs4 LB.out
          rw [AB.out s hs4] at ix
          have HN := Lib.hid (hm.next h5 hs4 HB.out)
          have hpj := getD_lt' hm.2.1 (by decide) (t + s)
          clear hm
          rw [← HUD.out] at HN
          have HV := dgt_lt (B := 2 ^ 64) (by decide) b s
          generalize dgt (2 ^ 64) b s = v at *
          obtain ⟨p, hp⟩ : ∃ p, p = t + s := ⟨_, rfl⟩
          rw [← hp] at HN hpj
          have e1 : (t : Int) + (s : Int) = (p : Int) := by omega
          have hp8 : p < 8 := by omega
          have hpi : (p : Int) < 8 := by omega
          clear hp
          have c0 := K4.out.nat p (by rw [HLQ.out]; exact hp8)
          have f0 := K4.out.free p
          generalize lq.getD p 0 = pj at *
          have HC := Lib.hid (fun w => mulAdd_any u v pj cy w HU HV hpj hcy)
          generalize mlo u v pj cy = lo at *
          generalize mhi u v pj cy = hi at *
          go_wp2_with fail
          refine (HC.out _).mono ?_
          rintro e w1 ⟨rfl, rfl⟩
          have n4 := Lib.hid (K4.out.natSet p lo)
          have n3 := Lib.hid (K3.out.other ⟨w.heap.size + 1 + 1 + 1, p, none⟩ (.int .u64 (lo : Nat)) (by simp))
          have n2 := Lib.hid (K2.out.other ⟨w.heap.size + 1 + 1 + 1, p, none⟩ (.int .u64 (lo : Nat)) (by simp))
          have hb2 := hbel.setCell (p := ⟨w.heap.size + 1 + 1 + 1, p, none⟩) (by simp; omega) (.int .u64 (lo : Nat))
          clear K2 K3 K4 hbel
          go_wp2_with fail
          go_roundw
          case rel => exact ⟨s + 1, by omega, _, hi, HN.out, by go_num, rfl, n2.out, n3.out, n4.out, hb2⟩
          case measure => simp [intOf] <;> omega
        · obtain rfl : s = 4 := by omega
          rw [show ((4 : Nat) : Int) = 4 from rfl]
          have HR := Lib.hid (hm.row h5 HB.out)
          clear hm
          obtain ⟨p, hp⟩ : ∃ p, p = t + 4 := ⟨_, rfl⟩
          rw [← hp] at HR
          have e1 : (t : Int) + 4 = (p : Int) := by omega
          have hp8 : p < 8 := by omega
          have hpi : (p : Int) < 8 := by omega
          clear hp
          have c0 := K4.out.nat p (by rw [HLQ.out]; exact hp8)
          have f0 := K4.out.free p
          have n4 := Lib.hid (K4.out.natSet p cy)
          have n3 := Lib.hid (K3.out.other ⟨w.heap.size + 1 + 1 + 1, p, none⟩ (.int .u64 (cy : Nat)) (by simp))
          have n2 := Lib.hid (K2.out.other ⟨w.heap.size + 1 + 1 + 1, p, none⟩ (.int .u64 (cy : Nat)) (by simp))
          have hb2 := hbel.setCell (p := ⟨w.heap.size + 1 + 1 + 1, p, none⟩) (by simp; omega) (.int .u64 (cy : Nat))
          clear K2 K3 K4 hbel
          go_wp2_with fail
          go_roundw
          case rel => exact ⟨t + 1, by omega, _, HR.out, by go_num, n2.out, n3.out, n4.out, hb2⟩
          case measure => simp [intOf] <;> omega
    · obtain rfl : t = 4 := by omega
      rw [show ((4 : Nat) : Int) = 4 from rfl]
      have HE := HDN.out lp HM.out
      subst HE
      have j2 := K3.out.setRow (natsV .u64 lp)
      have hb2 := below_setRow' hbel (show w.heap.size ≤ w.heap.size + 1 + 1 by omega) (natsV .u64 lp).toArray
      go_wp2_with (first | (refine ld26 rfl (.tmp 5) rfl (w.heap.size + 1 + 1 + 1) rfl lp K4.out LS.out ?_) | (refine st26 rfl (.tmp 4) (.tmp 43) rfl (w.heap.size + 1 + 1) rfl lp rfl LS.out (zeros 8) K3.out rfl ?_))
      refine bodyPost_ret (v := .agg (natsV .u64 lp).toArray) ?_ rfl ⟨rfl, hb2⟩
      exact results_cell_row Try.results11 _ _ (w.heap.size + 1 + 1) 26 _ (0, 0) _ rfl j2 Try.underlying26 rfl (by rw [info26, size_nats, LS.out])
end Go.Proofs.Ytfffmoolkgheaaa
