/- A step of the transform: each two coefficients that stand n apart are mixed. Condition: n is a power of 2 below 256. -/
import Derived.Test.YtbhhpopckchibaaPo
import Derived.Test.YtbhhpopckchibaaGl
namespace Go.Proofs.Ytbhhpopckchibaa
open Go.RowKit
set_option linter.unusedVariables false
set_option linter.unusedSimpArgs false
theorem and_pow : ∀ k : Nat, k < 8 → ∀ t : Nat, t < 256 → bits .and .i64 (t : Int) ((2 ^ k : Nat) : Int) = if t / 2 ^ k % 2 = 0 then 0 else ((2 ^ k : Nat) : Int) := by decide +kernel
/-- where a pair begins -/
def baseP (n j : Nat) : Nat := if j / n % 2 = 0 then j else j - n
def pairI (n : Nat) (p q : Nat → FQ) (t : Nat) : List Int := tellI (fun j => if baseP n j < t then ((q j).val : Int) else ((p j).val : Int)) 256
theorem pairI_len (n : Nat) (p q : Nat → FQ) (t : Nat) : (pairI n p q t).length = 256 := tellI_length _ _
theorem pairI_zero (n : Nat) (p q : Nat → FQ) : pairI n p q 0 = PL p := tellI_congr fun j _ => if_neg (by omega)
theorem pairI_all (n : Nat) (p q : Nat → FQ) : pairI n p q 256 = PL q := tellI_congr fun j hj => if_pos (by unfold baseP; split <;> omega)
theorem pairI_none {n : Nat} (hn : 0 < n) (p q : Nat → FQ) (t : Nat) (h : ¬ t / n % 2 = 0) : pairI n p q (t + 1) = pairI n p q t := by
  refine tellI_congr fun j hj => ?_
  have : baseP n j ≠ t := by
    unfold baseP
    by_cases hb : j / n % 2 = 0
    · rw [if_pos hb]; intro e; exact h (e ▸ hb)
    · rw [if_neg hb]; intro e; exact h (e ▸ (par_dn hn hb).2)
  by_cases h2 : baseP n j < t
  · rw [if_pos h2, if_pos (by omega)]
  · rw [if_neg h2, if_neg (by omega)]
theorem pairI_at {n : Nat} (p q : Nat → FQ) (t j : Nat) (hj : j < 256) (h : baseP n j = t) : (pairI n p q t).getD j 0 = ((p j).val : Int) := by
  unfold pairI; rw [tellI_get _ _ _ hj, if_neg (by omega)]
theorem pairI_set {n : Nat} (hn : 0 < n) (p q : Nat → FQ) (t : Nat) (h : t / n % 2 = 0) : ((pairI n p q t).set t ((q t).val : Int)).set (t + n) ((q (t + n)).val : Int) = pairI n p q (t + 1) := by
  unfold pairI
  rw [tellI_set, tellI_set]
  refine tellI_congr fun j hj => ?_
  have b1 : baseP n t = t := if_pos h
  have b2 : baseP n (t + n) = t := by
    have := par_up hn h
    unfold baseP; rw [if_neg (by omega)]; omega
  by_cases e : j = t + n
  · subst e; rw [if_pos rfl, b2, if_pos (by omega)]
  · rw [if_neg e]
    by_cases e2 : j = t
    · subst e2; rw [if_pos rfl, b1, if_pos (by omega)]
    · rw [if_neg e2]
      have : baseP n j ≠ t := by
        unfold baseP
        by_cases hb : j / n % 2 = 0
        · rw [if_pos hb]; exact e2
        · rw [if_neg hb]; have := (par_dn hn hb).1; omega
      by_cases h2 : baseP n j < t
      · rw [if_pos h2, if_pos (by omega)]
      · rw [if_neg h2, if_neg (by omega)]
theorem stC {ops : Array Oper} {o : Oper} {a : Act} {g x : Nat} {t : TypeId} {u : Value} {p q : Operand} (hw : Region.wanted o (yielded ops a.tmps) = true) (ho : o.op = .store 21 p q) (hp : a.eval p = .pointer (some ⟨g, x, none⟩)) (hq : a.eval q = u) {z : Int} (hu : u = .int .i32 z) : StoresC Try.prog ops o g x t u a :=
  StoresC.mk hw (fun w old hb hx => by
    have hc := hb.cell x
    have hf := hb.free x
    rw [List.getElem?_eq_getElem hx] at hc
    subst hu
    unfold execOp
    simp only [ho, hp, hq]
    go_simp)
theorem pair_fit : ∀ k : Nat, k < 8 → ∀ t : Nat, t < 256 → t / 2 ^ k % 2 = 0 → t + 2 ^ k < 256 := by decide +kernel
theorem kap_lt : ∀ k : Nat, k < 8 → ∀ t : Nat, t < 256 → (256 + t) / (2 * 2 ^ k) < 256 := by decide +kernel
theorem pw_le : ∀ k : Nat, k < 8 → 0 < 2 ^ k ∧ 2 ^ k ≤ 128 := by decide +kernel
set_option maxRecDepth 100000 in
set_option maxHeartbeats 4000000 in
theorem pair47_any (p r : Nat → FQ) (k : Nat) (hk : k < 8) (w : World) : Calls Try.prog 46 #[.agg (iv (PL p)).toArray, .int .i64 (2 ^ k : Nat), .agg (iv (PL r)).toArray, .func (.func 47) #[] #[]] w fun e w' => e = .returned (.agg (iv (PL (pairs loF hiF r (2 ^ k) p))).toArray) ∧ Below w.heap.size w w' := by
  obtain ⟨hn0, hn1⟩ := pw_le k hk
  have AP := Lib.hid (and_pow k hk)
  have FT := Lib.hid (pair_fit k hk)
  have KL := Lib.hid (kap_lt k hk)
  obtain ⟨n, hn⟩ : ∃ n, 2 ^ k = n := ⟨_, rfl⟩
  rw [hn] at hn0 hn1 AP FT KL ⊢
  clear hn
  obtain ⟨q, hq⟩ : ∃ q, pairs loF hiF r n p = q := ⟨_, rfl⟩
  have HQ := Lib.hid hq
  rw [hq]
  clear hq
  have LP := Lib.hid (PL_length p)
  have LR := Lib.hid (PL_length r)
  have B1 := Lib.hid (((Blk.new w 23 (iv (PL p))).alloc (.cells (iv (PL r)).toArray 22)).alloc (.cells (iv zerI).toArray 23))
  have B2 := Lib.hid ((Blk.new2 w (.cells (iv (PL p)).toArray 23) 22 (iv (PL r))).alloc (.cells (iv zerI).toArray 23))
  have B3 := Lib.hid (Blk.new3 w (.cells (iv (PL p)).toArray 23) (.cells (iv (PL r)).toArray 22) 23 (iv zerI))
  have BEL := Lib.hid ((((Below.refl w.heap.size w).alloc (Nat.le_refl _) (.cells (iv (PL p)).toArray 23)).alloc (by simp) (.cells (iv (PL r)).toArray 22)).alloc (by simp; omega) (.cells (iv zerI).toArray 23))
  have z23 := zero23
  go_enter Try.func46, Try.ntmps46
  go_wp2_with fail
  clear z23
  go_loopw [10] (fun c wr => ∃ t : Nat, t ≤ 256 ∧ c = .int .i64 t ∧ Blk wr w.heap.size 23 (iv (pairI n p q t)) ∧ Blk wr (w.heap.size + 1) 22 (iv (PL r)) ∧ Blk wr (w.heap.size + 1 + 1) 23 (iv zerI) ∧ Below w.heap.size w wr) (fun c _ => 256 - (intOf c).toNat)
  case atStart => exact ⟨0, by omega, rfl, by rw [pairI_zero]; exact B1.out, B2.out, B3.out, BEL.out⟩
  case round =>
    clear B1 B2 B3 BEL
    obtain ⟨t, ht, rfl, k1, k2, k3, hbel⟩ := hrel
    have K1 := Lib.hid k1
    have K2 := Lib.hid k2
    have K3 := Lib.hid k3
    clear k1 k2 k3
    by_cases h5 : t < 256
    · have ha := AP.out t h5
      by_cases hpar : t / n % 2 = 0
      · as_aux_lemma =>
        rw [if_pos hpar] at ha
        have hfit := FT.out t h5 hpar
        have hkl := KL.out t h5
        have hb2 : baseP n (t + n) = t := by
          have := par_up hn0 hpar
          unfold baseP; rw [if_neg (by omega)]; omega
        have ca := K1.out.iv t (by rw [pairI_len]; exact h5)
        have cb := K1.out.iv (t + n) (by rw [pairI_len]; exact hfit)
        have cr := K2.out.iv ((256 + t) / (2 * n)) (by rw [LR.out]; exact hkl)
        rw [pairI_at p q t t h5 (if_pos hpar)] at ca
        rw [pairI_at p q t (t + n) hfit hb2] at cb
        rw [PL_get r _ hkl] at cr
        have ca0 := Lib.hid (pairI_at p q t t h5 (if_pos hpar))
        have cb0 := Lib.hid (pairI_at p q t (t + n) hfit hb2)
        have cr0 := Lib.hid (PL_get r _ hkl)
        have fa := K1.out.free t
        have fb := K1.out.free (t + n)
        have HV := Lib.hid (pairI_set hn0 p q t hpar)
        have H1 := Lib.hid (show q t = loF (p t) (p (t + n)) (r ((256 + t) / (2 * n))) by rw [← HQ.out]; unfold pairs; rw [if_pos hpar])
        have H2 := Lib.hid (show q (t + n) = hiF (p t) (p (t + n)) (r ((256 + t) / (2 * n))) by
          rw [← HQ.out]; unfold pairs
          have := par_up hn0 hpar
          rw [if_neg (by omega), show t + n - n = t by omega])
        have HC := Lib.hid (clF_any (p t) (p (t + n)) (r ((256 + t) / (2 * n))))
        rw [← H1.out, ← H2.out] at HC
        clear hpar hb2
        have e1 : IntKind.i64.wrap ((t : Int) + (n : Int)) = ((t + n : Nat) : Int) := by rw [IntWalk.i64_in _ (by omega)]; omega
        have e2 : IntKind.i64.wrap (256 + (t : Int)) = ((256 + t : Nat) : Int) := by rw [IntWalk.i64_in _ (by omega)]; omega
        have e3 : IntKind.i64.wrap (2 * (n : Int)) = ((2 * n : Nat) : Int) := by rw [IntWalk.i64_in _ (by omega)]; omega
        have e4 : Int.tdiv ((256 + t : Nat) : Int) ((2 * n : Nat) : Int) = (((256 + t) / (2 * n) : Nat) : Int) := (Int.ofNat_tdiv _ _).symm
        have e4b : ((256 + t : Nat) : Int) / ((2 * n : Nat) : Int) = (((256 + t) / (2 * n) : Nat) : Int) := rfl
        have e4c : IntKind.i64.wrap (((256 + t) / (2 * n) : Nat) : Int) = (((256 + t) / (2 * n) : Nat) : Int) := IntWalk.i64_in _ (by generalize (256 + t) / (2 * n) = z at hkl ⊢; omega)
        have e5 : (((2 * n : Nat) : Int) == 0) = false := beq_eq_false_iff_ne.2 (by omega)
        have e6 : 0 < 2 * n := by omega
        have e7 : ((2 * n : Nat) : Int) ≠ 0 := by omega
        have e9 : ¬ 2 * n = 0 := by omega
        have e8 : (0 : Int) < ((2 * n : Nat) : Int) := by omega
        have i1 : (t : Int) < 256 := by omega
        have i2 : ((t + n : Nat) : Int) < 256 := by omega
        have i3 : (((256 + t) / (2 * n) : Nat) : Int) < 256 := by omega
        generalize q t = qa at *
        generalize q (t + n) = qb at *
        generalize p t = xa at *
        generalize p (t + n) = xb at *
        generalize r ((256 + t) / (2 * n)) = xr at *
        generalize (256 + t) / (2 * n) = kx at *
        generalize 256 + t = s1 at *
        generalize 2 * n = s2 at *
        obtain ⟨tn, htn⟩ : ∃ tn, t + n = tn := ⟨_, rfl⟩
        rw [htn] at e1 i2 cb fb HV hfit cb0
        have hne1 : ¬ tn = t := by omega
        have hne2 : ¬ t = tn := by omega
        have HTN := Lib.hid htn
        clear htn FT AP KL
        go_wp2_with fail
        have LQ := Lib.hid (pairI_len n p q t)
        generalize pairI n p q t = old at *
        refine wp_region_L (fun w_ => Blk w_ w.heap.size 23 (iv old) ∧ Blk w_ (w.heap.size + 1) 22 (iv (PL r))) [25, 27] [0, 1, 2, 3, 4, 5, 6, 8, 9, 10, 11, 13, 14, 15, 16, 17, 18, 20, 21, 22, 23, 24, 25, 26, 27] (by kernel_rfl) ⟨K1.out.drew, K2.out.drew⟩ ?_
        refine wpAnyL_pure (fun _ _ hS_ hb_ => ⟨hS_.1.gr hb_, hS_.2.gr hb_⟩) (i := 0) rfl (by kernel_rfl) (fun _ _ _ h => h) (pureG (by rfl) (by intro w_; go_simp; first | done | with_reducible rfl)) ?_
        try simp only [Act.put, List.getElem_toArray, List.getElem_cons_succ, List.getElem_cons_zero, List.setIfInBounds_toArray, List.set_cons_zero, List.set_cons_succ]
        refine wpAnyL_pure (fun _ _ hS_ hb_ => ⟨hS_.1.gr hb_, hS_.2.gr hb_⟩) (i := 1) rfl (by kernel_rfl) (fun _ _ _ h => h) (pureG (by rfl) (by intro w_; go_simp; first | done | with_reducible rfl)) ?_
        try simp only [Act.put, List.getElem_toArray, List.getElem_cons_succ, List.getElem_cons_zero, List.setIfInBounds_toArray, List.set_cons_zero, List.set_cons_succ]
        refine wpAnyL_pure (fun _ _ hS_ hb_ => ⟨hS_.1.gr hb_, hS_.2.gr hb_⟩) (i := 2) rfl (by kernel_rfl) (fun _ _ _ h => h) (pureG (by rfl) (by intro w_; go_simp; first | done | with_reducible rfl)) ?_
        try simp only [Act.put, List.getElem_toArray, List.getElem_cons_succ, List.getElem_cons_zero, List.setIfInBounds_toArray, List.set_cons_zero, List.set_cons_succ]
        refine wpAnyL_pure (fun _ _ hS_ hb_ => ⟨hS_.1.gr hb_, hS_.2.gr hb_⟩) (i := 3) rfl (by kernel_rfl) (fun _ _ _ h => h) (pureG (by rfl) (by intro w_; go_simp; first | done | with_reducible rfl)) ?_
        try simp only [Act.put, List.getElem_toArray, List.getElem_cons_succ, List.getElem_cons_zero, List.setIfInBounds_toArray, List.set_cons_zero, List.set_cons_succ]
        refine wpAnyL_pure (fun _ _ hS_ hb_ => ⟨hS_.1.gr hb_, hS_.2.gr hb_⟩) (i := 4) rfl (by kernel_rfl) (fun _ _ _ h => h) (pureG (by rfl) (by intro w_; go_simp; first | done | with_reducible rfl)) ?_
        try simp only [Act.put, List.getElem_toArray, List.getElem_cons_succ, List.getElem_cons_zero, List.setIfInBounds_toArray, List.set_cons_zero, List.set_cons_succ]
        refine wpAnyL_pure (fun _ _ hS_ hb_ => ⟨hS_.1.gr hb_, hS_.2.gr hb_⟩) (i := 5) rfl (by kernel_rfl) (fun _ _ _ h => h) (pureG (by rfl) (by intro w_; go_simp; first | done | with_reducible rfl)) ?_
        try simp only [Act.put, List.getElem_toArray, List.getElem_cons_succ, List.getElem_cons_zero, List.setIfInBounds_toArray, List.set_cons_zero, List.set_cons_succ]
        refine wpAnyL_pure (fun _ _ hS_ hb_ => ⟨hS_.1.gr hb_, hS_.2.gr hb_⟩) (i := 6) rfl (by kernel_rfl) (fun _ _ _ h => h) (pureG (by rfl) (by intro w_; go_simp; first | done | with_reducible rfl)) ?_
        try simp only [Act.put, List.getElem_toArray, List.getElem_cons_succ, List.getElem_cons_zero, List.setIfInBounds_toArray, List.set_cons_zero, List.set_cons_succ]
        refine wpAnyL_take (fun _ _ hS_ hb_ => ⟨hS_.1.gr hb_, hS_.2.gr hb_⟩) (i := 7) rfl (by kernel_rfl) (fun _ _ _ h => h) (worldG (by rfl) (by intro w_ hS_; have q1 := hS_.1.iv t (by rw [LQ.out]; exact h5); rw [ca0.out] at q1; go_simp; first | done | with_reducible rfl)) ?_
        try simp only [Act.put, List.getElem_toArray, List.getElem_cons_succ, List.getElem_cons_zero, List.setIfInBounds_toArray, List.set_cons_zero, List.set_cons_succ]
        refine wpAnyL_pure (fun _ _ hS_ hb_ => ⟨hS_.1.gr hb_, hS_.2.gr hb_⟩) (i := 8) rfl (by kernel_rfl) (fun _ _ _ h => h) (pureG (by rfl) (by intro w_; go_simp; first | done | with_reducible rfl)) ?_
        try simp only [Act.put, List.getElem_toArray, List.getElem_cons_succ, List.getElem_cons_zero, List.setIfInBounds_toArray, List.set_cons_zero, List.set_cons_succ]
        refine wpAnyL_pure (fun _ _ hS_ hb_ => ⟨hS_.1.gr hb_, hS_.2.gr hb_⟩) (i := 9) rfl (by kernel_rfl) (fun _ _ _ h => h) (pureG (by rfl) (by intro w_; go_simp; first | done | with_reducible rfl)) ?_
        try simp only [Act.put, List.getElem_toArray, List.getElem_cons_succ, List.getElem_cons_zero, List.setIfInBounds_toArray, List.set_cons_zero, List.set_cons_succ]
        refine wpAnyL_pure (fun _ _ hS_ hb_ => ⟨hS_.1.gr hb_, hS_.2.gr hb_⟩) (i := 10) rfl (by kernel_rfl) (fun _ _ _ h => h) (pureG (by rfl) (by intro w_; go_simp; first | done | with_reducible rfl)) ?_
        try simp only [Act.put, List.getElem_toArray, List.getElem_cons_succ, List.getElem_cons_zero, List.setIfInBounds_toArray, List.set_cons_zero, List.set_cons_succ]
        refine wpAnyL_pure (fun _ _ hS_ hb_ => ⟨hS_.1.gr hb_, hS_.2.gr hb_⟩) (i := 11) rfl (by kernel_rfl) (fun _ _ _ h => h) (pureG (by rfl) (by intro w_; go_simp; first | done | with_reducible rfl)) ?_
        try simp only [Act.put, List.getElem_toArray, List.getElem_cons_succ, List.getElem_cons_zero, List.setIfInBounds_toArray, List.set_cons_zero, List.set_cons_succ]
        refine wpAnyL_take (fun _ _ hS_ hb_ => ⟨hS_.1.gr hb_, hS_.2.gr hb_⟩) (i := 12) rfl (by kernel_rfl) (fun _ _ _ h => h) (worldG (by rfl) (by intro w_ hS_; have q1 := hS_.1.iv tn (by rw [LQ.out]; exact hfit); rw [cb0.out] at q1; go_simp; first | done | with_reducible rfl)) ?_
        try simp only [Act.put, List.getElem_toArray, List.getElem_cons_succ, List.getElem_cons_zero, List.setIfInBounds_toArray, List.set_cons_zero, List.set_cons_succ]
        refine wpAnyL_pure (fun _ _ hS_ hb_ => ⟨hS_.1.gr hb_, hS_.2.gr hb_⟩) (i := 13) rfl (by kernel_rfl) (fun _ _ _ h => h) (pureG (by rfl) (by intro w_; go_simp; first | done | with_reducible rfl)) ?_
        try simp only [Act.put, List.getElem_toArray, List.getElem_cons_succ, List.getElem_cons_zero, List.setIfInBounds_toArray, List.set_cons_zero, List.set_cons_succ]
        refine wpAnyL_pure (fun _ _ hS_ hb_ => ⟨hS_.1.gr hb_, hS_.2.gr hb_⟩) (i := 14) rfl (by kernel_rfl) (fun _ _ _ h => h) (pureG (by rfl) (by intro w_; go_simp; first | done | with_reducible rfl)) ?_
        try simp only [Act.put, List.getElem_toArray, List.getElem_cons_succ, List.getElem_cons_zero, List.setIfInBounds_toArray, List.set_cons_zero, List.set_cons_succ]
        refine wpAnyL_pure (fun _ _ hS_ hb_ => ⟨hS_.1.gr hb_, hS_.2.gr hb_⟩) (i := 15) rfl (by kernel_rfl) (fun _ _ _ h => h) (pureG (by rfl) (by intro w_; go_simp; first | done | with_reducible rfl)) ?_
        try simp only [Act.put, List.getElem_toArray, List.getElem_cons_succ, List.getElem_cons_zero, List.setIfInBounds_toArray, List.set_cons_zero, List.set_cons_succ]
        refine wpAnyL_pure (fun _ _ hS_ hb_ => ⟨hS_.1.gr hb_, hS_.2.gr hb_⟩) (i := 16) rfl (by kernel_rfl) (fun _ _ _ h => h) (pureG (by rfl) (by intro w_; go_simp; first | done | with_reducible rfl)) ?_
        try simp only [Act.put, List.getElem_toArray, List.getElem_cons_succ, List.getElem_cons_zero, List.setIfInBounds_toArray, List.set_cons_zero, List.set_cons_succ]
        refine wpAnyL_pure (fun _ _ hS_ hb_ => ⟨hS_.1.gr hb_, hS_.2.gr hb_⟩) (i := 17) rfl (by kernel_rfl) (fun _ _ _ h => h) (pureG (by rfl) (by intro w_; go_simp; first | done | with_reducible rfl)) ?_
        try simp only [Act.put, List.getElem_toArray, List.getElem_cons_succ, List.getElem_cons_zero, List.setIfInBounds_toArray, List.set_cons_zero, List.set_cons_succ]
        refine wpAnyL_pure (fun _ _ hS_ hb_ => ⟨hS_.1.gr hb_, hS_.2.gr hb_⟩) (i := 18) rfl (by kernel_rfl) (fun _ _ _ h => h) (pureG (by rfl) (by intro w_; go_simp; first | done | with_reducible rfl)) ?_
        try simp only [Act.put, List.getElem_toArray, List.getElem_cons_succ, List.getElem_cons_zero, List.setIfInBounds_toArray, List.set_cons_zero, List.set_cons_succ]
        refine wpAnyL_take (fun _ _ hS_ hb_ => ⟨hS_.1.gr hb_, hS_.2.gr hb_⟩) (i := 19) rfl (by kernel_rfl) (fun _ _ _ h => h) (worldG (by rfl) (by intro w_ hS_; have q1 := hS_.2.iv kx (by rw [LR.out]; exact hkl); rw [cr0.out] at q1; go_simp; first | done | with_reducible rfl)) ?_
        try simp only [Act.put, List.getElem_toArray, List.getElem_cons_succ, List.getElem_cons_zero, List.setIfInBounds_toArray, List.set_cons_zero, List.set_cons_succ]
        refine wpAnyL_pure (fun _ _ hS_ hb_ => ⟨hS_.1.gr hb_, hS_.2.gr hb_⟩) (i := 20) rfl (by kernel_rfl) (fun _ _ _ h => h) (callGv (by rfl) rfl (by rfl) Try.func47 (by kernel_rfl) (by kernel_rfl) (#[qv xa, qv xb, qv xr]) (by simp [Act.eval]) (fun W_ _ => quietC (HC.out W_))) ?_
        try simp only [Act.put, List.getElem_toArray, List.getElem_cons_succ, List.getElem_cons_zero, List.setIfInBounds_toArray, List.set_cons_zero, List.set_cons_succ]
        refine wpAnyL_pure (fun _ _ hS_ hb_ => ⟨hS_.1.gr hb_, hS_.2.gr hb_⟩) (i := 21) rfl (by kernel_rfl) (fun _ _ _ h => h) (pureG (by rfl) (by intro w_; go_simp; first | done | with_reducible rfl)) ?_
        try simp only [Act.put, List.getElem_toArray, List.getElem_cons_succ, List.getElem_cons_zero, List.setIfInBounds_toArray, List.set_cons_zero, List.set_cons_succ]
        refine wpAnyL_pure (fun _ _ hS_ hb_ => ⟨hS_.1.gr hb_, hS_.2.gr hb_⟩) (i := 22) rfl (by kernel_rfl) (fun _ _ _ h => h) (pureG (by rfl) (by intro w_; go_simp; first | done | with_reducible rfl)) ?_
        try simp only [Act.put, List.getElem_toArray, List.getElem_cons_succ, List.getElem_cons_zero, List.setIfInBounds_toArray, List.set_cons_zero, List.set_cons_succ]
        refine wpAnyL_pure (fun _ _ hS_ hb_ => ⟨hS_.1.gr hb_, hS_.2.gr hb_⟩) (i := 23) rfl (by kernel_rfl) (fun _ _ _ h => h) (pureG (by rfl) (by intro w_; go_simp; first | done | with_reducible rfl)) ?_
        try simp only [Act.put, List.getElem_toArray, List.getElem_cons_succ, List.getElem_cons_zero, List.setIfInBounds_toArray, List.set_cons_zero, List.set_cons_succ]
        refine wpAnyL_pure (fun _ _ hS_ hb_ => ⟨hS_.1.gr hb_, hS_.2.gr hb_⟩) (i := 24) rfl (by kernel_rfl) (fun _ _ _ h => h) (pureG (by rfl) (by intro w_; go_simp; first | done | with_reducible rfl)) ?_
        try simp only [Act.put, List.getElem_toArray, List.getElem_cons_succ, List.getElem_cons_zero, List.setIfInBounds_toArray, List.set_cons_zero, List.set_cons_succ]
        refine wpAnyL_cellK (i := 25) (g := w.heap.size) (x := t) (t := 23) (u := qv qa) (by kernel_rfl) rfl rfl (by kernel_rfl) (by decide) (by first | exact K1.out.drew | exact K1.out) (by rw [iv_length, LQ.out]; exact h5) (stC (by rfl) rfl rfl rfl rfl) ?_
        intro W1 hg1 hb1
        try simp only [Act.put, List.getElem_toArray, List.getElem_cons_succ, List.getElem_cons_zero, List.setIfInBounds_toArray, List.set_cons_zero, List.set_cons_succ]
        refine wpAnyL_pure (fun _ _ hS_ hb_ => ⟨hS_.1.gr hb_, hS_.2.gr hb_⟩) (i := 26) rfl (by kernel_rfl) (fun _ _ _ h => h) (pureG (by rfl) (by intro w_; go_simp; first | done | with_reducible rfl)) ?_
        try simp only [Act.put, List.getElem_toArray, List.getElem_cons_succ, List.getElem_cons_zero, List.setIfInBounds_toArray, List.set_cons_zero, List.set_cons_succ]
        refine wpAnyL_cell (i := 27) (g := w.heap.size) (x := tn) (t := 23) (u := qv qb) (by kernel_rfl) (by kernel_rfl) rfl rfl (by kernel_rfl) (by decide) hb1 (by rw [List.length_set, iv_length, LQ.out]; exact hfit) (stC (by rfl) rfl rfl rfl rfl) ?_
        intro W hg2 hb
        have hg := grown_trans hg1 hg2
        clear hg1 hg2 hb1
        try simp only [Act.put, List.getElem_toArray, List.getElem_cons_succ, List.getElem_cons_zero, List.setIfInBounds_toArray, List.set_cons_zero, List.set_cons_succ]
        rw [show ((iv old).set t (qv qa)).set tn (qv qb) = iv (pairI n p q (t + 1)) by rw [iv_set, iv_set, HV.out]] at hb
        have k2 := K2.out.drew.grown hg (by simp)
        have k3 := K3.out.drew.grown hg (by simp; omega)
        have hbel2 := belStore hbel.drew hg (Nat.le_refl _)
        clear K1 K2 K3 hg ca cb cr fa fb e1 e2 e3 e4 e4b e4c e5 e6 e7 e8 e9 hbel ha
        go_wp2_with fail
        go_roundw
        case rel => exact ⟨t + 1, by omega, by go_num, hb, k2, k3, hbel2⟩
        case measure => simp [intOf]; omega
      · have ha2 := ha
        rw [if_neg hpar] at ha2
        have hz : ((n : Int) == 0) = false := beq_eq_false_iff_ne.2 (by omega)
        have HN := Lib.hid (pairI_none hn0 p q t hpar)
        clear ha AP FT KL
        have i1 : (t : Int) < 256 := by omega
        go_wp2_with fail
        go_roundw
        case rel => exact ⟨t + 1, by omega, by go_num, by rw [HN.out]; exact K1.out, K2.out, K3.out, hbel⟩
        case measure => simp [intOf]; omega
    · obtain rfl : t = 256 := by omega
      rw [pairI_all] at K1
      have HL := Lib.hid (PL_length q)
      obtain ⟨m, hm⟩ : ∃ m, PL q = m := ⟨_, rfl⟩
      rw [hm] at K1 HL
      have HMQ := Lib.hid hm
      clear hm AP FT KL
      go_wp2_with (first | (refine wpList_load_row rfl 23 (.tmp 4) rfl w.heap.size rfl 23 (iv m).toArray (0, 0) _ K1.out Try.underlying23 rfl (j23 HL.out) ?_) | (refine wpList_store_row rfl 23 (.tmp 8) (.tmp 44) rfl (w.heap.size + 1 + 1) (iv m).toArray rfl rfl 23 (iv zerI).toArray K3.out (j23 HL.out) (by rw [iv_size, iv_size, HL.out, zerI_length]) (iv_all _) ?_))
      have j2 := K3.out.setRow (iv m)
      have hb2 := below_setRow' hbel (show w.heap.size ≤ w.heap.size + 1 + 1 by omega) (iv m).toArray
      refine bodyPost_ret (v := .agg (iv m).toArray) ?_ rfl ⟨by rw [HMQ.out], hb2⟩
      exact results_cell_row Try.results46 _ _ (w.heap.size + 1 + 1) 23 _ (0, 0) _ rfl j2 Try.underlying23 rfl (j23 HL.out)
set_option maxRecDepth 100000 in
set_option maxHeartbeats 4000000 in
theorem pair48_any (p r : Nat → FQ) (k : Nat) (hk : k < 8) (w : World) : Calls Try.prog 46 #[.agg (iv (PL p)).toArray, .int .i64 (2 ^ k : Nat), .agg (iv (PL r)).toArray, .func (.func 48) #[] #[]] w fun e w' => e = .returned (.agg (iv (PL (pairs loB hiB r (2 ^ k) p))).toArray) ∧ Below w.heap.size w w' := by
  obtain ⟨hn0, hn1⟩ := pw_le k hk
  have AP := Lib.hid (and_pow k hk)
  have FT := Lib.hid (pair_fit k hk)
  have KL := Lib.hid (kap_lt k hk)
  obtain ⟨n, hn⟩ : ∃ n, 2 ^ k = n := ⟨_, rfl⟩
  rw [hn] at hn0 hn1 AP FT KL ⊢
  clear hn
  obtain ⟨q, hq⟩ : ∃ q, pairs loB hiB r n p = q := ⟨_, rfl⟩
  have HQ := Lib.hid hq
  rw [hq]
  clear hq
  have LP := Lib.hid (PL_length p)
  have LR := Lib.hid (PL_length r)
  have B1 := Lib.hid (((Blk.new w 23 (iv (PL p))).alloc (.cells (iv (PL r)).toArray 22)).alloc (.cells (iv zerI).toArray 23))
  have B2 := Lib.hid ((Blk.new2 w (.cells (iv (PL p)).toArray 23) 22 (iv (PL r))).alloc (.cells (iv zerI).toArray 23))
  have B3 := Lib.hid (Blk.new3 w (.cells (iv (PL p)).toArray 23) (.cells (iv (PL r)).toArray 22) 23 (iv zerI))
  have BEL := Lib.hid ((((Below.refl w.heap.size w).alloc (Nat.le_refl _) (.cells (iv (PL p)).toArray 23)).alloc (by simp) (.cells (iv (PL r)).toArray 22)).alloc (by simp; omega) (.cells (iv zerI).toArray 23))
  have z23 := zero23
  go_enter Try.func46, Try.ntmps46
  go_wp2_with fail
  clear z23
  go_loopw [10] (fun c wr => ∃ t : Nat, t ≤ 256 ∧ c = .int .i64 t ∧ Blk wr w.heap.size 23 (iv (pairI n p q t)) ∧ Blk wr (w.heap.size + 1) 22 (iv (PL r)) ∧ Blk wr (w.heap.size + 1 + 1) 23 (iv zerI) ∧ Below w.heap.size w wr) (fun c _ => 256 - (intOf c).toNat)
  case atStart => exact ⟨0, by omega, rfl, by rw [pairI_zero]; exact B1.out, B2.out, B3.out, BEL.out⟩
  case round =>
    clear B1 B2 B3 BEL
    obtain ⟨t, ht, rfl, k1, k2, k3, hbel⟩ := hrel
    have K1 := Lib.hid k1
    have K2 := Lib.hid k2
    have K3 := Lib.hid k3
    clear k1 k2 k3
    by_cases h5 : t < 256
    · have ha := AP.out t h5
      by_cases hpar : t / n % 2 = 0
      · as_aux_lemma =>
        rw [if_pos hpar] at ha
        have hfit := FT.out t h5 hpar
        have hkl := KL.out t h5
        have hb2 : baseP n (t + n) = t := by
          have := par_up hn0 hpar
          unfold baseP; rw [if_neg (by omega)]; omega
        have ca := K1.out.iv t (by rw [pairI_len]; exact h5)
        have cb := K1.out.iv (t + n) (by rw [pairI_len]; exact hfit)
        have cr := K2.out.iv ((256 + t) / (2 * n)) (by rw [LR.out]; exact hkl)
        rw [pairI_at p q t t h5 (if_pos hpar)] at ca
        rw [pairI_at p q t (t + n) hfit hb2] at cb
        rw [PL_get r _ hkl] at cr
        have ca0 := Lib.hid (pairI_at p q t t h5 (if_pos hpar))
        have cb0 := Lib.hid (pairI_at p q t (t + n) hfit hb2)
        have cr0 := Lib.hid (PL_get r _ hkl)
        have fa := K1.out.free t
        have fb := K1.out.free (t + n)
        have HV := Lib.hid (pairI_set hn0 p q t hpar)
        have H1 := Lib.hid (show q t = loB (p t) (p (t + n)) (r ((256 + t) / (2 * n))) by rw [← HQ.out]; unfold pairs; rw [if_pos hpar])
        have H2 := Lib.hid (show q (t + n) = hiB (p t) (p (t + n)) (r ((256 + t) / (2 * n))) by
          rw [← HQ.out]; unfold pairs
          have := par_up hn0 hpar
          rw [if_neg (by omega), show t + n - n = t by omega])
        have HC := Lib.hid (clB_any (p t) (p (t + n)) (r ((256 + t) / (2 * n))))
        rw [← H1.out, ← H2.out] at HC
        clear hpar hb2
        have e1 : IntKind.i64.wrap ((t : Int) + (n : Int)) = ((t + n : Nat) : Int) := by rw [IntWalk.i64_in _ (by omega)]; omega
        have e2 : IntKind.i64.wrap (256 + (t : Int)) = ((256 + t : Nat) : Int) := by rw [IntWalk.i64_in _ (by omega)]; omega
        have e3 : IntKind.i64.wrap (2 * (n : Int)) = ((2 * n : Nat) : Int) := by rw [IntWalk.i64_in _ (by omega)]; omega
        have e4 : Int.tdiv ((256 + t : Nat) : Int) ((2 * n : Nat) : Int) = (((256 + t) / (2 * n) : Nat) : Int) := (Int.ofNat_tdiv _ _).symm
        have e4b : ((256 + t : Nat) : Int) / ((2 * n : Nat) : Int) = (((256 + t) / (2 * n) : Nat) : Int) := rfl
        have e4c : IntKind.i64.wrap (((256 + t) / (2 * n) : Nat) : Int) = (((256 + t) / (2 * n) : Nat) : Int) := IntWalk.i64_in _ (by generalize (256 + t) / (2 * n) = z at hkl ⊢; omega)
        have e5 : (((2 * n : Nat) : Int) == 0) = false := beq_eq_false_iff_ne.2 (by omega)
        have e6 : 0 < 2 * n := by omega
        have e7 : ((2 * n : Nat) : Int) ≠ 0 := by omega
        have e9 : ¬ 2 * n = 0 := by omega
        have e8 : (0 : Int) < ((2 * n : Nat) : Int) := by omega
        have i1 : (t : Int) < 256 := by omega
        have i2 : ((t + n : Nat) : Int) < 256 := by omega
        have i3 : (((256 + t) / (2 * n) : Nat) : Int) < 256 := by omega
        generalize q t = qa at *
        generalize q (t + n) = qb at *
        generalize p t = xa at *
        generalize p (t + n) = xb at *
        generalize r ((256 + t) / (2 * n)) = xr at *
        generalize (256 + t) / (2 * n) = kx at *
        generalize 256 + t = s1 at *
        generalize 2 * n = s2 at *
        obtain ⟨tn, htn⟩ : ∃ tn, t + n = tn := ⟨_, rfl⟩
        rw [htn] at e1 i2 cb fb HV hfit cb0
        have hne1 : ¬ tn = t := by omega
        have hne2 : ¬ t = tn := by omega
        have HTN := Lib.hid htn
        clear htn FT AP KL
        go_wp2_with fail
        have LQ := Lib.hid (pairI_len n p q t)
        generalize pairI n p q t = old at *
        refine wp_region_L (fun w_ => Blk w_ w.heap.size 23 (iv old) ∧ Blk w_ (w.heap.size + 1) 22 (iv (PL r))) [25, 27] [0, 1, 2, 3, 4, 5, 6, 8, 9, 10, 11, 13, 14, 15, 16, 17, 18, 20, 21, 22, 23, 24, 25, 26, 27] (by kernel_rfl) ⟨K1.out.drew, K2.out.drew⟩ ?_
        refine wpAnyL_pure (fun _ _ hS_ hb_ => ⟨hS_.1.gr hb_, hS_.2.gr hb_⟩) (i := 0) rfl (by kernel_rfl) (fun _ _ _ h => h) (pureG (by rfl) (by intro w_; go_simp; first | done | with_reducible rfl)) ?_
        try simp only [Act.put, List.getElem_toArray, List.getElem_cons_succ, List.getElem_cons_zero, List.setIfInBounds_toArray, List.set_cons_zero, List.set_cons_succ]
        refine wpAnyL_pure (fun _ _ hS_ hb_ => ⟨hS_.1.gr hb_, hS_.2.gr hb_⟩) (i := 1) rfl (by kernel_rfl) (fun _ _ _ h => h) (pureG (by rfl) (by intro w_; go_simp; first | done | with_reducible rfl)) ?_
        try simp only [Act.put, List.getElem_toArray, List.getElem_cons_succ, List.getElem_cons_zero, List.setIfInBounds_toArray, List.set_cons_zero, List.set_cons_succ]
        refine wpAnyL_pure (fun _ _ hS_ hb_ => ⟨hS_.1.gr hb_, hS_.2.gr hb_⟩) (i := 2) rfl (by kernel_rfl) (fun _ _ _ h => h) (pureG (by rfl) (by intro w_; go_simp; first | done | with_reducible rfl)) ?_
        try simp only [Act.put, List.getElem_toArray, List.getElem_cons_succ, List.getElem_cons_zero, List.setIfInBounds_toArray, List.set_cons_zero, List.set_cons_succ]
        refine wpAnyL_pure (fun _ _ hS_ hb_ => ⟨hS_.1.gr hb_, hS_.2.gr hb_⟩) (i := 3) rfl (by kernel_rfl) (fun _ _ _ h => h) (pureG (by rfl) (by intro w_; go_simp; first | done | with_reducible rfl)) ?_
        try simp only [Act.put, List.getElem_toArray, List.getElem_cons_succ, List.getElem_cons_zero, List.setIfInBounds_toArray, List.set_cons_zero, List.set_cons_succ]
        refine wpAnyL_pure (fun _ _ hS_ hb_ => ⟨hS_.1.gr hb_, hS_.2.gr hb_⟩) (i := 4) rfl (by kernel_rfl) (fun _ _ _ h => h) (pureG (by rfl) (by intro w_; go_simp; first | done | with_reducible rfl)) ?_
        try simp only [Act.put, List.getElem_toArray, List.getElem_cons_succ, List.getElem_cons_zero, List.setIfInBounds_toArray, List.set_cons_zero, List.set_cons_succ]
        refine wpAnyL_pure (fun _ _ hS_ hb_ => ⟨hS_.1.gr hb_, hS_.2.gr hb_⟩) (i := 5) rfl (by kernel_rfl) (fun _ _ _ h => h) (pureG (by rfl) (by intro w_; go_simp; first | done | with_reducible rfl)) ?_
        try simp only [Act.put, List.getElem_toArray, List.getElem_cons_succ, List.getElem_cons_zero, List.setIfInBounds_toArray, List.set_cons_zero, List.set_cons_succ]
        refine wpAnyL_pure (fun _ _ hS_ hb_ => ⟨hS_.1.gr hb_, hS_.2.gr hb_⟩) (i := 6) rfl (by kernel_rfl) (fun _ _ _ h => h) (pureG (by rfl) (by intro w_; go_simp; first | done | with_reducible rfl)) ?_
        try simp only [Act.put, List.getElem_toArray, List.getElem_cons_succ, List.getElem_cons_zero, List.setIfInBounds_toArray, List.set_cons_zero, List.set_cons_succ]
        refine wpAnyL_take (fun _ _ hS_ hb_ => ⟨hS_.1.gr hb_, hS_.2.gr hb_⟩) (i := 7) rfl (by kernel_rfl) (fun _ _ _ h => h) (worldG (by rfl) (by intro w_ hS_; have q1 := hS_.1.iv t (by rw [LQ.out]; exact h5); rw [ca0.out] at q1; go_simp; first | done | with_reducible rfl)) ?_
        try simp only [Act.put, List.getElem_toArray, List.getElem_cons_succ, List.getElem_cons_zero, List.setIfInBounds_toArray, List.set_cons_zero, List.set_cons_succ]
        refine wpAnyL_pure (fun _ _ hS_ hb_ => ⟨hS_.1.gr hb_, hS_.2.gr hb_⟩) (i := 8) rfl (by kernel_rfl) (fun _ _ _ h => h) (pureG (by rfl) (by intro w_; go_simp; first | done | with_reducible rfl)) ?_
        try simp only [Act.put, List.getElem_toArray, List.getElem_cons_succ, List.getElem_cons_zero, List.setIfInBounds_toArray, List.set_cons_zero, List.set_cons_succ]
        refine wpAnyL_pure (fun _ _ hS_ hb_ => ⟨hS_.1.gr hb_, hS_.2.gr hb_⟩) (i := 9) rfl (by kernel_rfl) (fun _ _ _ h => h) (pureG (by rfl) (by intro w_; go_simp; first | done | with_reducible rfl)) ?_
        try simp only [Act.put, List.getElem_toArray, List.getElem_cons_succ, List.getElem_cons_zero, List.setIfInBounds_toArray, List.set_cons_zero, List.set_cons_succ]
        refine wpAnyL_pure (fun _ _ hS_ hb_ => ⟨hS_.1.gr hb_, hS_.2.gr hb_⟩) (i := 10) rfl (by kernel_rfl) (fun _ _ _ h => h) (pureG (by rfl) (by intro w_; go_simp; first | done | with_reducible rfl)) ?_
        try simp only [Act.put, List.getElem_toArray, List.getElem_cons_succ, List.getElem_cons_zero, List.setIfInBounds_toArray, List.set_cons_zero, List.set_cons_succ]
        refine wpAnyL_pure (fun _ _ hS_ hb_ => ⟨hS_.1.gr hb_, hS_.2.gr hb_⟩) (i := 11) rfl (by kernel_rfl) (fun _ _ _ h => h) (pureG (by rfl) (by intro w_; go_simp; first | done | with_reducible rfl)) ?_
        try simp only [Act.put, List.getElem_toArray, List.getElem_cons_succ, List.getElem_cons_zero, List.setIfInBounds_toArray, List.set_cons_zero, List.set_cons_succ]
        refine wpAnyL_take (fun _ _ hS_ hb_ => ⟨hS_.1.gr hb_, hS_.2.gr hb_⟩) (i := 12) rfl (by kernel_rfl) (fun _ _ _ h => h) (worldG (by rfl) (by intro w_ hS_; have q1 := hS_.1.iv tn (by rw [LQ.out]; exact hfit); rw [cb0.out] at q1; go_simp; first | done | with_reducible rfl)) ?_
        try simp only [Act.put, List.getElem_toArray, List.getElem_cons_succ, List.getElem_cons_zero, List.setIfInBounds_toArray, List.set_cons_zero, List.set_cons_succ]
        refine wpAnyL_pure (fun _ _ hS_ hb_ => ⟨hS_.1.gr hb_, hS_.2.gr hb_⟩) (i := 13) rfl (by kernel_rfl) (fun _ _ _ h => h) (pureG (by rfl) (by intro w_; go_simp; first | done | with_reducible rfl)) ?_
        try simp only [Act.put, List.getElem_toArray, List.getElem_cons_succ, List.getElem_cons_zero, List.setIfInBounds_toArray, List.set_cons_zero, List.set_cons_succ]
        refine wpAnyL_pure (fun _ _ hS_ hb_ => ⟨hS_.1.gr hb_, hS_.2.gr hb_⟩) (i := 14) rfl (by kernel_rfl) (fun _ _ _ h => h) (pureG (by rfl) (by intro w_; go_simp; first | done | with_reducible rfl)) ?_
        try simp only [Act.put, List.getElem_toArray, List.getElem_cons_succ, List.getElem_cons_zero, List.setIfInBounds_toArray, List.set_cons_zero, List.set_cons_succ]
        refine wpAnyL_pure (fun _ _ hS_ hb_ => ⟨hS_.1.gr hb_, hS_.2.gr hb_⟩) (i := 15) rfl (by kernel_rfl) (fun _ _ _ h => h) (pureG (by rfl) (by intro w_; go_simp; first | done | with_reducible rfl)) ?_
        try simp only [Act.put, List.getElem_toArray, List.getElem_cons_succ, List.getElem_cons_zero, List.setIfInBounds_toArray, List.set_cons_zero, List.set_cons_succ]
        refine wpAnyL_pure (fun _ _ hS_ hb_ => ⟨hS_.1.gr hb_, hS_.2.gr hb_⟩) (i := 16) rfl (by kernel_rfl) (fun _ _ _ h => h) (pureG (by rfl) (by intro w_; go_simp; first | done | with_reducible rfl)) ?_
        try simp only [Act.put, List.getElem_toArray, List.getElem_cons_succ, List.getElem_cons_zero, List.setIfInBounds_toArray, List.set_cons_zero, List.set_cons_succ]
        refine wpAnyL_pure (fun _ _ hS_ hb_ => ⟨hS_.1.gr hb_, hS_.2.gr hb_⟩) (i := 17) rfl (by kernel_rfl) (fun _ _ _ h => h) (pureG (by rfl) (by intro w_; go_simp; first | done | with_reducible rfl)) ?_
        try simp only [Act.put, List.getElem_toArray, List.getElem_cons_succ, List.getElem_cons_zero, List.setIfInBounds_toArray, List.set_cons_zero, List.set_cons_succ]
        refine wpAnyL_pure (fun _ _ hS_ hb_ => ⟨hS_.1.gr hb_, hS_.2.gr hb_⟩) (i := 18) rfl (by kernel_rfl) (fun _ _ _ h => h) (pureG (by rfl) (by intro w_; go_simp; first | done | with_reducible rfl)) ?_
        try simp only [Act.put, List.getElem_toArray, List.getElem_cons_succ, List.getElem_cons_zero, List.setIfInBounds_toArray, List.set_cons_zero, List.set_cons_succ]
        refine wpAnyL_take (fun _ _ hS_ hb_ => ⟨hS_.1.gr hb_, hS_.2.gr hb_⟩) (i := 19) rfl (by kernel_rfl) (fun _ _ _ h => h) (worldG (by rfl) (by intro w_ hS_; have q1 := hS_.2.iv kx (by rw [LR.out]; exact hkl); rw [cr0.out] at q1; go_simp; first | done | with_reducible rfl)) ?_
        try simp only [Act.put, List.getElem_toArray, List.getElem_cons_succ, List.getElem_cons_zero, List.setIfInBounds_toArray, List.set_cons_zero, List.set_cons_succ]
        refine wpAnyL_pure (fun _ _ hS_ hb_ => ⟨hS_.1.gr hb_, hS_.2.gr hb_⟩) (i := 20) rfl (by kernel_rfl) (fun _ _ _ h => h) (callGv (by rfl) rfl (by rfl) Try.func48 (by kernel_rfl) (by kernel_rfl) (#[qv xa, qv xb, qv xr]) (by simp [Act.eval]) (fun W_ _ => quietC (HC.out W_))) ?_
        try simp only [Act.put, List.getElem_toArray, List.getElem_cons_succ, List.getElem_cons_zero, List.setIfInBounds_toArray, List.set_cons_zero, List.set_cons_succ]
        refine wpAnyL_pure (fun _ _ hS_ hb_ => ⟨hS_.1.gr hb_, hS_.2.gr hb_⟩) (i := 21) rfl (by kernel_rfl) (fun _ _ _ h => h) (pureG (by rfl) (by intro w_; go_simp; first | done | with_reducible rfl)) ?_
        try simp only [Act.put, List.getElem_toArray, List.getElem_cons_succ, List.getElem_cons_zero, List.setIfInBounds_toArray, List.set_cons_zero, List.set_cons_succ]
        refine wpAnyL_pure (fun _ _ hS_ hb_ => ⟨hS_.1.gr hb_, hS_.2.gr hb_⟩) (i := 22) rfl (by kernel_rfl) (fun _ _ _ h => h) (pureG (by rfl) (by intro w_; go_simp; first | done | with_reducible rfl)) ?_
        try simp only [Act.put, List.getElem_toArray, List.getElem_cons_succ, List.getElem_cons_zero, List.setIfInBounds_toArray, List.set_cons_zero, List.set_cons_succ]
        refine wpAnyL_pure (fun _ _ hS_ hb_ => ⟨hS_.1.gr hb_, hS_.2.gr hb_⟩) (i := 23) rfl (by kernel_rfl) (fun _ _ _ h => h) (pureG (by rfl) (by intro w_; go_simp; first | done | with_reducible rfl)) ?_
        try simp only [Act.put, List.getElem_toArray, List.getElem_cons_succ, List.getElem_cons_zero, List.setIfInBounds_toArray, List.set_cons_zero, List.set_cons_succ]
        refine wpAnyL_pure (fun _ _ hS_ hb_ => ⟨hS_.1.gr hb_, hS_.2.gr hb_⟩) (i := 24) rfl (by kernel_rfl) (fun _ _ _ h => h) (pureG (by rfl) (by intro w_; go_simp; first | done | with_reducible rfl)) ?_
        try simp only [Act.put, List.getElem_toArray, List.getElem_cons_succ, List.getElem_cons_zero, List.setIfInBounds_toArray, List.set_cons_zero, List.set_cons_succ]
        refine wpAnyL_cellK (i := 25) (g := w.heap.size) (x := t) (t := 23) (u := qv qa) (by kernel_rfl) rfl rfl (by kernel_rfl) (by decide) (by first | exact K1.out.drew | exact K1.out) (by rw [iv_length, LQ.out]; exact h5) (stC (by rfl) rfl rfl rfl rfl) ?_
        intro W1 hg1 hb1
        try simp only [Act.put, List.getElem_toArray, List.getElem_cons_succ, List.getElem_cons_zero, List.setIfInBounds_toArray, List.set_cons_zero, List.set_cons_succ]
        refine wpAnyL_pure (fun _ _ hS_ hb_ => ⟨hS_.1.gr hb_, hS_.2.gr hb_⟩) (i := 26) rfl (by kernel_rfl) (fun _ _ _ h => h) (pureG (by rfl) (by intro w_; go_simp; first | done | with_reducible rfl)) ?_
        try simp only [Act.put, List.getElem_toArray, List.getElem_cons_succ, List.getElem_cons_zero, List.setIfInBounds_toArray, List.set_cons_zero, List.set_cons_succ]
        refine wpAnyL_cell (i := 27) (g := w.heap.size) (x := tn) (t := 23) (u := qv qb) (by kernel_rfl) (by kernel_rfl) rfl rfl (by kernel_rfl) (by decide) hb1 (by rw [List.length_set, iv_length, LQ.out]; exact hfit) (stC (by rfl) rfl rfl rfl rfl) ?_
        intro W hg2 hb
        have hg := grown_trans hg1 hg2
        clear hg1 hg2 hb1
        try simp only [Act.put, List.getElem_toArray, List.getElem_cons_succ, List.getElem_cons_zero, List.setIfInBounds_toArray, List.set_cons_zero, List.set_cons_succ]
        rw [show ((iv old).set t (qv qa)).set tn (qv qb) = iv (pairI n p q (t + 1)) by rw [iv_set, iv_set, HV.out]] at hb
        have k2 := K2.out.drew.grown hg (by simp)
        have k3 := K3.out.drew.grown hg (by simp; omega)
        have hbel2 := belStore hbel.drew hg (Nat.le_refl _)
        clear K1 K2 K3 hg ca cb cr fa fb e1 e2 e3 e4 e4b e4c e5 e6 e7 e8 e9 hbel ha
        go_wp2_with fail
        go_roundw
        case rel => exact ⟨t + 1, by omega, by go_num, hb, k2, k3, hbel2⟩
        case measure => simp [intOf]; omega
      · have ha2 := ha
        rw [if_neg hpar] at ha2
        have hz : ((n : Int) == 0) = false := beq_eq_false_iff_ne.2 (by omega)
        have HN := Lib.hid (pairI_none hn0 p q t hpar)
        clear ha AP FT KL
        have i1 : (t : Int) < 256 := by omega
        go_wp2_with fail
        go_roundw
        case rel => exact ⟨t + 1, by omega, by go_num, by rw [HN.out]; exact K1.out, K2.out, K3.out, hbel⟩
        case measure => simp [intOf]; omega
    · obtain rfl : t = 256 := by omega
      rw [pairI_all] at K1
      have HL := Lib.hid (PL_length q)
      obtain ⟨m, hm⟩ : ∃ m, PL q = m := ⟨_, rfl⟩
      rw [hm] at K1 HL
      have HMQ := Lib.hid hm
      clear hm AP FT KL
      go_wp2_with (first | (refine wpList_load_row rfl 23 (.tmp 4) rfl w.heap.size rfl 23 (iv m).toArray (0, 0) _ K1.out Try.underlying23 rfl (j23 HL.out) ?_) | (refine wpList_store_row rfl 23 (.tmp 8) (.tmp 44) rfl (w.heap.size + 1 + 1) (iv m).toArray rfl rfl 23 (iv zerI).toArray K3.out (j23 HL.out) (by rw [iv_size, iv_size, HL.out, zerI_length]) (iv_all _) ?_))
      have j2 := K3.out.setRow (iv m)
      have hb2 := below_setRow' hbel (show w.heap.size ≤ w.heap.size + 1 + 1 by omega) (iv m).toArray
      refine bodyPost_ret (v := .agg (iv m).toArray) ?_ rfl ⟨by rw [HMQ.out], hb2⟩
      exact results_cell_row Try.results46 _ _ (w.heap.size + 1 + 1) 23 _ (0, 0) _ rfl j2 Try.underlying23 rfl (j23 HL.out)
end Go.Proofs.Ytbhhpopckchibaa
