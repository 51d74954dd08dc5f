/- What the project asks of a polynomial: plain, within so many bits; what is centred; which bits and tops may be. Condition: the coefficients are 32-bit numbers. -/
import Derived.Test.YtlbfnmmankoddaaDoorRd
namespace Go.Proofs.YtlbfnmmankoddaaDoor
open Go.RowKit
set_option linter.unusedVariables false
set_option linter.unusedSimpArgs false
theorem pln_eq {a b : List Int} (h : rdL a = b) : pln a = decide (b = a) := by rw [← h]; rfl
set_option maxRecDepth 100000 in
set_option maxHeartbeats 1600000 in
theorem isPlain_any (l : List Int) (hl : IsP l) (w : World) : Calls Tryd.prog 20 #[.agg (iv l).toArray] w fun e w' => e = .returned (.bool (pln l)) ∧ Below w.heap.size w w' := by
  have HR := Lib.hid (fun w => Reduce_any l hl w)
  have LL := Lib.hid hl.1
  have B1 := Lib.hid (Blk.new w 25 (iv l))
  have BEL := Lib.hid ((Below.refl w.heap.size w).alloc (Nat.le_refl _) (.cells (iv l).toArray 25))
  obtain ⟨m, hm⟩ : ∃ m, rdL l = m := ⟨_, rfl⟩
  have HP := Lib.hid (pln_eq hm)
  have LM := Lib.hid (show m.length = 256 by rw [← hm]; exact rdL_len l)
  rw [hm] at HR
  rw [HP.out]
  clear hl hm HP
  have heq := fun w => eql23 m l LM.out LL.out w
  generalize decide (m = l) = b at *
  go_enter Tryd.func20, Tryd.ntmps20
  go_wp2_with fail
  refine wp_region_G (fun w_ => Blk w_ w.heap.size 25 (iv l)) 5 (by kernel_rfl) B1.out.drew ?_
  refine wpAnyG_take (oi := _) (v := _) (fun _ _ hS_ hb_ => hS_.gr hb_) (i := 0) rfl (by kernel_rfl) (fun _ _ _ h => h) (loadG (by rfl) _ _ rfl _ _ rfl (iv l) _ (fun _ hS_ => blk_all (hS_)) Tryd.underlying25 rfl (i23 LL.out)) ?_
  try simp only [Act.put, List.getElem_toArray, List.getElem_cons_succ, List.getElem_cons_zero, List.setIfInBounds_toArray, List.set_cons_zero, List.set_cons_succ]
  refine wpAnyG_take (oi := _) (v := _) (fun _ _ hS_ hb_ => hS_.gr hb_) (i := 1) rfl (by kernel_rfl) (fun _ _ _ h => h) (callG (by rfl) rfl Tryd.func25 (by kernel_rfl) (by kernel_rfl) (#[.agg (iv l).toArray]) (by simp [Act.eval]) (fun W_ _ => HR.out W_)) ?_
  try simp only [Act.put, List.getElem_toArray, List.getElem_cons_succ, List.getElem_cons_zero, List.setIfInBounds_toArray, List.set_cons_zero, List.set_cons_succ]
  refine wpAnyG_take (oi := _) (v := _) (fun _ _ hS_ hb_ => hS_.gr hb_) (i := 2) rfl (by kernel_rfl) (fun _ _ _ h => h) (loadG (by rfl) _ _ rfl _ _ rfl (iv l) _ (fun _ hS_ => blk_all (hS_)) Tryd.underlying25 rfl (i23 LL.out)) ?_
  try simp only [Act.put, List.getElem_toArray, List.getElem_cons_succ, List.getElem_cons_zero, List.setIfInBounds_toArray, List.set_cons_zero, List.set_cons_succ]
  refine wpAnyG_take (oi := _) (v := _) (fun _ _ hS_ hb_ => hS_.gr hb_) (i := 3) rfl (by kernel_rfl) (fun _ _ _ h => h) (pureG (by rfl) (by intro w_; go_simp; first | done | with_reducible rfl)) ?_
  try simp only [Act.put, List.getElem_toArray, List.getElem_cons_succ, List.getElem_cons_zero, List.setIfInBounds_toArray, List.set_cons_zero, List.set_cons_succ]
  refine wpAnyG_take (oi := _) (v := _) (fun _ _ hS_ hb_ => hS_.gr hb_) (i := 4) rfl (by kernel_rfl) (fun _ _ _ h => h) (pureG (by rfl) (by intro w_; go_simp; first | done | with_reducible rfl)) ?_
  try simp only [Act.put, List.getElem_toArray, List.getElem_cons_succ, List.getElem_cons_zero, List.setIfInBounds_toArray, List.set_cons_zero, List.set_cons_succ]
  refine wpAnyG_done (by kernel_rfl) ?_ _
  intro w5 hg5
  have hb5 := BEL.out.drew.trans (Below.mono hg5 BEL.out.drew.size)
  clear heq hg5
  go_wp2_with fail
  go_ret
  exact ⟨rfl, hb5⟩
/-- all coefficients are numbers of so many bits -/
def inB (s : Nat) (l : List Int) : Bool := (List.range 256).all fun i => decide (0 ≤ l.getD i 0 ∧ l.getD i 0 < 2 ^ s)
theorem inB_iff {s : Nat} {l : List Int} : inB s l = true ↔ ∀ i, i < 256 → 0 ≤ l.getD i 0 ∧ l.getD i 0 < 2 ^ s := by
  unfold inB
  rw [List.all_eq_true]
  exact ⟨fun h i hi => of_decide_eq_true (h i (List.mem_range.2 hi)), fun h i hi => decide_eq_true (h i (List.mem_range.1 hi))⟩
theorem inB_no {s : Nat} {l : List Int} (i : Nat) (hi : i < 256) (h : ¬ (0 ≤ l.getD i 0 ∧ l.getD i 0 < 2 ^ s)) : inB s l = false := by
  cases hp : inB s l with
  | false => rfl
  | true => exact absurd (inB_iff.1 hp i hi) h
theorem pw_int (s : Nat) : (2 : Int) ^ s = ((2 ^ s : Nat) : Int) := by simp
theorem pw_bd {s : Nat} (h : s ≤ 23) : 0 < (2 : Int) ^ s ∧ (2 : Int) ^ s ≤ 8388608 := by
  rw [pw_int]
  have h1 := Nat.two_pow_pos s
  have h2 : 2 ^ s ≤ 2 ^ 23 := Nat.pow_le_pow_right (by decide) h
  omega
theorem shr_test {x : Int} {s : Nat} (hs : s ≤ 23) (h1 : -2147483648 ≤ x) (h2 : x ≤ 2147483647) : (x % 4294967296 / 2 ^ s != 0) = !decide (0 ≤ x ∧ x < 2 ^ s) := by
  obtain ⟨p1, p2⟩ := pw_bd hs
  generalize (2 : Int) ^ s = p at *
  by_cases h : 0 ≤ x ∧ x < p
  · rw [show x % 4294967296 = x by omega, Int.ediv_eq_zero_of_lt h.1 h.2, decide_eq_true h]; rfl
  · rw [decide_eq_false h]
    have h3 : p ≤ x % 4294967296 := by omega
    generalize x % 4294967296 = y at *
    have h4 : 1 ≤ y / p := Int.le_ediv_of_mul_le p1 (by omega)
    have : (y / p == 0) = false := beq_eq_false_iff_ne.2 (by omega)
    simp [bne, this]
set_option maxRecDepth 100000 in
set_option maxHeartbeats 1600000 in
theorem inBits_any (l : List Int) (hl : IsP l) (s : Nat) (hs1 : 1 ≤ s) (hs2 : s ≤ 23) (w : World) : Calls Tryd.prog 21 #[.agg (iv l).toArray, .int .i64 (s : Nat)] w fun e w' => e = .returned (.bool (inB s l)) ∧ Below w.heap.size w w' := by
  have LL := Lib.hid hl.1
  have HBD := Lib.hid hl.2
  have HI := Lib.hid (@inB_iff s l)
  have HN := Lib.hid (@inB_no s l)
  have B1 := Lib.hid (Blk.new w 25 (iv l))
  have BEL := Lib.hid ((Below.refl w.heap.size w).alloc (Nat.le_refl _) (.cells (iv l).toArray 25))
  clear hl
  generalize inB s l = b at *
  go_enter Tryd.func21, Tryd.ntmps21
  go_wp2_with (first | (refine wpList_load_row rfl 25 (.tmp 2) rfl w.heap.size rfl 25 (iv l).toArray (0, 0) _ B1.out Tryd.underlying25 rfl (j23 LL.out) ?_))
  go_loop [8] (fun c => ∃ t : Nat, t ≤ 256 ∧ c = .int .i64 t ∧ ∀ i, i < t → 0 ≤ l.getD i 0 ∧ l.getD i 0 < 2 ^ s) (fun c => 256 - (intOf c).toNat)
  case atStart => exact ⟨0, by omega, rfl, fun i hi => absurd hi (Nat.not_lt_zero i)⟩
  case round =>
    obtain ⟨t, ht, rfl, hall⟩ := hrel
    have HA := Lib.hid hall
    clear hall
    by_cases h5 : t < 256
    · have hx := fun w => index23 w l t h5 LL.out
      obtain ⟨hb1, hb2⟩ := HBD.out t h5
      have i1 : (t : Int) < 256 := by omega
      have HNT := Lib.hid (HN.out t h5)
      have HT := Lib.hid (shr_test hs2 hb1 hb2)
      have HSU := Lib.hid (fun (hx : 0 ≤ l.getD t 0 ∧ l.getD t 0 < 2 ^ s) => show ∀ i, i < t + 1 → 0 ≤ l.getD i 0 ∧ l.getD i 0 < 2 ^ s from fun i hi => by
        by_cases e : i = t
        · subst e; exact hx
        · exact HA.out i (by omega))
      generalize l.getD t 0 = x at *
      by_cases hc : 0 ≤ x ∧ x < 2 ^ s
      · have ht1 : (x % 4294967296 / 2 ^ s != 0) = false := by rw [HT.out, decide_eq_true hc]; rfl
        have HC := Lib.hid hc
        clear hc HT
        go_wp2_with fail
        go_round
        case rel => exact ⟨t + 1, by omega, by go_num, HSU.out HC.out⟩
        case measure => simp [intOf]; omega
      · have ht1 : (x % 4294967296 / 2 ^ s != 0) = true := by rw [HT.out, decide_eq_false hc]; rfl
        have HC := Lib.hid hc
        clear hc HT
        go_wp2_with fail
        go_ret
        exact ⟨by rw [HNT.out HC.out]; rfl, BEL.out⟩
    · obtain rfl : t = 256 := by omega
      go_wp2_with fail
      go_ret
      exact ⟨by rw [HI.out.2 HA.out]; rfl, BEL.out⟩
theorem sizeIn_any (s : Nat) (hs : s ≤ 23) (w : World) : Calls Tryd.prog 39 #[.int .i64 (s : Nat)] w fun e w' => e = .returned (.int .i64 (32 * s : Nat)) ∧ w = w' := by
  go_enter Tryd.func39, Tryd.ntmps39
  go_wp2_with fail
  go_ret
  exact ⟨ret1 (by omega), rfl⟩
/-- a plain number's centred one -/
def cen (c : Int) : Int := if 4190208 < c then c - 8380417 else c
theorem cen_bd {c : Int} (h : 0 ≤ c ∧ c < 8380417) : -4190208 ≤ cen c ∧ cen c ≤ 4190208 := by unfold cen; split <;> omega
theorem centred_any (c : Int) (h1 : 0 ≤ c) (h2 : c < 8380417) (w : World) : Calls Tryd.prog 24 #[.int .i32 c] w fun e w' => e = .returned (.int .i32 (cen c)) ∧ w = w' := by
  by_cases h : 4190208 < c
  · have e : cen c = c - 8380417 := if_pos h
    rw [e]; clear e
    go_enter Tryd.func24, Tryd.ntmps24
    go_wp2_with fail
    go_ret
    exact ⟨rfl, rfl⟩
  · have e : cen c = c := if_neg h
    rw [e]; clear e
    go_enter Tryd.func24, Tryd.ntmps24
    go_wp2_with fail
    go_ret
    exact ⟨rfl, rfl⟩
/-- which tops and bits may be -/
def cgd (top bits : Int) : Bool := decide (1 ≤ bits ∧ bits ≤ 22 ∧ 0 ≤ top ∧ top ≤ 4194304)
theorem canGoDown_any (top bits : Int) (w : World) : Calls Tryd.prog 23 #[.int .i32 top, .int .i64 bits] w fun e w' => e = .returned (.bool (cgd top bits)) ∧ w = w' := by
  by_cases h1 : 1 ≤ bits
  · by_cases h2 : bits ≤ 22
    · by_cases h3 : 0 ≤ top
      · by_cases h4 : top ≤ 4194304
        · have e : cgd top bits = true := decide_eq_true ⟨h1, h2, h3, h4⟩
          rw [e]; clear e
          go_enter Tryd.func23, Tryd.ntmps23
          go_wp2_with fail
          go_ret
          exact ⟨rfl, rfl⟩
        · have e : cgd top bits = false := decide_eq_false (fun h => h4 h.2.2.2)
          rw [e]; clear e
          go_enter Tryd.func23, Tryd.ntmps23
          go_wp2_with fail
          go_ret
          exact ⟨rfl, rfl⟩
      · have e : cgd top bits = false := decide_eq_false (fun h => h3 h.2.2.1)
        rw [e]; clear e
        go_enter Tryd.func23, Tryd.ntmps23
        go_wp2_with fail
        go_ret
        exact ⟨rfl, rfl⟩
    · have e : cgd top bits = false := decide_eq_false (fun h => h2 h.2.1)
      rw [e]; clear e
      go_enter Tryd.func23, Tryd.ntmps23
      go_wp2_with fail
      go_ret
      exact ⟨rfl, rfl⟩
  · have e : cgd top bits = false := decide_eq_false (fun h => h1 h.1)
    rw [e]; clear e
    go_enter Tryd.func23, Tryd.ntmps23
    go_wp2_with fail
    go_ret
    exact ⟨rfl, rfl⟩
end Go.Proofs.YtlbfnmmankoddaaDoor
