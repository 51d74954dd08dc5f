/- How many parts an item has (the law's count), and what is great. No condition. -/
import Derived.Test.YtbabpmncdphnjaaMt
namespace Go.Proofs.Ytbabpmncdphnjaa
open Go.RowKit
set_option linter.unusedVariables false
set_option maxRecDepth 100000

set_option maxHeartbeats 2000000 in
theorem count_any : ∀ (N : Nat) (k : Tr), k.sz < N → ∀ (w : World) (t : Nat) (b : List Nat) (a : Option Addr) (c : Nat) (a' : Option Addr) (c' : Nat) (m : Nat), ItIn w t a c a' c' b k → b.length ≤ 140737488355328 → k.low 140737488355328 → m ≤ 65536 →
    Calls Try.prog 51 #[itV t a b.length c a' k.len c', .int .i64 (m : Nat)] w fun e w' => e = .returned (.int .i64 (k.cnt (1 + b.length) m : Nat)) ∧ Below w.heap.size w w' := by
  intro N
  induction N with
  | zero => intro k h; omega
  | succ N ih =>
    intro k hsz w t b a c a' c' m hin hbl hlow hm
    obtain ⟨ht, hb, hk⟩ := hin
    have HK := Lib.hid hk
    have HL := Lib.hid hlow
    have hmm : m * m ≤ 4294967296 := Nat.mul_le_mul hm hm
    have hkl : k.len ≤ 140737488355328 := hk.1.2.1
    have HC := Lib.hid (fun n h1 h2 => Tr.cnt_le 140737488355328 k n m hlow h1 h2)
    have HS := Lib.hid hsz
    have IH := Lib.hid ih
    have hW := rangeAt_new w (.int .u8 (t : Nat)) (.slice a b.length c) (.slice a' k.len c') 25
    clear hk hlow hb hsz ih
    generalize hbn : b.length = bn at *
    generalize hkn : k.len = kn at *
    have HB := Lib.hid hbn
    have HN := Lib.hid hkn
    clear hbn hkn
    go_enter Try.func51, Try.ntmps51
    go_wp2
    generalize hw1 : w.alloc (.cells #[.int .u8 (t : Nat), .slice a bn c, .slice a' kn c'] 25) = w1 at *
    have hbel1 : Below w.heap.size w w1 := by rw [← hw1]; exact (Below.refl _ w).alloc (Nat.le_refl _) _
    have hs1 : w.heap.size < w1.heap.size := by rw [← hw1]; simp
    have HW := Lib.hid hW
    clear hW hw1
    go_loopw [5, 6] (fun n i wr => ∃ (A r : Tr) (q j : Nat), k = A.app r ∧ A.len = j ∧ i = .int .i64 (j : Nat) ∧ n = .int .i64 (q : Nat) ∧ 1 ≤ q ∧ q ≤ 1 + 140737488355328 + m * m ∧ r.cnt q m = k.cnt (1 + bn) m ∧ Below w1.heap.size w1 wr) (fun _ i _ => kn - (intOf i).toNat)
    case atStart => exact ⟨.nil, k, 1 + bn, 0, rfl, rfl, rfl, by go_num, by omega, by omega, rfl, Below.refl _ _⟩
    case round =>
      obtain ⟨A, r, q, j, hA, hj, rfl, rfl, hq1, hq2, hcnt, hbel⟩ := hrel
      have HA := Lib.hid hA
      have HQ := Lib.hid hcnt
      have hlen : j + r.len = kn := by rw [← HN.out, hA, Tr.len_app, hj]
      clear hA hcnt hj
      have hWr := rangeAt_below HW.out hbel
      have c1 : wr.cell? ⟨w.heap.size, 0 + 1, none⟩ = some (.slice a bn c) := hWr 1 _ rfl
      have c2 : wr.cell? ⟨w.heap.size, 0 + 2, none⟩ = some (.slice a' kn c') := hWr 2 _ rfl
      clear hWr
      by_cases hjk : j < kn
      · have hji : (j : Int) < (kn : Int) := by omega
        by_cases hqm : q ≤ m
        · have hqi : (q : Int) ≤ (m : Int) := by omega
          obtain ⟨t1, b1, k1, r1, rfl⟩ := Tr.len_pos (T := r) (by omega)
          obtain ⟨b', o', rfl, hrow⟩ := HK.out.2.resolve_left (by have := HN.out; omega)
          have hlow2 : (A.app (.node t1 b1 k1 r1)).low 140737488355328 := by rw [← HA.out]; exact HL.out
          obtain ⟨hlb1, hlk1⟩ := Tr.low_mid hlow2
          have hszk : k1.sz < N := by
            have h1 := Tr.sz_app A (.node t1 b1 k1 r1)
            rw [← HA.out] at h1
            have h2 := HS.out
            simp only [Tr.sz] at h1; omega
          rw [HA.out] at hrow
          obtain ⟨_, hrow2⟩ := Row.append hrow
          have hAl : A.len = j := by have := HN.out; rw [HA.out, Tr.len_app] at this; omega
          have hbw : Below w.heap.size w wr := hbel1.trans (hbel.mono (by omega))
          have hrow3 := Row.below hbw hrow2
          have ee : o' + 3 * A.len = o' + j * 3 := by rw [hAl]; omega
          rw [ee] at hrow3
          obtain ⟨a1, cc1, a2, cc2, hra, hit, hrr⟩ := hrow3.head
          have HC1 := IH.out k1 hszk wr t1 b1 a1 cc1 a2 cc2 (m - q) hit hlb1 hlk1 (by omega)
          have hcq : k1.cnt (1 + b1.length) (m - q) ≤ 1 + 140737488355328 + (m - q) * (m - q) := Tr.cnt_le 140737488355328 k1 _ _ hlk1 (by omega) (by omega)
          have hmq : (m - q) * (m - q) ≤ 4294967296 := Nat.mul_le_mul (show m - q ≤ 65536 by omega) (show m - q ≤ 65536 by omega)
          have hsub : (m : Int) - (q : Int) = ((m - q : Nat) : Int) := by omega
          have HR := Lib.hid hra
          have HX := Lib.hid HC1
          have HH := Lib.hid hcq
          have hcn : r1.cnt (q + k1.cnt (1 + b1.length) (m - q)) m = k.cnt (1 + bn) m := by rw [← HQ.out]; simp only [Tr.cnt, if_pos hqm]
          have hq3 : q + k1.cnt (1 + b1.length) (m - q) ≤ 1 + 140737488355328 + m * m := by
            obtain ⟨j', rfl⟩ := Nat.exists_eq_add_of_le hqm
            have e : q + j' - q = j' := by omega
            rw [e] at hcq ⊢
            have a1 : (q + j') * (q + j') = q * q + q * j' + (j' * q + j' * j') := by rw [Nat.add_mul, Nat.mul_add, Nat.mul_add]
            have a2 : q ≤ q * q := Nat.le_mul_of_pos_left q hq1
            omega
          have HN2 := Lib.hid hcn
          clear hrow hrow2 hrow3 hra hrr hit HC1 hcq hlow2 hlb1 hlk1 hcn
          generalize hg : k1.cnt (1 + b1.length) (m - q) = g at *
          go_wp2_with (first | (refine ldI rfl (.tmp 27) rfl b' (o' + j * 3) rfl _ _ _ HR.out ?_) | (go_at_call 51; refine HX.out.mono ?_; rintro e w' ⟨rfl, hb2⟩))
          have hb3 : Below w1.heap.size w1 w' := hbel.trans (hb2.mono hbel.size)
          go_roundw
          case rel =>
            refine ⟨A.app (.node t1 b1 k1 .nil), r1, q + g, j + 1, ?_, ?_, by go_num, by go_num, by omega, hq3, HN2.out, hb3⟩
            · rw [HA.out, Tr.app_assoc]; rfl
            · rw [Tr.len_app, hAl]; rfl
          case measure => simp [intOf]; omega
        · have hqi : ¬ (q : Int) ≤ (m : Int) := by omega
          go_wp2
          go_ret
          have e1 : q = k.cnt (1 + bn) m := by rw [← HQ.out]; exact (Tr.cnt_over r q m (by omega)).symm
          exact ⟨congrArg (fun x : Nat => Ending.returned (.int .i64 (x : Int))) e1, hbel1.trans (hbel.mono (by omega))⟩
      · have hji : ¬ (j : Int) < (kn : Int) := by omega
        go_wp2
        go_ret
        have e1 : q = k.cnt (1 + bn) m := by
          have := Tr.len_zero (T := r) (by omega)
          rw [← HQ.out, this]; rfl
        exact ⟨congrArg (fun x : Nat => Ending.returned (.int .i64 (x : Int))) e1, hbel1.trans (hbel.mono (by omega))⟩
theorem great_any (w : World) (t : Nat) (b : List Nat) (k : Tr) (a : Option Addr) (c : Nat) (a' : Option Addr) (c' : Nat) (hin : ItIn w t a c a' c' b k) (hb : b.length ≤ 140737488355328) (hl : k.low 140737488355328) :
    Calls Try.prog 15 #[itV t a b.length c a' k.len c'] w fun e w' => e = .returned (.bool (decide (65536 < k.cnt (1 + b.length) 65536))) ∧ Below w.heap.size w w' := by
  have HC := Lib.hid (fun w' h => count_any (k.sz + 1) k (Nat.lt_succ_self _) w' t b a c a' c' 65536 (hin.below h) hb hl (Nat.le_refl _))
  clear hin hl
  generalize hbn : b.length = bn at *
  generalize hkn : k.len = kn at *
  clear hbn hkn
  go_enter Try.func15, Try.ntmps15
  go_wp2_with (go_at_call 51; refine (HC.out _ ((Below.refl _ w).alloc (Nat.le_refl _) _)).mono ?_; rintro e w' ⟨rfl, hb2⟩)
  go_ret
  refine ⟨?_, ((Below.refl _ w).alloc (Nat.le_refl _) _).trans (hb2.mono (by simp))⟩
  refine congrArg (fun x : Bool => Ending.returned (.bool x)) (decide_eq_decide.2 ?_)
  omega
end Go.Proofs.Ytbabpmncdphnjaa
