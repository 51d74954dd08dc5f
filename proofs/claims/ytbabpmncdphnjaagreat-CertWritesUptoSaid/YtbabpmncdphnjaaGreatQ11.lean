/- Parts of proofs of statements, each text behind those that it stands on. No condition of its own. -/
import Derived.Test.YtbabpmncdphnjaaGreatQ04
namespace Go.Proofs.YtbabpmncdphnjaaGreat
open Go.RowKit
set_option linter.unusedVariables false
set_option maxRecDepth 100000
theorem none_any (t : Nat) (ht : t < 256) (w : World) : Calls Tryz.prog 84 #[.int .u8 (t : Nat)] w fun e w' => e = .returned (.bool (decide (t % 32 = 31))) ∧ w = w' := by
  have h2 : (((t : Nat) : Int) % 32 == 31) = decide (t % 32 = 31) := by rw [Bool.eq_iff_iff]; simp; omega
  go_enter Tryz.func84, Tryz.ntmps84
  go_wp2
  go_ret
  exact ⟨rfl, rfl⟩
theorem Built_any (t : Nat) (ht : t < 256) (w : World) : Calls Tryz.prog 86 #[.int .u8 (t : Nat)] w fun e w' => e = .returned (.bool (decide (t / 32 % 2 = 1))) ∧ w = w' := by
  have h2 : (((t : Nat) : Int) / 32 % 2 == 1) = decide (t / 32 % 2 = 1) := by rw [Bool.eq_iff_iff]; simp; omega
  go_enter Tryz.func86, Tryz.ntmps86
  go_wp2
  go_ret
  exact ⟨rfl, rfl⟩
def RtIs (t : Nat) (b : List Nat) (k : Tr) (d : Nat) (w : World) (e : Ending) (w' : World) : Prop := e = .returned (.int .i64 (errI t b k d : Nat)) ∧ Below w.heap.size w w'
theorem RtIs.of {t : Nat} {b : List Nat} {k : Tr} {d : Nat} {w w' : World} {x : Int} (h : ((errI t b k d : Nat) : Int) = x) (hb : Below w.heap.size w w') : RtIs t b k d w (.returned (.int .i64 x)) w' := by subst h; exact ⟨rfl, hb⟩
set_option maxRecDepth 100000 in
set_option maxHeartbeats 8000000 in
theorem right_any : ∀ (N : Nat) (k : Tr), k.sz < N → ∀ (w : World) (t : Nat) (b : List Nat) (a : Option Addr) (c : Nat) (a' : Option Addr) (c' : Nat) (d : Nat), ItIn w t a c a' c' b k → d ≤ 65536 →
    Calls Tryz.prog 52 #[itV t a b.length c a' k.len c', .int .i64 (d : Nat)] w (RtIs t b k d w) := by
  intro N
  induction N with
  | zero => intro k h; omega
  | succ N ih =>
    intro k hsz w t b a c a' c' d hin hd
    obtain ⟨ht, hb, hk⟩ := hin
    have HK := Lib.hid hk
    have IH := Lib.hid ih
    have HS := Lib.hid hsz
    have h0 := fun o => (Below.refl _ w).alloc (Nat.le_refl _) o
    have hkm : k.len ≤ 140737488355328 := hk.1.2.1
    have hbm : b.length ≤ 140737488355328 := hb.2.2.2.1
    clear hb hk ih hsz
    by_cases hdp : 16 < d
    · have hdi : (16 : Int) < (d : Int) := by omega
      have HX := Lib.hid (show ((errI t b k d : Nat) : Int) = 125 by rw [errI_deep hdp]; rfl)
      generalize b.length = bn at *
      generalize k.len = kn at *
      go_enter Tryz.func52, Tryz.ntmps52
      go_wp2
      go_ret
      exact RtIs.of HX.out (h0 _)
    have hdi : ¬ (16 : Int) < (d : Int) := by omega
    by_cases htag : t % 32 = 31
    · have HX := Lib.hid (show ((errI t b k d : Nat) : Int) = 123 by rw [errI_tag hdp htag]; rfl)
      generalize b.length = bn at *
      generalize k.len = kn at *
      go_enter Tryz.func52, Tryz.ntmps52
      go_wp2_with (go_at_call 84; refine (none_any t ht _).mono ?_; rintro e w' ⟨rfl, rfl⟩)
      go_ret
      exact RtIs.of HX.out (h0 _)
    by_cases hval : t / 32 % 2 = 1 ∧ b ≠ [] ∨ t / 32 % 2 ≠ 1 ∧ k ≠ .nil
    · have HX := Lib.hid (show ((errI t b k d : Nat) : Int) = 127 by rw [errI_val hdp htag hval]; rfl)
      by_cases hkd : t / 32 % 2 = 1
      · have hbn : b.length ≠ 0 := by
          intro h; rcases hval with ⟨_, h2⟩ | ⟨h2, _⟩
          · exact h2 (List.eq_nil_of_length_eq_zero h)
          · exact h2 hkd
        have hq : (0 : Int) < (b.length : Int) := by omega
        clear hval
        generalize b.length = bn at *
        generalize k.len = kn at *
        go_enter Tryz.func52, Tryz.ntmps52
        go_wp2_with (first | (go_at_call 84; refine (none_any t ht _).mono ?_; rintro e w' ⟨rfl, rfl⟩) | (go_at_call 86; refine (Built_any t ht _).mono ?_; rintro e w' ⟨rfl, rfl⟩))
        go_ret
        exact RtIs.of HX.out (h0 _)
      · have hkn : k.len ≠ 0 := by
          intro h; rcases hval with ⟨h2, _⟩ | ⟨_, h2⟩
          · exact hkd h2
          · exact h2 (Tr.len_zero h)
        have hq : (0 : Int) < (k.len : Int) := by omega
        clear hval
        generalize b.length = bn at *
        generalize k.len = kn at *
        go_enter Tryz.func52, Tryz.ntmps52
        go_wp2_with (first | (go_at_call 84; refine (none_any t ht _).mono ?_; rintro e w' ⟨rfl, rfl⟩) | (go_at_call 86; refine (Built_any t ht _).mono ?_; rintro e w' ⟨rfl, rfl⟩))
        go_ret
        exact RtIs.of HX.out (h0 _)
    have HX := Lib.hid (errI_kids (t := t) (b := b) (k := k) hdp htag hval)
    have HVAL := Lib.hid hval
    have hkd0 : ∀ (h : t / 32 % 2 = 1), b.length = 0 := fun h => Classical.byContradiction fun hb => HVAL.out (.inl ⟨h, fun e => hb (by rw [e]; rfl)⟩)
    have hkd1 : ∀ (h : ¬ t / 32 % 2 = 1), k.len = 0 := fun h => Classical.byContradiction fun hb => HVAL.out (.inr ⟨h, fun e => hb (by rw [e]; rfl)⟩)
    clear hval
    have hW := rangeAt_new w (.int .u8 (t : Nat)) (.slice a b.length c) (.slice a' k.len c') 45
    by_cases hkd : t / 32 % 2 = 1
    · have hb0 := hkd0 hkd
      generalize hbn : b.length = bn at *
      generalize hkn : k.len = kn at *
      have HKN := Lib.hid hkn
      clear hbn hkn hkd0 hkd1
      subst hb0
      go_enter Tryz.func52, Tryz.ntmps52
      have H0 := Lib.hid (h0 (.cells #[.int .u8 (t : Nat), .slice a 0 c, .slice a' kn c'] 45))
      have hs1 : w.heap.size < (w.alloc (.cells #[.int .u8 (t : Nat), .slice a 0 c, .slice a' kn c'] 45)).heap.size := by simp
      go_wp2_with (first | (go_at_call 84; refine (none_any t ht _).mono ?_; rintro e w' ⟨rfl, rfl⟩) | (go_at_call 86; refine (Built_any t ht _).mono ?_; rintro e w' ⟨rfl, rfl⟩))
      have HW := Lib.hid hW
      have HS1 := Lib.hid hs1
      clear hW hs1
      generalize w.alloc (.cells #[.int .u8 (t : Nat), .slice a 0 c, .slice a' kn c'] 45) = W1 at *
      go_loopw [7, 8] (fun i x wr => ∃ (A r : Tr) (j : Nat), k = A.app r ∧ A.len = j ∧ i = .int .i64 (j : Nat) ∧ A.err (d + 1) = 0 ∧ Below W1.heap.size W1 wr) (fun i _ _ => kn - (intOf i).toNat)
      case atStart => exact ⟨.nil, k, 0, rfl, rfl, rfl, rfl, Below.refl _ _⟩
      case round =>
        obtain ⟨A, r, j, hA, hj, rfl, hAe, hbel⟩ := hrel
        have hlen : j + r.len = kn := by rw [← HKN.out, hA, Tr.len_app, hj]
        have HA := Lib.hid hA
        have HJ := Lib.hid hj
        have HAE := Lib.hid hAe
        have HBW := Lib.hid (H0.out.trans (hbel.mono (Nat.le_of_lt HS1.out)))
        have k2 : wr.cell? ⟨w.heap.size, 0 + 2, none⟩ = some (.slice a' kn c') := rangeAt_below HW.out hbel 2 _ rfl
        clear hA hj hAe
        by_cases hjk : j < kn
        · have hji : (j : Int) < ((kn : Nat) : Int) := by omega
          obtain ⟨t1, b1, k1, r1, rfl⟩ := Tr.len_pos (T := r) (by omega)
          obtain ⟨b', o', rfl, hrow⟩ := HK.out.2.resolve_left (by have := HKN.out; omega)
          have hszk : k1.sz < N := by
            have h1 := Tr.sz_app A (.node t1 b1 k1 r1)
            rw [← HA.out] at h1
            have h2 := HS.out
            simp only [Tr.sz] at h1; omega
          rw [HA.out] at hrow
          have hrow3 := Row.below HBW.out (Row.append hrow).2
          rw [show o' + 3 * A.len = o' + j * 3 by rw [HJ.out]; omega] at hrow3
          obtain ⟨a1, cc1, a2, cc2, hra, hit, _⟩ := hrow3.head
          have HR := Lib.hid hra
          have hC := IH.out k1 hszk wr t1 b1 a1 cc1 a2 cc2 (d + 1) hit (by omega)
          rw [show ((d + 1 : Nat) : Int) = (d : Int) + 1 by omega] at hC
          clear hrow hrow3 hra hit
          by_cases hke : errI t1 b1 k1 (d + 1) = 0
          · have HC := Lib.hid (hC.mono (fun e w' h => (⟨by rw [h.1, hke]; rfl, h.2⟩ : e = .returned (.int .i64 0) ∧ Below wr.heap.size wr w')))
            have HAE2 := Lib.hid (show (A.app (.node t1 b1 k1 .nil)).err (d + 1) = 0 by rw [Tr.err_app, HAE.out]; simpa [errI] using hke)
            clear hC hke
            go_wp2_with (first | (refine ldI rfl (.tmp 45) rfl b' (o' + j * 3) rfl _ _ _ HR.out ?_) | (go_at_call 52; (refine HC.out.mono ?_); rintro e w3 ⟨rfl, hb3⟩))
            have hb4 : Below W1.heap.size W1 w3 := hbel.trans (hb3.mono hbel.size)
            go_roundw
            case rel => exact ⟨A.app (.node t1 b1 k1 .nil), r1, j + 1, by rw [HA.out, Tr.app_assoc]; rfl, by rw [Tr.len_app, HJ.out]; rfl, by go_num, HAE2.out, hb4⟩
            case measure => simp [intOf]; omega
          · have HXE := Lib.hid (show ((errI t b k d : Nat) : Int) = ((errI t1 b1 k1 (d + 1) : Nat) : Int) by rw [HX.out, HA.out, Tr.err_app, HAE.out, err_node]; simp [hke])
            have hnz := nzS hke
            have HC := Lib.hid hC
            clear hC hke
            unfold RtIs at HC
            generalize errI t1 b1 k1 (d + 1) = E at *
            go_wp2_with (first | (refine ldI rfl (.tmp 45) rfl b' (o' + j * 3) rfl _ _ _ HR.out ?_) | (go_at_call 52; (refine HC.out.mono ?_); rintro e w3 ⟨rfl, hb3⟩))
            go_ret
            exact RtIs.of HXE.out (HBW.out.trans (hb3.mono HBW.out.size))
        · have hr0 := Tr.len_zero (T := r) (by omega)
          have hji : ¬ (j : Int) < ((kn : Nat) : Int) := by omega
          have HE := Lib.hid (show ((errI t b k d : Nat) : Int) = 0 by rw [HX.out, HA.out, hr0, Tr.app_nil, HAE.out]; rfl)
          clear hr0
          go_wp2
          go_ret
          exact RtIs.of HE.out HBW.out
    · have hk0 := hkd1 hkd
      generalize hbn : b.length = bn at *
      generalize hkn : k.len = kn at *
      have HKN := Lib.hid hkn
      clear hbn hkn hkd0 hkd1
      subst hk0
      go_enter Tryz.func52, Tryz.ntmps52
      have H0 := Lib.hid (h0 (.cells #[.int .u8 (t : Nat), .slice a bn c, .slice a' 0 c'] 45))
      have hs1 : w.heap.size < (w.alloc (.cells #[.int .u8 (t : Nat), .slice a bn c, .slice a' 0 c'] 45)).heap.size := by simp
      go_wp2_with (first | (go_at_call 84; refine (none_any t ht _).mono ?_; rintro e w' ⟨rfl, rfl⟩) | (go_at_call 86; refine (Built_any t ht _).mono ?_; rintro e w' ⟨rfl, rfl⟩))
      have HW := Lib.hid hW
      have HS1 := Lib.hid hs1
      clear hW hs1
      generalize w.alloc (.cells #[.int .u8 (t : Nat), .slice a bn c, .slice a' 0 c'] 45) = W1 at *
      go_loopw [7, 8] (fun i x wr => ∃ (A r : Tr) (j : Nat), k = A.app r ∧ A.len = j ∧ i = .int .i64 (j : Nat) ∧ A.err (d + 1) = 0 ∧ Below W1.heap.size W1 wr) (fun i _ _ => 0 - (intOf i).toNat)
      case atStart => exact ⟨.nil, k, 0, rfl, rfl, rfl, rfl, Below.refl _ _⟩
      case round =>
        obtain ⟨A, r, j, hA, hj, rfl, hAe, hbel⟩ := hrel
        have hlen : j + r.len = 0 := by rw [← HKN.out, hA, Tr.len_app, hj]
        have HA := Lib.hid hA
        have HJ := Lib.hid hj
        have HAE := Lib.hid hAe
        have HBW := Lib.hid (H0.out.trans (hbel.mono (Nat.le_of_lt HS1.out)))
        have k2 : wr.cell? ⟨w.heap.size, 0 + 2, none⟩ = some (.slice a' 0 c') := rangeAt_below HW.out hbel 2 _ rfl
        clear hA hj hAe
        by_cases hjk : j < 0
        · exact absurd hjk (by omega)
        · have hr0 := Tr.len_zero (T := r) (by omega)
          have hji : ¬ (j : Int) < ((0 : Nat) : Int) := by omega
          have HE := Lib.hid (show ((errI t b k d : Nat) : Int) = 0 by rw [HX.out, HA.out, hr0, Tr.app_nil, HAE.out]; rfl)
          clear hr0
          go_wp2
          go_ret
          exact RtIs.of HE.out HBW.out
end Go.Proofs.YtbabpmncdphnjaaGreat
