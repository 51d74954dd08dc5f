/- The project's size. No condition. -/
import Derived.Test.YtbabpmncdphnjaaOl
import Derived.Test.YtbabpmncdphnjaaCt
namespace Go.Proofs.Ytbabpmncdphnjaa
open Go.RowKit
set_option linter.unusedVariables false
set_option maxRecDepth 100000

theorem eqzS {x : Nat} (h : x ≠ 0) : ((x : Int) == 0) = false := by simp; omega
/-- what size answers -/
def SzIs (t : Nat) (b : List Nat) (k : Tr) (d : Nat) (w : World) (e : Ending) (w' : World) : Prop :=
  Below w.heap.size w w' ∧ (errI t b k d ≠ 0 → e = boom (errI t b k d)) ∧ (errI t b k d = 0 → e = .returned (.int .i64 (capL (encI t b k).length : Nat)))
theorem SzIs.bad {t : Nat} {b : List Nat} {k : Tr} {d : Nat} {w w' : World} {c : Nat} (h : errI t b k d = c) (hc : c ≠ 0) (hb : Below w.heap.size w w') : SzIs t b k d w (boom c) w' := by
  subst h; exact ⟨hb, fun _ => rfl, fun h => absurd h hc⟩

theorem SzIs.good {t : Nat} {b : List Nat} {k : Tr} {d : Nat} {w w' : World} {x : Int} (h : errI t b k d = 0) (hx : x = ((capL (encI t b k).length : Nat) : Int)) (hb : Below w.heap.size w w') : SzIs t b k d w (.returned (.int .i64 x)) w' := by
  subst hx; exact ⟨hb, fun hh => absurd h hh, fun _ => rfl⟩
theorem cap_end {t : Nat} {b : List Nat} {k : Tr} {H : Nat} (h : H = capL (b.length + k.enc.length)) : capL (1 + (lenB H).length + H) = capL (encI t b k).length := by
  rw [encI_length, h, capL_len]
theorem cap_yes {x : Nat} (h : x ≤ 65537) : x = capL x := by unfold capL; omega
theorem cap_no {x : Nat} (h : ¬ x ≤ 65537) : 65537 = capL x := by unfold capL; omega

set_option maxRecDepth 100000 in
set_option maxHeartbeats 8000000 in
theorem size_any : ∀ (N : Nat) (k : Tr), k.sz < N → ∀ (w : World) (t : Nat) (b : List Nat) (a : Option Addr) (c : Nat) (a' : Option Addr) (c' : Nat) (d : Nat), ItIn w t a c a' c' b k → d ≤ 65536 →
    Calls Try.prog 53 #[itV t a b.length c a' k.len c', .int .i64 (d : Nat)] w (SzIs t b k d w) := by
  intro N
  induction N with
  | zero => intro k h; omega
  | succ N ih =>
    intro k hsz w t b a c a' c' d hin hd
    obtain ⟨ht, hb, hk⟩ := hin
    have HB := Lib.hid hb
    have HK := Lib.hid hk
    have IH := Lib.hid ih
    have HS := Lib.hid hsz
    have h0 := fun o => (Below.refl _ w).alloc (Nat.le_refl _) o
    have hkm : k.len ≤ 140737488355328 := hk.1.2.1
    have hbm : b.length ≤ 140737488355328 := hb.2.2.2.1
    clear hb hk ih hsz
    by_cases hdp : 16 < d
    · have hdi : ¬ (d : Int) ≤ 16 := by omega
      have HX := Lib.hid (errI_deep (t := t) (b := b) (k := k) hdp)
      generalize b.length = bn at *
      generalize k.len = kn at *
      go_enter Try.func53, Try.ntmps53
      go_wp2_with (go_at_call 49; refine (must_f (by first | (simp; omega) | (simp; done) | rfl) _ _).mono ?_; rintro e w' ⟨rfl, rfl⟩)
      exact ⟨rfl, SzIs.bad HX.out (by decide) (h0 _)⟩
    have hdi : (d : Int) ≤ 16 := by omega
    by_cases htag : t % 32 = 31
    · have HX := Lib.hid (errI_tag (t := t) (b := b) (k := k) hdp htag)
      generalize b.length = bn at *
      generalize k.len = kn at *
      go_enter Try.func53, Try.ntmps53
      go_wp2_with (first | (go_at_call 49; refine (must_t (by first | (simp; omega) | (simp; done) | rfl) _ _).mono ?_; rintro e w' ⟨rfl, rfl⟩) | (go_at_call 83; refine (isTag_any t ht _).mono ?_; rintro e w' ⟨rfl, rfl⟩) | (go_at_call 49; refine (must_f (by first | (simp; omega) | (simp; done) | rfl) _ _).mono ?_; rintro e w' ⟨rfl, rfl⟩))
      exact ⟨rfl, SzIs.bad HX.out (by decide) (h0 _)⟩
    by_cases hval : t / 32 % 2 = 1 ∧ b ≠ [] ∨ t / 32 % 2 ≠ 1 ∧ k ≠ .nil
    · have HX := Lib.hid (errI_val (t := t) (b := b) (k := k) hdp htag hval)
      by_cases hkd : t / 32 % 2 = 1
      · have hbn : b.length ≠ 0 := by
          intro h; rcases hval with ⟨_, h2⟩ | ⟨h2, _⟩
          · exact h2 (List.eq_nil_of_length_eq_zero h)
          · exact h2 hkd
        have hq := eqzS hbn
        clear hval
        generalize b.length = bn at *
        generalize k.len = kn at *
        go_enter Try.func53, Try.ntmps53
        go_wp2_with (first | (go_at_call 49; refine (must_t (by first | (simp; omega) | (simp; done) | rfl) _ _).mono ?_; rintro e w' ⟨rfl, rfl⟩) | (go_at_call 83; refine (isTag_any t ht _).mono ?_; rintro e w' ⟨rfl, rfl⟩) | (go_at_call 85; refine (hasKids_any t ht _).mono ?_; rintro e w' ⟨rfl, rfl⟩) | (go_at_call 49; refine (must_f (by first | (simp; omega) | (simp; done) | rfl) _ _).mono ?_; rintro e w' ⟨rfl, rfl⟩))
        exact ⟨rfl, SzIs.bad HX.out (by decide) (h0 _)⟩
      · have hkn : k.len ≠ 0 := by
          intro h; rcases hval with ⟨h2, _⟩ | ⟨_, h2⟩
          · exact hkd h2
          · exact h2 (Tr.len_zero h)
        have hq := eqzS hkn
        clear hval
        generalize b.length = bn at *
        generalize k.len = kn at *
        go_enter Try.func53, Try.ntmps53
        go_wp2_with (first | (go_at_call 49; refine (must_t (by first | (simp; omega) | (simp; done) | rfl) _ _).mono ?_; rintro e w' ⟨rfl, rfl⟩) | (go_at_call 83; refine (isTag_any t ht _).mono ?_; rintro e w' ⟨rfl, rfl⟩) | (go_at_call 85; refine (hasKids_any t ht _).mono ?_; rintro e w' ⟨rfl, rfl⟩) | (go_at_call 49; refine (must_f (by first | (simp; omega) | (simp; done) | rfl) _ _).mono ?_; rintro e w' ⟨rfl, rfl⟩))
        exact ⟨rfl, SzIs.bad HX.out (by decide) (h0 _)⟩
    have HX := Lib.hid (errI_kids (t := t) (b := b) (k := k) hdp htag hval)
    have hW := rangeAt_new w (.int .u8 (t : Nat)) (.slice a b.length c) (.slice a' k.len c') 25
    have HVAL := Lib.hid hval
    clear hval
    have hkd0 : ∀ (h : t / 32 % 2 = 1), b.length = 0 := fun h => Classical.byContradiction fun hb => HVAL.out (.inl ⟨h, fun e => hb (by rw [e]; rfl)⟩)
    have hkd1 : ∀ (h : ¬ t / 32 % 2 = 1), k.len = 0 := fun h => Classical.byContradiction fun hb => HVAL.out (.inr ⟨h, fun e => hb (by rw [e]; rfl)⟩)
    by_cases hkd : t / 32 % 2 = 1
    · have hb0 := hkd0 hkd
      generalize hbn : b.length = bn at *
      generalize hkn : k.len = kn at *
      have HBN := Lib.hid hbn
      have HKN := Lib.hid hkn
      clear hbn hkn hkd0 hkd1
      subst hb0
      go_enter Try.func53, Try.ntmps53
      go_wp2_with (first | (go_at_call 49; refine (must_t (by first | (simp; omega) | (simp; done) | rfl) _ _).mono ?_; rintro e w' ⟨rfl, rfl⟩) | (go_at_call 83; refine (isTag_any t ht _).mono ?_; rintro e w' ⟨rfl, rfl⟩) | (go_at_call 85; refine (hasKids_any t ht _).mono ?_; rintro e w' ⟨rfl, rfl⟩))
      have H0 := Lib.hid (h0 (.cells #[.int .u8 (t : Nat), .slice a 0 c, .slice a' kn c'] 25))
      clear hW
      generalize w.alloc (.cells #[.int .u8 (t : Nat), .slice a 0 c, .slice a' kn c'] 25) = W1 at *
      go_loopw [5, 35] (fun h i wr => ∃ (A r : Tr) (j H : Nat), k = A.app r ∧ A.len = j ∧ i = .int .i64 (j : Nat) ∧ h = .int .i64 (H : Nat) ∧ H = capL (b.length + A.enc.length) ∧ A.err (d + 1) = 0 ∧ Below W1.heap.size W1 wr) (fun _ i _ => kn - (intOf i).toNat)
      case atStart => exact ⟨.nil, k, 0, 0, rfl, rfl, rfl, rfl, by rw [HBN.out]; exact cap_yes (by decide), rfl, Below.refl _ _⟩
      case round =>
        obtain ⟨A, r, j, H, hA, hj, rfl, rfl, hH, hAe, hbel⟩ := hrel
        have hlen : j + r.len = kn := by rw [← HKN.out, hA, Tr.len_app, hj]
        have HA := Lib.hid hA
        have HJ := Lib.hid hj
        have HH := Lib.hid hH
        have HAE := Lib.hid hAe
        have HBW := Lib.hid (H0.out.trans (hbel.mono H0.out.size))
        have hHm : H ≤ 65537 := by rw [hH]; exact capL_le _
        clear hA hj hH hAe
        by_cases hjk : j < kn
        · have hji : (j : Int) < (kn : Int) := by omega
          obtain ⟨t1, b1, k1, r1, rfl⟩ := Tr.len_pos (T := r) (by omega)
          obtain ⟨b', o', rfl, hrow⟩ := HK.out.2.resolve_left (by have := HKN.out; omega)
          have hszk : k1.sz < N := by
            have h1 := Tr.sz_app A (.node t1 b1 k1 r1)
            rw [← HA.out] at h1
            have h2 := HS.out
            simp only [Tr.sz] at h1; omega
          rw [HA.out] at hrow
          have hrow3 := Row.below HBW.out (Row.append hrow).2
          rw [show o' + 3 * A.len = o' + j * 3 by rw [HJ.out]; omega] at hrow3
          obtain ⟨a1, cc1, a2, cc2, hra, hit, _⟩ := hrow3.head
          have HR := Lib.hid hra
          have HC1 := IH.out k1 hszk (wr.alloc (.cells #[.int .u8 (t1 : Nat), .slice a1 b1.length cc1, .slice a2 k1.len cc2] 25)) t1 b1 a1 cc1 a2 cc2 (d + 1) (hit.below ((Below.refl _ wr).alloc (Nat.le_refl _) _)) (by omega)
          have hd1 : (d : Int) + 1 = ((d + 1 : Nat) : Int) := by omega
          rw [← hd1] at HC1
          clear hd1
          clear hrow hrow3 hra hit
          by_cases hke : errI t1 b1 k1 (d + 1) = 0
          · have HE := Lib.hid (HC1.mono (fun e w' h => (⟨h.2.2 hke, h.1⟩ : e = .returned (.int .i64 (capL (encI t1 b1 k1).length : Nat)) ∧ Below (wr.alloc (.cells #[.int .u8 (t1 : Nat), .slice a1 b1.length cc1, .slice a2 k1.len cc2] 25)).heap.size (wr.alloc (.cells #[.int .u8 (t1 : Nat), .slice a1 b1.length cc1, .slice a2 k1.len cc2] 25)) w')))
            have hsm := capL_le (encI t1 b1 k1).length
            have HSM : capL (H + capL (encI t1 b1 k1).length) = capL (b.length + (A.app (.node t1 b1 k1 .nil)).enc.length) := by
              rw [HH.out, capL_add, Tr.enc_app, enc_one, List.length_append, Nat.add_assoc]
            have HSM2 := Lib.hid HSM
            have HAE2 := Lib.hid (show (A.app (.node t1 b1 k1 .nil)).err (d + 1) = 0 by rw [Tr.err_app, HAE.out]; simpa [errI] using hke)
            clear HC1 HSM hke
            generalize hS : capL (encI t1 b1 k1).length = S at *
            clear hS
            by_cases hmx : H + S ≤ 65537
            · have hmi : (H : Int) + (S : Int) ≤ 65537 := by omega
              go_wp2_with (first | (refine ldI rfl (.tmp 37) rfl b' (o' + j * 3) rfl _ _ _ HR.out ?_) | (go_at_call 53; (refine HE.out.mono ?_); rintro e w3 ⟨rfl, hb3⟩))
              have hb4 : Below W1.heap.size W1 w3 := hbel.trans ((((Below.refl _ wr).alloc (Nat.le_refl _) _).trans (hb3.mono (by simp))).mono hbel.size)
              go_roundw
              case rel => exact ⟨A.app (.node t1 b1 k1 .nil), r1, j + 1, H + S, by rw [HA.out, Tr.app_assoc]; rfl, by rw [Tr.len_app, HJ.out]; rfl, by go_num, by go_num, by rw [← HSM2.out]; exact cap_yes hmx, HAE2.out, hb4⟩
              case measure => simp [intOf]; omega
            · have hmi : ¬ (H : Int) + (S : Int) ≤ 65537 := by omega
              go_wp2_with (first | (refine ldI rfl (.tmp 37) rfl b' (o' + j * 3) rfl _ _ _ HR.out ?_) | (go_at_call 53; (refine HE.out.mono ?_); rintro e w3 ⟨rfl, hb3⟩))
              have hb4 : Below W1.heap.size W1 w3 := hbel.trans ((((Below.refl _ wr).alloc (Nat.le_refl _) _).trans (hb3.mono (by simp))).mono hbel.size)
              go_roundw
              case rel => exact ⟨A.app (.node t1 b1 k1 .nil), r1, j + 1, 65537, by rw [HA.out, Tr.app_assoc]; rfl, by rw [Tr.len_app, HJ.out]; rfl, by go_num, rfl, by rw [← HSM2.out]; exact cap_no hmx, HAE2.out, hb4⟩
              case measure => simp [intOf]; omega
          · have HE := Lib.hid (HC1.mono (fun e w' h => (⟨h.2.1 hke, h.1⟩ : e = boom (errI t1 b1 k1 (d + 1)) ∧ Below (wr.alloc (.cells #[.int .u8 (t1 : Nat), .slice a1 b1.length cc1, .slice a2 k1.len cc2] 25)).heap.size (wr.alloc (.cells #[.int .u8 (t1 : Nat), .slice a1 b1.length cc1, .slice a2 k1.len cc2] 25)) w')))
            have HKE := Lib.hid hke
            have HXE := Lib.hid (show errI t b k d = errI t1 b1 k1 (d + 1) by rw [HX.out, HA.out, Tr.err_app, HAE.out, err_node]; simp [hke])
            clear HC1 hke
            generalize errI t1 b1 k1 (d + 1) = E at *
            go_wp2_with (first | (refine ldI rfl (.tmp 37) rfl b' (o' + j * 3) rfl _ _ _ HR.out ?_) | (go_at_call 53; (refine HE.out.mono ?_); rintro e w3 ⟨rfl, hb3⟩))
            exact ⟨rfl, SzIs.bad HXE.out HKE.out (HBW.out.trans ((((Below.refl _ wr).alloc (Nat.le_refl _) _).trans (hb3.mono (by simp))).mono HBW.out.size))⟩
        · have hr0 := Tr.len_zero (T := r) (by omega)
          have hji : ¬ (j : Int) < (kn : Int) := by omega
          have HE := Lib.hid (show errI t b k d = 0 by rw [HX.out, HA.out, hr0, Tr.app_nil, HAE.out])
          have HHK := Lib.hid (show H = capL (b.length + k.enc.length) by rw [HA.out, hr0, Tr.app_nil]; exact HH.out)
          clear hr0
          have hHc := HHK.out
          have HC5 := Lib.hid (ofLength_any H hHm)
          have hHL := lenB_len H
          by_cases hfin : 1 + (lenB H).length + H ≤ 65537
          · have hF : 1 + (lenB H).length + H = capL (encI t b k).length := Eq.trans (b := capL (1 + (lenB H).length + H)) (cap_yes hfin) (cap_end (H := H) hHc)
            have HF := Lib.hid hF
            have hfi : 1 + ((lenB H).length : Int) + (H : Int) ≤ 65537 := by omega
            clear hHc hF
            go_wp2_with (go_at_call 87; (refine (HC5.out _).mono ?_); rintro e w5 ⟨vv, rfl, hown, hb5⟩; obtain ⟨ax, cx, rfl⟩ := own_slice hown; clear hown)
            go_ret
            exact SzIs.good HE.out (by rw [← HF.out]; omega) (HBW.out.trans (hb5.mono HBW.out.size))
          · have hF : 65537 = capL (encI t b k).length := Eq.trans (b := capL (1 + (lenB H).length + H)) (cap_no hfin) (cap_end (H := H) hHc)
            have HF := Lib.hid hF
            have hfi : ¬ 1 + ((lenB H).length : Int) + (H : Int) ≤ 65537 := by omega
            clear hHc hF
            go_wp2_with (go_at_call 87; (refine (HC5.out _).mono ?_); rintro e w5 ⟨vv, rfl, hown, hb5⟩; obtain ⟨ax, cx, rfl⟩ := own_slice hown; clear hown)
            go_ret
            exact SzIs.good HE.out (by rw [← HF.out]; rfl) (HBW.out.trans (hb5.mono HBW.out.size))
    · have hk0 := hkd1 hkd
      have hknil : k = .nil := Tr.len_zero hk0
      generalize hbn : b.length = bn at *
      generalize hkn : k.len = kn at *
      have HBN := Lib.hid hbn
      have HKN := Lib.hid hkn
      clear hbn hkn hkd0 hkd1
      subst hk0
      have HE := Lib.hid (show errI t b k d = 0 by rw [HX.out, hknil]; rfl)
      have HNIL := Lib.hid hknil
      clear hknil
      go_enter Try.func53, Try.ntmps53
      by_cases hcap : bn ≤ 65537
      · have hci : (bn : Int) ≤ 65537 := by omega
        go_wp2_with (first | (go_at_call 49; refine (must_t (by first | (simp; omega) | (simp; done) | rfl) _ _).mono ?_; rintro e w' ⟨rfl, rfl⟩) | (go_at_call 83; refine (isTag_any t ht _).mono ?_; rintro e w' ⟨rfl, rfl⟩) | (go_at_call 85; refine (hasKids_any t ht _).mono ?_; rintro e w' ⟨rfl, rfl⟩))
        go_loopw [5, 35] (fun h i wr => h = .int .i64 (bn : Nat) ∧ i = .int .i64 0 ∧ wr = w.alloc (.cells #[.int .u8 (t : Nat), .slice a bn c, .slice a' 0 c'] 25)) (fun _ _ _ => 0)
        case atStart => exact ⟨rfl, rfl, rfl⟩
        case round =>
          obtain ⟨rfl, rfl, rfl⟩ := hrel
          have HBW := Lib.hid (h0 (.cells #[.int .u8 (t : Nat), .slice a bn c, .slice a' 0 c'] 25))
          have HH := Lib.hid (show bn = capL (b.length + k.enc.length) by rw [HNIL.out, HBN.out]; exact cap_yes hcap)
          have hHc := HH.out
          have hHL := lenB_len bn
          have hHm : bn ≤ 65537 := by rw [hHc]; exact capL_le _
          have HC5 := Lib.hid (ofLength_any bn hHm)
          by_cases hfin : 1 + (lenB bn).length + bn ≤ 65537
          · have hF : 1 + (lenB bn).length + bn = capL (encI t b k).length := Eq.trans (b := capL (1 + (lenB bn).length + bn)) (cap_yes hfin) (cap_end (H := bn) hHc)
            have HF := Lib.hid hF
            clear hF
            have hfi : 1 + ((lenB bn).length : Int) + (bn : Int) ≤ 65537 := by omega
            clear hHc
            go_wp2_with (go_at_call 87; refine (HC5.out _).mono ?_; rintro e w5 ⟨vv, rfl, hown, hb5⟩; obtain ⟨ax, cx, rfl⟩ := own_slice hown; clear hown)
            go_ret
            exact SzIs.good HE.out (by rw [← HF.out]; omega) (HBW.out.trans (hb5.mono HBW.out.size))
          · have hF : 65537 = capL (encI t b k).length := Eq.trans (b := capL (1 + (lenB bn).length + bn)) (cap_no hfin) (cap_end (H := bn) hHc)
            have HF := Lib.hid hF
            clear hF
            have hfi : ¬ 1 + ((lenB bn).length : Int) + (bn : Int) ≤ 65537 := by omega
            clear hHc
            go_wp2_with (go_at_call 87; refine (HC5.out _).mono ?_; rintro e w5 ⟨vv, rfl, hown, hb5⟩; obtain ⟨ax, cx, rfl⟩ := own_slice hown; clear hown)
            go_ret
            exact SzIs.good HE.out (by rw [← HF.out]; rfl) (HBW.out.trans (hb5.mono HBW.out.size))
      · have hci : ¬ (bn : Int) ≤ 65537 := by omega
        go_wp2_with (first | (go_at_call 49; refine (must_t (by first | (simp; omega) | (simp; done) | rfl) _ _).mono ?_; rintro e w' ⟨rfl, rfl⟩) | (go_at_call 83; refine (isTag_any t ht _).mono ?_; rintro e w' ⟨rfl, rfl⟩) | (go_at_call 85; refine (hasKids_any t ht _).mono ?_; rintro e w' ⟨rfl, rfl⟩))
        go_loopw [5, 35] (fun h i wr => h = .int .i64 65537 ∧ i = .int .i64 0 ∧ wr = w.alloc (.cells #[.int .u8 (t : Nat), .slice a bn c, .slice a' 0 c'] 25)) (fun _ _ _ => 0)
        case atStart => exact ⟨rfl, rfl, rfl⟩
        case round =>
          obtain ⟨rfl, rfl, rfl⟩ := hrel
          have HBW := Lib.hid (h0 (.cells #[.int .u8 (t : Nat), .slice a bn c, .slice a' 0 c'] 25))
          have hHc : 65537 = capL (b.length + k.enc.length) := by rw [HNIL.out, HBN.out]; exact cap_no hcap
          have HC5 := Lib.hid (ofLength_any 65537 (Nat.le_refl _))
          have hlb : (lenB 65537).length = 3 := by unfold lenB; simp
          have hF : 65537 = capL (encI t b k).length := by
            have h1 := cap_end (t := t) (H := 65537) hHc
            rw [hlb] at h1
            rw [← h1]; exact cap_no (by omega)
          have HF := Lib.hid hF
          have HLB := Lib.hid hlb
          clear hF hHc hlb
          go_wp2_with (go_at_call 87; (refine (HC5.out _).mono ?_); rintro e w5 ⟨vv, rfl, hown, hb5⟩; obtain ⟨ax, cx, rfl⟩ := own_slice hown; rw [HLB.out]; clear hown)
          go_ret
          exact SzIs.good HE.out (by rw [← HF.out]; rfl) (HBW.out.trans (hb5.mono HBW.out.size))
end Go.Proofs.Ytbabpmncdphnjaa
