/- Parts of proofs of statements, each text behind those that it stands on. No condition of its own. -/
import Derived.Test.YtbabpmncdphnjaaGreatQ04
namespace Go.Proofs.YtbabpmncdphnjaaGreat
open Go.RowKit
set_option linter.unusedVariables false
set_option maxRecDepth 100000
theorem eqzS {x : Nat} (h : x ≠ 0) : ((x : Int) == 0) = false := by simp; omega
def SzIs (t : Nat) (b : List Nat) (k : Tr) (d : Nat) (w : World) (e : Ending) (w' : World) : Prop :=
  Below w.heap.size w w' ∧ (errI t b k d ≠ 0 → e = boom (errI t b k d)) ∧ (errI t b k d = 0 → e = .returned (.int .i64 (capL (encI t b k).length : Nat)))
theorem SzIs.bad {t : Nat} {b : List Nat} {k : Tr} {d : Nat} {w w' : World} {c : Nat} (h : errI t b k d = c) (hc : c ≠ 0) (hb : Below w.heap.size w w') : SzIs t b k d w (boom c) w' := by
  subst h; exact ⟨hb, fun _ => rfl, fun h => absurd h hc⟩
theorem SzIs.good {t : Nat} {b : List Nat} {k : Tr} {d : Nat} {w w' : World} {x : Int} (h : errI t b k d = 0) (hx : x = ((capL (encI t b k).length : Nat) : Int)) (hb : Below w.heap.size w w') : SzIs t b k d w (.returned (.int .i64 x)) w' := by
  subst hx; exact ⟨hb, fun hh => absurd h hh, fun _ => rfl⟩
theorem cap_end {t : Nat} {b : List Nat} {k : Tr} {H : Nat} (h : H = capL (b.length + k.enc.length)) : capL (1 + (lenB H).length + H) = capL (encI t b k).length := by
  rw [encI_length, h, capL_len]
theorem cap_yes {x : Nat} (h : x ≤ 65537) : x = capL x := by unfold capL; omega
theorem cap_no {x : Nat} (h : ¬ x ≤ 65537) : 65537 = capL x := by unfold capL; omega
set_option maxRecDepth 100000 in
set_option maxHeartbeats 8000000 in
theorem size_any : ∀ (N : Nat) (k : Tr), k.sz < N → ∀ (w : World) (t : Nat) (b : List Nat) (a : Option Addr) (c : Nat) (a' : Option Addr) (c' : Nat) (d : Nat), ItIn w t a c a' c' b k → d ≤ 65536 →
    Calls Tryz.prog 76 #[itV t a b.length c a' k.len c', .int .i64 (d : Nat)] w (SzIs t b k d w) := by
  intro N
  induction N with
  | zero => intro k h; omega
  | succ N ih =>
    intro k hsz w t b a c a' c' d hin hd
    obtain ⟨ht, hb, hk⟩ := hin
    have HB := Lib.hid hb
    have HK := Lib.hid hk
    have IH := Lib.hid ih
    have HS := Lib.hid hsz
    have h0 := fun o => (Below.refl _ w).alloc (Nat.le_refl _) o
    have hkm : k.len ≤ 140737488355328 := hk.1.2.1
    have hbm : b.length ≤ 140737488355328 := hb.2.2.2.1
    clear hb hk ih hsz
    by_cases hdp : 16 < d
    · have hdi : ¬ (d : Int) ≤ 16 := by omega
      have HX := Lib.hid (errI_deep (t := t) (b := b) (k := k) hdp)
      generalize b.length = bn at *
      generalize k.len = kn at *
      go_enter Tryz.func76, Tryz.ntmps76
      go_wp2_with (go_at_call 57; refine (must_f (by first | (simp; omega) | (simp; done) | rfl) _ _).mono ?_; rintro e w' ⟨rfl, rfl⟩)
      exact ⟨rfl, SzIs.bad HX.out (by decide) (h0 _)⟩
    have hdi : (d : Int) ≤ 16 := by omega
    by_cases htag : t % 32 = 31
    · have HX := Lib.hid (errI_tag (t := t) (b := b) (k := k) hdp htag)
      generalize b.length = bn at *
      generalize k.len = kn at *
      go_enter Tryz.func76, Tryz.ntmps76
      go_wp2_with (first | (go_at_call 57; refine (must_t (by first | (simp; omega) | (simp; done) | rfl) _ _).mono ?_; rintro e w' ⟨rfl, rfl⟩) | (go_at_call 91; refine (isTag_any t ht _).mono ?_; rintro e w' ⟨rfl, rfl⟩) | (go_at_call 57; refine (must_f (by first | (simp; omega) | (simp; done) | rfl) _ _).mono ?_; rintro e w' ⟨rfl, rfl⟩))
      exact ⟨rfl, SzIs.bad HX.out (by decide) (h0 _)⟩
    by_cases hval : t / 32 % 2 = 1 ∧ b ≠ [] ∨ t / 32 % 2 ≠ 1 ∧ k ≠ .nil
    · have HX := Lib.hid (errI_val (t := t) (b := b) (k := k) hdp htag hval)
      by_cases hkd : t / 32 % 2 = 1
      · have hbn : b.length ≠ 0 := by
          intro h; rcases hval with ⟨_, h2⟩ | ⟨h2, _⟩
          · exact h2 (List.eq_nil_of_length_eq_zero h)
          · exact h2 hkd
        have hq := eqzS hbn
        clear hval
        generalize b.length = bn at *
        generalize k.len = kn at *
        go_enter Tryz.func76, Tryz.ntmps76
        go_wp2_with (first | (go_at_call 57; refine (must_t (by first | (simp; omega) | (simp; done) | rfl) _ _).mono ?_; rintro e w' ⟨rfl, rfl⟩) | (go_at_call 91; refine (isTag_any t ht _).mono ?_; rintro e w' ⟨rfl, rfl⟩) | (go_at_call 93; refine (hasKids_any t ht _).mono ?_; rintro e w' ⟨rfl, rfl⟩) | (go_at_call 57; refine (must_f (by first | (simp; omega) | (simp; done) | rfl) _ _).mono ?_; rintro e w' ⟨rfl, rfl⟩))
        exact ⟨rfl, SzIs.bad HX.out (by decide) (h0 _)⟩
      · have hkn : k.len ≠ 0 := by
          intro h; rcases hval with ⟨h2, _⟩ | ⟨_, h2⟩
          · exact hkd h2
          · exact h2 (Tr.len_zero h)
        have hq := eqzS hkn
        clear hval
        generalize b.length = bn at *
        generalize k.len = kn at *
        go_enter Tryz.func76, Tryz.ntmps76
        go_wp2_with (first | (go_at_call 57; refine (must_t (by first | (simp; omega) | (simp; done) | rfl) _ _).mono ?_; rintro e w' ⟨rfl, rfl⟩) | (go_at_call 91; refine (isTag_any t ht _).mono ?_; rintro e w' ⟨rfl, rfl⟩) | (go_at_call 93; refine (hasKids_any t ht _).mono ?_; rintro e w' ⟨rfl, rfl⟩) | (go_at_call 57; refine (must_f (by first | (simp; omega) | (simp; done) | rfl) _ _).mono ?_; rintro e w' ⟨rfl, rfl⟩))
        exact ⟨rfl, SzIs.bad HX.out (by decide) (h0 _)⟩
    have HX := Lib.hid (errI_kids (t := t) (b := b) (k := k) hdp htag hval)
    have hW := rangeAt_new w (.int .u8 (t : Nat)) (.slice a b.length c) (.slice a' k.len c') 25
    have HVAL := Lib.hid hval
    clear hval
    have hkd0 : ∀ (h : t / 32 % 2 = 1), b.length = 0 := fun h => Classical.byContradiction fun hb => HVAL.out (.inl ⟨h, fun e => hb (by rw [e]; rfl)⟩)
    have hkd1 : ∀ (h : ¬ t / 32 % 2 = 1), k.len = 0 := fun h => Classical.byContradiction fun hb => HVAL.out (.inr ⟨h, fun e => hb (by rw [e]; rfl)⟩)
    by_cases hkd : t / 32 % 2 = 1
    · have hb0 := hkd0 hkd
      generalize hbn : b.length = bn at *
      generalize hkn : k.len = kn at *
      have HBN := Lib.hid hbn
      have HKN := Lib.hid hkn
      clear hbn hkn hkd0 hkd1
      subst hb0
      go_enter Tryz.func76, Tryz.ntmps76
      go_wp2_with (first | (go_at_call 57; refine (must_t (by first | (simp; omega) | (simp; done) | rfl) _ _).mono ?_; rintro e w' ⟨rfl, rfl⟩) | (go_at_call 91; refine (isTag_any t ht _).mono ?_; rintro e w' ⟨rfl, rfl⟩) | (go_at_call 93; refine (hasKids_any t ht _).mono ?_; rintro e w' ⟨rfl, rfl⟩))
      have H0 := Lib.hid (h0 (.cells #[.int .u8 (t : Nat), .slice a 0 c, .slice a' kn c'] 45))
      clear hW
      generalize w.alloc (.cells #[.int .u8 (t : Nat), .slice a 0 c, .slice a' kn c'] 45) = W1 at *
      go_loopw [5, 35] (fun h i wr => ∃ (A r : Tr) (j H : Nat), k = A.app r ∧ A.len = j ∧ i = .int .i64 (j : Nat) ∧ h = .int .i64 (H : Nat) ∧ H = capL (b.length + A.enc.length) ∧ A.err (d + 1) = 0 ∧ Below W1.heap.size W1 wr) (fun _ i _ => kn - (intOf i).toNat)
      case atStart => exact ⟨.nil, k, 0, 0, rfl, rfl, rfl, rfl, by rw [HBN.out]; exact cap_yes (by decide), rfl, Below.refl _ _⟩
      case round =>
        obtain ⟨A, r, j, H, hA, hj, rfl, rfl, hH, hAe, hbel⟩ := hrel
        have hlen : j + r.len = kn := by rw [← HKN.out, hA, Tr.len_app, hj]
        have HA := Lib.hid hA
        have HJ := Lib.hid hj
        have HH := Lib.hid hH
        have HAE := Lib.hid hAe
        have HBW := Lib.hid (H0.out.trans (hbel.mono H0.out.size))
        have hHm : H ≤ 65537 := by rw [hH]; exact capL_le _
        clear hA hj hH hAe
        by_cases hjk : j < kn
        · have hji : (j : Int) < (kn : Int) := by omega
          obtain ⟨t1, b1, k1, r1, rfl⟩ := Tr.len_pos (T := r) (by omega)
          obtain ⟨b', o', rfl, hrow⟩ := HK.out.2.resolve_left (by have := HKN.out; omega)
          have hszk : k1.sz < N := by
            have h1 := Tr.sz_app A (.node t1 b1 k1 r1)
            rw [← HA.out] at h1
            have h2 := HS.out
            simp only [Tr.sz] at h1; omega
          rw [HA.out] at hrow
          have hrow3 := Row.below HBW.out (Row.append hrow).2
          rw [show o' + 3 * A.len = o' + j * 3 by rw [HJ.out]; omega] at hrow3
          obtain ⟨a1, cc1, a2, cc2, hra, hit, _⟩ := hrow3.head
          have HR := Lib.hid hra
          have HC1 := IH.out k1 hszk (wr.alloc (.cells #[.int .u8 (t1 : Nat), .slice a1 b1.length cc1, .slice a2 k1.len cc2] 45)) t1 b1 a1 cc1 a2 cc2 (d + 1) (hit.below ((Below.refl _ wr).alloc (Nat.le_refl _) _)) (by omega)
          have hd1 : (d : Int) + 1 = ((d + 1 : Nat) : Int) := by omega
          rw [← hd1] at HC1
          clear hd1
          clear hrow hrow3 hra hit
          by_cases hke : errI t1 b1 k1 (d + 1) = 0
          · have HE := Lib.hid (HC1.mono (fun e w' h => (⟨h.2.2 hke, h.1⟩ : e = .returned (.int .i64 (capL (encI t1 b1 k1).length : Nat)) ∧ Below (wr.alloc (.cells #[.int .u8 (t1 : Nat), .slice a1 b1.length cc1, .slice a2 k1.len cc2] 45)).heap.size (wr.alloc (.cells #[.int .u8 (t1 : Nat), .slice a1 b1.length cc1, .slice a2 k1.len cc2] 45)) w')))
            have hsm := capL_le (encI t1 b1 k1).length
            have HSM : capL (H + capL (encI t1 b1 k1).length) = capL (b.length + (A.app (.node t1 b1 k1 .nil)).enc.length) := by
              rw [HH.out, capL_add, Tr.enc_app, enc_one, List.length_append, Nat.add_assoc]
            have HSM2 := Lib.hid HSM
            have HAE2 := Lib.hid (show (A.app (.node t1 b1 k1 .nil)).err (d + 1) = 0 by rw [Tr.err_app, HAE.out]; simpa [errI] using hke)
            clear HC1 HSM hke
            generalize hS : capL (encI t1 b1 k1).length = S at *
            clear hS
            by_cases hmx : H + S ≤ 65537
            · have hmi : (H : Int) + (S : Int) ≤ 65537 := by omega
              go_wp2_with (first | (refine ldI rfl (.tmp 37) rfl b' (o' + j * 3) rfl _ _ _ HR.out ?_) | (go_at_call 76; (refine HE.out.mono ?_); rintro e w3 ⟨rfl, hb3⟩))
              have hb4 : Below W1.heap.size W1 w3 := hbel.trans ((((Below.refl _ wr).alloc (Nat.le_refl _) _).trans (hb3.mono (by simp))).mono hbel.size)
              go_roundw
              case rel => exact ⟨A.app (.node t1 b1 k1 .nil), r1, j + 1, H + S, by rw [HA.out, Tr.app_assoc]; rfl, by rw [Tr.len_app, HJ.out]; rfl, by go_num, by go_num, by rw [← HSM2.out]; exact cap_yes hmx, HAE2.out, hb4⟩
              case measure => simp [intOf]; omega
            · have hmi : ¬ (H : Int) + (S : Int) ≤ 65537 := by omega
              go_wp2_with (first | (refine ldI rfl (.tmp 37) rfl b' (o' + j * 3) rfl _ _ _ HR.out ?_) | (go_at_call 76; (refine HE.out.mono ?_); rintro e w3 ⟨rfl, hb3⟩))
              have hb4 : Below W1.heap.size W1 w3 := hbel.trans ((((Below.refl _ wr).alloc (Nat.le_refl _) _).trans (hb3.mono (by simp))).mono hbel.size)
              go_roundw
              case rel => exact ⟨A.app (.node t1 b1 k1 .nil), r1, j + 1, 65537, by rw [HA.out, Tr.app_assoc]; rfl, by rw [Tr.len_app, HJ.out]; rfl, by go_num, rfl, by rw [← HSM2.out]; exact cap_no hmx, HAE2.out, hb4⟩
              case measure => simp [intOf]; omega
          · have HE := Lib.hid (HC1.mono (fun e w' h => (⟨h.2.1 hke, h.1⟩ : e = boom (errI t1 b1 k1 (d + 1)) ∧ Below (wr.alloc (.cells #[.int .u8 (t1 : Nat), .slice a1 b1.length cc1, .slice a2 k1.len cc2] 45)).heap.size (wr.alloc (.cells #[.int .u8 (t1 : Nat), .slice a1 b1.length cc1, .slice a2 k1.len cc2] 45)) w')))
            have HKE := Lib.hid hke
            have HXE := Lib.hid (show errI t b k d = errI t1 b1 k1 (d + 1) by rw [HX.out, HA.out, Tr.err_app, HAE.out, err_node]; simp [hke])
            clear HC1 hke
            generalize errI t1 b1 k1 (d + 1) = E at *
            go_wp2_with (first | (refine ldI rfl (.tmp 37) rfl b' (o' + j * 3) rfl _ _ _ HR.out ?_) | (go_at_call 76; (refine HE.out.mono ?_); rintro e w3 ⟨rfl, hb3⟩))
            exact ⟨rfl, SzIs.bad HXE.out HKE.out (HBW.out.trans ((((Below.refl _ wr).alloc (Nat.le_refl _) _).trans (hb3.mono (by simp))).mono HBW.out.size))⟩
        · have hr0 := Tr.len_zero (T := r) (by omega)
          have hji : ¬ (j : Int) < (kn : Int) := by omega
          have HE := Lib.hid (show errI t b k d = 0 by rw [HX.out, HA.out, hr0, Tr.app_nil, HAE.out])
          have HHK := Lib.hid (show H = capL (b.length + k.enc.length) by rw [HA.out, hr0, Tr.app_nil]; exact HH.out)
          clear hr0
          have hHc := HHK.out
          have HC5 := Lib.hid (ofLength_any H hHm)
          have hHL := lenB_len H
          by_cases hfin : 1 + (lenB H).length + H ≤ 65537
          · have hF : 1 + (lenB H).length + H = capL (encI t b k).length := Eq.trans (b := capL (1 + (lenB H).length + H)) (cap_yes hfin) (cap_end (H := H) hHc)
            have HF := Lib.hid hF
            have hfi : 1 + ((lenB H).length : Int) + (H : Int) ≤ 65537 := by omega
            clear hHc hF
            go_wp2_with (go_at_call 106; (refine (HC5.out _).mono ?_); rintro e w5 ⟨vv, rfl, hown, hb5⟩; obtain ⟨ax, cx, rfl⟩ := own_slice hown; clear hown)
            go_ret
            exact SzIs.good HE.out (by rw [← HF.out]; omega) (HBW.out.trans (hb5.mono HBW.out.size))
          · have hF : 65537 = capL (encI t b k).length := Eq.trans (b := capL (1 + (lenB H).length + H)) (cap_no hfin) (cap_end (H := H) hHc)
            have HF := Lib.hid hF
            have hfi : ¬ 1 + ((lenB H).length : Int) + (H : Int) ≤ 65537 := by omega
            clear hHc hF
            go_wp2_with (go_at_call 106; (refine (HC5.out _).mono ?_); rintro e w5 ⟨vv, rfl, hown, hb5⟩; obtain ⟨ax, cx, rfl⟩ := own_slice hown; clear hown)
            go_ret
            exact SzIs.good HE.out (by rw [← HF.out]; rfl) (HBW.out.trans (hb5.mono HBW.out.size))
    · have hk0 := hkd1 hkd
      have hknil : k = .nil := Tr.len_zero hk0
      generalize hbn : b.length = bn at *
      generalize hkn : k.len = kn at *
      have HBN := Lib.hid hbn
      have HKN := Lib.hid hkn
      clear hbn hkn hkd0 hkd1
      subst hk0
      have HE := Lib.hid (show errI t b k d = 0 by rw [HX.out, hknil]; rfl)
      have HNIL := Lib.hid hknil
      clear hknil
      go_enter Tryz.func76, Tryz.ntmps76
      by_cases hcap : bn ≤ 65537
      · have hci : (bn : Int) ≤ 65537 := by omega
        go_wp2_with (first | (go_at_call 57; refine (must_t (by first | (simp; omega) | (simp; done) | rfl) _ _).mono ?_; rintro e w' ⟨rfl, rfl⟩) | (go_at_call 91; refine (isTag_any t ht _).mono ?_; rintro e w' ⟨rfl, rfl⟩) | (go_at_call 93; refine (hasKids_any t ht _).mono ?_; rintro e w' ⟨rfl, rfl⟩))
        go_loopw [5, 35] (fun h i wr => h = .int .i64 (bn : Nat) ∧ i = .int .i64 0 ∧ wr = w.alloc (.cells #[.int .u8 (t : Nat), .slice a bn c, .slice a' 0 c'] 45)) (fun _ _ _ => 0)
        case atStart => exact ⟨rfl, rfl, rfl⟩
        case round =>
          obtain ⟨rfl, rfl, rfl⟩ := hrel
          have HBW := Lib.hid (h0 (.cells #[.int .u8 (t : Nat), .slice a bn c, .slice a' 0 c'] 45))
          have HH := Lib.hid (show bn = capL (b.length + k.enc.length) by rw [HNIL.out, HBN.out]; exact cap_yes hcap)
          have hHc := HH.out
          have hHL := lenB_len bn
          have hHm : bn ≤ 65537 := by rw [hHc]; exact capL_le _
          have HC5 := Lib.hid (ofLength_any bn hHm)
          by_cases hfin : 1 + (lenB bn).length + bn ≤ 65537
          · have hF : 1 + (lenB bn).length + bn = capL (encI t b k).length := Eq.trans (b := capL (1 + (lenB bn).length + bn)) (cap_yes hfin) (cap_end (H := bn) hHc)
            have HF := Lib.hid hF
            clear hF
            have hfi : 1 + ((lenB bn).length : Int) + (bn : Int) ≤ 65537 := by omega
            clear hHc
            go_wp2_with (go_at_call 106; refine (HC5.out _).mono ?_; rintro e w5 ⟨vv, rfl, hown, hb5⟩; obtain ⟨ax, cx, rfl⟩ := own_slice hown; clear hown)
            go_ret
            exact SzIs.good HE.out (by rw [← HF.out]; omega) (HBW.out.trans (hb5.mono HBW.out.size))
          · have hF : 65537 = capL (encI t b k).length := Eq.trans (b := capL (1 + (lenB bn).length + bn)) (cap_no hfin) (cap_end (H := bn) hHc)
            have HF := Lib.hid hF
            clear hF
            have hfi : ¬ 1 + ((lenB bn).length : Int) + (bn : Int) ≤ 65537 := by omega
            clear hHc
            go_wp2_with (go_at_call 106; refine (HC5.out _).mono ?_; rintro e w5 ⟨vv, rfl, hown, hb5⟩; obtain ⟨ax, cx, rfl⟩ := own_slice hown; clear hown)
            go_ret
            exact SzIs.good HE.out (by rw [← HF.out]; rfl) (HBW.out.trans (hb5.mono HBW.out.size))
      · have hci : ¬ (bn : Int) ≤ 65537 := by omega
        go_wp2_with (first | (go_at_call 57; refine (must_t (by first | (simp; omega) | (simp; done) | rfl) _ _).mono ?_; rintro e w' ⟨rfl, rfl⟩) | (go_at_call 91; refine (isTag_any t ht _).mono ?_; rintro e w' ⟨rfl, rfl⟩) | (go_at_call 93; refine (hasKids_any t ht _).mono ?_; rintro e w' ⟨rfl, rfl⟩))
        go_loopw [5, 35] (fun h i wr => h = .int .i64 65537 ∧ i = .int .i64 0 ∧ wr = w.alloc (.cells #[.int .u8 (t : Nat), .slice a bn c, .slice a' 0 c'] 45)) (fun _ _ _ => 0)
        case atStart => exact ⟨rfl, rfl, rfl⟩
        case round =>
          obtain ⟨rfl, rfl, rfl⟩ := hrel
          have HBW := Lib.hid (h0 (.cells #[.int .u8 (t : Nat), .slice a bn c, .slice a' 0 c'] 45))
          have hHc : 65537 = capL (b.length + k.enc.length) := by rw [HNIL.out, HBN.out]; exact cap_no hcap
          have HC5 := Lib.hid (ofLength_any 65537 (Nat.le_refl _))
          have hlb : (lenB 65537).length = 3 := by unfold lenB; simp
          have hF : 65537 = capL (encI t b k).length := by
            have h1 := cap_end (t := t) (H := 65537) hHc
            rw [hlb] at h1
            rw [← h1]; exact cap_no (by omega)
          have HF := Lib.hid hF
          have HLB := Lib.hid hlb
          clear hF hHc hlb
          go_wp2_with (go_at_call 106; (refine (HC5.out _).mono ?_); rintro e w5 ⟨vv, rfl, hown, hb5⟩; obtain ⟨ax, cx, rfl⟩ := own_slice hown; rw [HLB.out]; clear hown)
          go_ret
          exact SzIs.good HE.out (by rw [← HF.out]; rfl) (HBW.out.trans (hb5.mono HBW.out.size))
end Go.Proofs.YtbabpmncdphnjaaGreat
namespace Go.Proofs.YtbabpmncdphnjaaGreat
open Go.RowKit
set_option linter.unusedVariables false
set_option maxRecDepth 100000
def LenIs (a : Option Addr) (l : List Nat) (w : World) (e : Ending) (w' : World) : Prop :=
  Below w.heap.size w w' ∧ match lenE l with
  | .error c => e = boom c
  | .ok (v, r) => ∃ B f o c, a = some ⟨B, f, none⟩ ∧ e = .returned (.tuple #[.int .i64 (v : Nat), .slice (some ⟨B, o, none⟩) r.length c]) ∧ BIn w' (some ⟨B, o, none⟩) r.length c r
theorem len_bad (f : Nat) (b : List Nat) (h : ¬ f < 128) (h2 : f = 128 ∨ 131 < f) : lenE (f :: b) = .error 124 := by simp [lenE, h, h2]
theorem len_short (f : Nat) (b : List Nat) (h : ¬ f < 128) (h2 : ¬ (f = 128 ∨ 131 < f)) (h3 : b.length < f - 128) : lenE (f :: b) = .error 122 := by simp [lenE, h, h2, h3]
theorem len_small (f : Nat) (b : List Nat) (h : ¬ f < 128) (h2 : ¬ (f = 128 ∨ 131 < f)) (h3 : ¬ b.length < f - 128) (h4 : b.getD 0 0 = 0 ∨ beV (b.take (f - 128)) < 128) : lenE (f :: b) = .error 124 := by
  simp only [lenE, if_neg h, if_neg h2, if_neg h3, if_pos h4]
theorem len_long (f : Nat) (b : List Nat) (h : ¬ f < 128) (h2 : ¬ (f = 128 ∨ 131 < f)) (h3 : ¬ b.length < f - 128) (h4 : ¬ (b.getD 0 0 = 0 ∨ beV (b.take (f - 128)) < 128)) : lenE (f :: b) = .ok (beV (b.take (f - 128)), b.drop (f - 128)) := by
  simp only [lenE, if_neg h, if_neg h2, if_neg h3, if_neg h4]
theorem wrap64_small (n : Nat) (h : n < 9223372036854775808) : IntKind.i64.wrap (n : Int) = (n : Int) := by
  have e : (n : Int) % 2 ^ 64 = n := Int.emod_eq_of_lt (by omega) (by omega)
  simp only [IntKind.wrap, IntKind.bits, IntKind.signed, e]
  rw [if_neg]
  simp
  omega
theorem i64_or_byte (v x : Nat) (hv : v < 4294967296) (hx : x < 256) : bits .or .i64 ((v : Int) * 256) (x : Int) = ((256 * v + x : Nat) : Int) := by
  have h : bits .or .i64 ((256 * v : Nat) : Int) (x : Int) = ((256 * v ||| x : Nat) : Int) := by
    show IntKind.i64.wrap ((BitVec.ofInt 64 ((256 * v : Nat) : Int) ||| BitVec.ofInt 64 (x : Int)).toNat : Int) = _
    rw [BitVec.toNat_or, ofInt_u64 (256 * v) (by omega), ofInt_u64 x (by omega)]
    exact wrap64_small _ (by rw [nat_join 8 (256 * v) x (by omega) (by omega)]; omega)
  rw [nat_join 8 (256 * v) x (by omega) (by omega)] at h
  rw [← h]; congr 1; omega
theorem LenIs.err {a : Option Addr} {l : List Nat} {w : World} {c : Nat} (h : lenE l = .error c) {w' : World} (hb : Below w.heap.size w w') : LenIs a l w (boom c) w' := by
  refine ⟨hb, ?_⟩; rw [h]
theorem LenIs.good {f : Nat} {l : List Nat} {w : World} {v : Nat} {r : List Nat} (h : lenE l = .ok (v, r)) {w' : World} (hb : Below w.heap.size w w') {B o : Nat} {n c : Nat} (hn : r.length = n) (hi : BIn w' (some ⟨B, o, none⟩) n c r) : LenIs (some ⟨B, f, none⟩) l w (.returned (.tuple #[.int .i64 (v : Nat), .slice (some ⟨B, o, none⟩) n c])) w' := by
  subst hn; refine ⟨hb, ?_⟩; rw [h]; exact ⟨B, f, o, c, rfl, rfl, hi⟩
theorem len_one (f : Nat) (b : List Nat) (h : f < 128) : lenE (f :: b) = .ok (f, b) := by simp [lenE, h]
set_option maxRecDepth 100000 in
set_option maxHeartbeats 4000000 in
theorem length_any (w : World) (a : Option Addr) (n c : Nat) (l : List Nat) (hin : BIn w a n c l) : Calls Tryz.prog 92 #[.slice a n c] w (LenIs a l w) := by
  have hn : l.length = n := hin.1.1
  have hnm := hin.2.2.2.1
  have hcm := hin.2.2.1
  have hnc := hin.2.1
  cases l with
  | nil =>
    obtain rfl : n = 0 := by simpa using hn.symm
    clear hin hn
    go_enter Tryz.func92, Tryz.ntmps92
    go_wp2_with (go_at_call 57; refine (must_f (by first | (simp; omega) | (simp; done) | rfl) _ _).mono ?_; rintro e w' ⟨rfl, rfl⟩)
    exact ⟨rfl, Below.refl _ _, rfl⟩
  | cons f b =>
    obtain ⟨B, off, rfl, hc⟩ := hin.1.2.2.2.resolve_left (by simp at hn; omega)
    have hf : f < 256 := hin.1.2.2.1 f (by simp)
    have c0 := hc 0 (by simp at hn; omega)
    simp at c0
    have HI := Lib.hid hin
    have hn1 : b.length + 1 = n := by simpa using hn
    have HB := Lib.hid (fun (A : Option Addr) (hA : A = some ⟨B, off, none⟩ ∧ n - 1 = 0 ∨ A = some ⟨B, off + 1, none⟩) (cp : Nat) (hcp : cp = c - 1) (w' : World) (hb : Below w.heap.size w w') => (by have := (bin_drop hin (f := 1) (by omega) (by omega) A hA).below hb; rw [hcp]; simpa using this : BIn w' A (n - 1) cp b))
    clear hin hc hn
    have HM := Lib.hid hnm
    have HC := Lib.hid hcm
    clear hnm hcm
    have hn0 : (0 : Int) < (n : Int) := by omega
    have hn2 : (1 : Int) ≤ (n : Int) := by omega
    by_cases h128 : f < 128
    · have h128i : (f : Int) < 128 := by omega
      go_enter Tryz.func92, Tryz.ntmps92
      go_wp2_with (go_at_call 57; refine (must_t (by first | (simp; omega) | (simp; done) | rfl) _ _).mono ?_; rintro e w' ⟨rfl, rfl⟩)
      go_quiet (fail)
      go_wp2_with fail
      · go_ret2
        exact LenIs.good (len_one f b h128) (below_drewN (Below.refl _ _) nq) (by omega) (HB.out _ (.inl ⟨rfl, by omega⟩) _ (by omega) _ (below_drewN (Below.refl _ _) nq))
      · go_ret2
        exact LenIs.good (len_one f b h128) (below_drewN (Below.refl _ _) nq) (by omega) (HB.out _ (.inr rfl) _ (by omega) _ (below_drewN (Below.refl _ _) nq))
    · have h128i : ¬ (f : Int) < 128 := by omega
      by_cases hbad : f = 128 ∨ 131 < f
      · go_enter Tryz.func92, Tryz.ntmps92
        go_wp2_with (go_at_call 57; refine (must_t (by first | (simp; omega) | (simp; done) | rfl) _ _).mono ?_; rintro e w' ⟨rfl, rfl⟩)
        go_quiet (fail)
        go_wp2_with (first | (go_at_call 57; refine (must_t (by first | (simp; omega) | (simp; done) | rfl) _ _).mono ?_; rintro e w' ⟨rfl, rfl⟩) | (go_at_call 57; refine (must_f (by first | (simp; omega) | (simp; done) | rfl) _ _).mono ?_; rintro e w' ⟨rfl, rfl⟩))
        all_goals exact ⟨rfl, LenIs.err (len_bad f b h128 hbad) (below_drewN (Below.refl _ _) nq)⟩
      · have hm1 : (f : Int) ≠ 128 := by omega
        have hm2 : (f : Int) ≤ 131 := by omega
        obtain ⟨m, rfl⟩ : ∃ m, f = 128 + m := ⟨f - 128, by omega⟩
        have hsub : ((128 + m : Nat) : Int) - 128 = (m : Int) := by omega
        by_cases hsh : b.length < m
        · go_enter Tryz.func92, Tryz.ntmps92
          go_wp2_with (go_at_call 57; refine (must_t (by first | (simp; omega) | (simp; done) | rfl) _ _).mono ?_; rintro e w' ⟨rfl, rfl⟩)
          go_quiet (fail)
          go_wp2_with (first | (go_at_call 57; refine (must_t (by first | (simp; omega) | (simp; done) | rfl) _ _).mono ?_; rintro e w' ⟨rfl, rfl⟩) | (go_at_call 57; refine (must_f (by first | (simp; omega) | (simp; done) | rfl) _ _).mono ?_; rintro e w' ⟨rfl, rfl⟩))
          all_goals exact ⟨rfl, LenIs.err (len_short _ b h128 hbad (by omega)) (below_drewN (Below.refl _ _) nq)⟩
        · have hc3 : ¬ c = 1 := by omega
          have hbw := Lib.hid (HB.out _ (.inr rfl) _ rfl)
          have hnn : ∃ n' c', n = n' + 1 ∧ c = c' + 1 := ⟨n - 1, c - 1, by omega, by omega⟩
          obtain ⟨n', c', rfl, rfl⟩ := hnn
          go_enter Tryz.func92, Tryz.ntmps92
          go_wp2_with (go_at_call 57; refine (must_t (by first | (simp; omega) | (simp; done) | rfl) _ _).mono ?_; rintro e w' ⟨rfl, rfl⟩)
          go_quiet (fail)
          go_wp2_with (first | (go_at_call 57; refine (must_t (by first | (simp; omega) | (simp; done) | rfl) _ _).mono ?_; rintro e w' ⟨rfl, rfl⟩) | (go_at_call 57; refine (must_f (by first | (simp; omega) | (simp; done) | rfl) _ _).mono ?_; rintro e w' ⟨rfl, rfl⟩))
          go_loopw [6, 42] (fun v i wr => ∃ k : Nat, k ≤ m ∧ i = .int .i64 (k : Nat) ∧ v = .int .i64 (beV (b.take k) : Nat) ∧ Below w.heap.size w wr) (fun _ i _ => m - (intOf i).toNat)
          case atStart => exact ⟨0, Nat.zero_le _, rfl, rfl, below_drewN (Below.refl _ _) nq⟩
          case round =>
            obtain ⟨k, hk, rfl, rfl, hbel⟩ := hrel
            have hbr := hbw.out _ hbel
            have hlt : ∀ i, b.getD i 0 < 256 := getD_lt hbr.1.2.2.1
            have HV : beV (b.take k) < 256 ^ k := by
              have := beV_lt (b.take k) (fun x hx => hbr.1.2.2.1 x (List.mem_of_mem_take hx))
              rwa [List.length_take, Nat.min_eq_left (by omega)] at this
            have HV2 : beV (b.take k) < 16777216 := Nat.lt_of_lt_of_le HV (Nat.pow_le_pow_right (n := 256) (i := k) (j := 3) (by omega) (by omega))
            clear HV
            by_cases hkm : k < m
            · have hki : (k : Int) < (m : Int) := by omega
              obtain ⟨B', o', hE, hcell⟩ := hbr.1.2.2.2.resolve_left (by omega)
              injection hE with hE
              injection hE with e1 e2
              subst e1 e2
              have ck := hcell k (by omega)
              have hx := hlt k
              have hs := beV_snoc (b.take k) (b.getD k 0)
              rw [← take_snoc b k (by omega)] at hs
              have HS := Lib.hid hs
              clear hbr hlt hcell hs
              generalize hv : beV (b.take k) = v at *
              generalize b.getD k 0 = x at *
              have ho := i64_or_byte v x (by omega) hx
              go_wp2_with fail
              go_roundw
              case rel => exact ⟨k + 1, by omega, by go_num, by rw [HS.out]; go_num, hbel⟩
              case measure => simp [intOf]; omega
            · obtain rfl : k = m := by omega
              have hk0 : 0 < k := by omega
              obtain ⟨B', o', hE, hcell⟩ := hbr.1.2.2.2.resolve_left (by omega)
              injection hE with hE
              injection hE with e1 e2
              subst e1 e2
              have ck := hcell 0 (by omega)
              rw [Nat.add_zero] at ck
              have hx := hlt 0
              have hki : ¬ (k : Int) < (k : Int) := by omega
              have HR := Lib.hid hbr
              clear hcell hlt hbr
              by_cases hgood : b.getD 0 0 = 0 ∨ beV (b.take k) < 128
              · have hE := len_small (128 + k) b h128 hbad (by omega) (by rw [show 128 + k - 128 = k by omega]; exact hgood)
                have HE := Lib.hid hE
                clear hE
                generalize beV (b.take k) = v at *
                generalize b.getD 0 0 = x at *
                have hb : ((x : Int) != 0 && decide ((128 : Int) ≤ (v : Int))) = false := by
                  rw [Bool.and_eq_false_iff]; simp; omega
                go_wp2_with (go_at_call 57; refine (must_f (by first | (simp; omega) | (simp; done) | rfl) _ _).mono ?_; rintro e w' ⟨rfl, rfl⟩)
                all_goals exact ⟨rfl, LenIs.err HE.out hbel⟩
              · have hE := len_long (128 + k) b h128 hbad (by omega) (by rw [show 128 + k - 128 = k by omega]; exact hgood)
                rw [show 128 + k - 128 = k by omega] at hE
                have HE := Lib.hid hE
                clear hE
                generalize beV (b.take k) = v at *
                generalize b.getD 0 0 = x at *
                have hx0 : (x : Int) ≠ 0 := by omega
                have hv0 : (128 : Int) ≤ (v : Int) := by omega
                go_wp2_with (go_at_call 57; refine (must_t (by first | (simp; omega) | (simp; done) | rfl) _ _).mono ?_; rintro e w' ⟨rfl, rfl⟩)
                go_quiet (fail)
                go_wp2
                · go_ret2
                  have e1 : c' = k := by omega
                  exact LenIs.good HE.out (below_drewN hbel nq) (by simp; omega) (by have := (bin_drop HR.out (f := k) (by omega) (by omega) (some ⟨B, off + 1, none⟩) (.inl ⟨rfl, by omega⟩)).below (below_drewN (Below.refl _ _) nq); simp only [Nat.add_sub_cancel] at this; rwa [show c' - k = 0 by omega] at this)
                · go_ret2
                  exact LenIs.good HE.out (below_drewN hbel nq) (by simp; omega) (by have := (bin_drop HR.out (f := k) (by omega) (by omega) (some ⟨B, off + 1 + k, none⟩) (.inr rfl)).below (below_drewN (Below.refl _ _) nq); simpa only [Nat.add_sub_cancel] using this)
end Go.Proofs.YtbabpmncdphnjaaGreat
namespace Go.Proofs.YtbabpmncdphnjaaGreat
open Go.RowKit
set_option linter.unusedVariables false
set_option maxRecDepth 100000
set_option maxHeartbeats 400000 in
theorem clone_any (a : Option Addr) (n c : Nat) (l : List Nat) (w : World) (h : BIn w a n c l) : Calls Tryz.prog 95 #[.slice a n c] w (Made l w) := by
  have H := Lib.hid h
  rcases a with _ | ad
  · obtain ⟨⟨hl, _⟩, hc1, _, _, hnil⟩ := h
    obtain rfl : c = 0 := hnil rfl
    obtain rfl : n = 0 := by omega
    obtain rfl : l = [] := List.eq_nil_of_length_eq_zero hl
    have hnil := fun (w : World) => Lib.run_eql_slice_nil (P := Tryz.prog) w 22 5 none 0 0 0 0 Tryz.underlying22
    go_enter Tryz.func95, Tryz.ntmps95
    go_wp2
    go_ret
    exact ⟨_, rfl, World.ownsRow_nil _ _ _ _, Below.refl _ _⟩
  · clear h
    have hnil := fun (w : World) => Lib.run_eql_slice_nil (P := Tryz.prog) w 22 5 (some ad) n c 0 0 Tryz.underlying22
    go_enter Tryz.func95, Tryz.ntmps95
    go_wp2_with (at_builtin; refine wpList_append_bytes _ rfl (.tmp 5) (.tmp 6) rfl w.heap.size _ 0 [] rfl (zero_row w) (some ad) n c l rfl (H.out.below ((Below.refl _ _).alloc (Nat.le_refl _) _)) (by have := H.out.2.2.2.1; omega) (by simp) ?_)
    intro v' w' hown hg
    go_wp2
    go_ret
    refine ⟨v', rfl, ?_, ((Below.refl _ _).alloc (Nat.le_refl _) _).grown hg (by simp) (by simp [Value.ownBlock])⟩
    have : l.length = n := H.out.1.1
    rw [this]
    simpa using hown
end Go.Proofs.YtbabpmncdphnjaaGreat
namespace Go.Proofs.YtbabpmncdphnjaaGreat
open Go.RowKit
set_option linter.unusedVariables false
set_option maxRecDepth 100000
def RdIs (ain : Option Addr) (R : Except Nat (Nat × List Nat × Tr × List Nat)) (w : World) (e : Ending) (w' : World) : Prop :=
  Below w.heap.size w w' ∧ match R with
  | .error c => e = boom c
  | .ok (t, b, k, r) => ∃ v1 v2 a c L, e = .returned (.tuple #[.agg #[.int .u8 (t : Nat), v1, v2], .slice a r.length c]) ∧ OwnV w' w.heap.size (.node t b k .nil) [.int .u8 (t : Nat), v1, v2] L ∧ L.Nodup ∧ BIn w' a r.length c r ∧ ∀ B f, ain = some ⟨B, f, none⟩ → ∃ o, a = some ⟨B, o, none⟩
def RaIs (R : Except Nat Tr) (w : World) (e : Ending) (w' : World) : Prop :=
  Below w.heap.size w w' ∧ match R with
  | .error c => e = boom c
  | .ok T => ∃ v ys L, e = .returned v ∧ T.len ≤ 1048576 ∧ w'.ownsRow w.heap.size 45 3 v T.len ys ∧ OwnV w' w.heap.size T ys L ∧ (ob v ++ L).Nodup
theorem RdIs.err {ain : Option Addr} {R : Except Nat (Nat × List Nat × Tr × List Nat)} {w : World} {c : Nat} (h : R = .error c) {w' : World} (hb : Below w.heap.size w w') : RdIs ain R w (boom c) w' := by subst h; exact ⟨hb, rfl⟩
theorem length_bad {l : List Nat} {x : Nat} (h : lenE l = .error x) (w : World) (a : Option Addr) (n c : Nat) (hin : BIn w a n c l) : Calls Tryz.prog 92 #[.slice a n c] w fun e w' => e = boom x ∧ Below w.heap.size w w' := by
  refine (length_any w a n c l hin).mono fun e w' ⟨h1, h2⟩ => ?_
  rw [h] at h2; exact ⟨h2, h1⟩
theorem length_good {l : List Nat} {v : Nat} {r : List Nat} (h : lenE l = .ok (v, r)) (w : World) (a : Option Addr) (n c : Nat) (hin : BIn w a n c l) : Calls Tryz.prog 92 #[.slice a n c] w fun e w' => ∃ B f o c, a = some ⟨B, f, none⟩ ∧ e = .returned (.tuple #[.int .i64 (v : Nat), .slice (some ⟨B, o, none⟩) r.length c]) ∧ BIn w' (some ⟨B, o, none⟩) r.length c r ∧ Below w.heap.size w w' := by
  refine (length_any w a n c l hin).mono fun e w' ⟨h1, h2⟩ => ?_
  rw [h] at h2; obtain ⟨B, f, o, c, h0, h3, h4⟩ := h2; exact ⟨B, f, o, c, h0, h3, h4, h1⟩
theorem rd_deep (f d : Nat) (l : List Nat) (h : 16 < d) : rd (f + 1) d l = .error 125 := by simp [rd, h]
theorem rd_end (f d : Nat) (h : ¬ 16 < d) : rd (f + 1) d [] = .error 122 := by simp [rd, h]
theorem rd_tag (f d t : Nat) (b : List Nat) (h : ¬ 16 < d) (h1 : t % 32 = 31) : rd (f + 1) d (t :: b) = .error 123 := by simp [rd, h, h1]
theorem rd_lenbad (f d t : Nat) (b : List Nat) (x : Nat) (h : ¬ 16 < d) (h1 : ¬ t % 32 = 31) (h2 : lenE b = .error x) : rd (f + 1) d (t :: b) = .error x := by simp [rd, h, h1, h2]
theorem rd_short (f d t : Nat) (b : List Nat) (n : Nat) (c : List Nat) (h : ¬ 16 < d) (h1 : ¬ t % 32 = 31) (h2 : lenE b = .ok (n, c)) (h3 : c.length < n) : rd (f + 1) d (t :: b) = .error 122 := by simp [rd, h, h1, h2, h3]
theorem rd_kidsE (f d t : Nat) (b : List Nat) (n : Nat) (c : List Nat) (x : Nat) (h : ¬ 16 < d) (h1 : ¬ t % 32 = 31) (h2 : lenE b = .ok (n, c)) (h3 : ¬ c.length < n) (h4 : t / 32 % 2 = 1) (h5 : rdA f (d + 1) (c.take n) = .error x) :
    rd (f + 1) d (t :: b) = .error x := by simp only [rd, if_neg h, if_neg h1, h2, if_neg h3, if_pos h4, h5]
theorem rd_kidsK (f d t : Nat) (b : List Nat) (n : Nat) (c : List Nat) (k : Tr) (h : ¬ 16 < d) (h1 : ¬ t % 32 = 31) (h2 : lenE b = .ok (n, c)) (h3 : ¬ c.length < n) (h4 : t / 32 % 2 = 1) (h5 : rdA f (d + 1) (c.take n) = .ok k) :
    rd (f + 1) d (t :: b) = .ok (t, [], k, c.drop n) := by simp only [rd, if_neg h, if_neg h1, h2, if_neg h3, if_pos h4, h5]
theorem rd_body (f d t : Nat) (b : List Nat) (n : Nat) (c : List Nat) (h : ¬ 16 < d) (h1 : ¬ t % 32 = 31) (h2 : lenE b = .ok (n, c)) (h3 : ¬ c.length < n) (h4 : ¬ t / 32 % 2 = 1) :
    rd (f + 1) d (t :: b) = .ok (t, c.take n, .nil, c.drop n) := by simp only [rd, if_neg h, if_neg h1, h2, if_neg h3, if_neg h4]
theorem RdIs.good {B f : Nat} {R : Except Nat (Nat × List Nat × Tr × List Nat)} {w : World} {t : Nat} {b : List Nat} {k : Tr} {r : List Nat} (h : R = .ok (t, b, k, r)) {w' : World} (hb : Below w.heap.size w w') {v1 v2 : Value} {a : Option Addr} {n c : Nat} {L : List Nat} (hn : r.length = n)
    (h1 : OwnV w' w.heap.size (.node t b k .nil) [.int .u8 (t : Nat), v1, v2] L) (h2 : L.Nodup) (h3 : BIn w' a n c r) (h4 : ∃ o, a = some ⟨B, o, none⟩) : RdIs (some ⟨B, f, none⟩) R w (.returned (.tuple #[.agg #[.int .u8 (t : Nat), v1, v2], .slice a n c])) w' := by
  subst h hn; exact ⟨hb, v1, v2, a, c, L, rfl, h1, h2, h3, fun B' f' e => by injection e with e; injection e with e _; subst e; exact h4⟩
theorem ra_bad {R : Except Nat Tr} {x : Nat} (h : R = .error x) {args : Array Value} {w : World} (hc : Calls Tryz.prog 94 args w (RaIs R w)) : Calls Tryz.prog 94 args w fun e w' => e = boom x ∧ Below w.heap.size w w' := by
  subst h; exact hc.mono fun e w' h => ⟨h.2, h.1⟩
theorem ra_good {R : Except Nat Tr} {T : Tr} (h : R = .ok T) {args : Array Value} {w : World} (hc : Calls Tryz.prog 94 args w (RaIs R w)) : Calls Tryz.prog 94 args w fun e w' => ∃ v ys L, e = .returned v ∧ T.len ≤ 1048576 ∧ w'.ownsRow w.heap.size 45 3 v T.len ys ∧ OwnV w' w.heap.size T ys L ∧ (ob v ++ L).Nodup ∧ Below w.heap.size w w' := by
  subst h; exact hc.mono fun e w' h => by
    obtain ⟨v, ys, L, h1, h2, h3, h4, h5⟩ := h.2
    exact ⟨v, ys, L, h1, h2, h3, h4, h5, h.1⟩
set_option maxRecDepth 100000 in
set_option maxHeartbeats 4000000 in
theorem read_step (f : Nat) (IH : ∀ (d : Nat) (l : List Nat) (w : World) (a : Option Addr) (n c : Nat), l.length + 2 ≤ f → l.length ≤ 65536 → d ≤ 65536 → BIn w a n c l → Calls Tryz.prog 94 #[.slice a n c, .int .i64 (d : Nat)] w (RaIs (rdA f d l) w))
    (d : Nat) (l : List Nat) (w : World) (a : Option Addr) (n c : Nat) (hf : l.length ≤ f) (hl : l.length ≤ 65536) (hd : d ≤ 65536) (hin : BIn w a n c l) :
    Calls Tryz.prog 58 #[.slice a n c, .int .i64 (d : Nat)] w (RdIs a (rd (f + 1) d l) w) := by
  have hn : l.length = n := hin.1.1
  have hnc := hin.2.1
  have h0 := fun o => (Below.refl _ w).alloc (Nat.le_refl _) o
  by_cases hdp : 16 < d
  · have hdi : ¬ (d : Int) ≤ 16 := by omega
    clear hin
    go_enter Tryz.func58, Tryz.ntmps58
    go_wp2_with (go_at_call 57; refine (must_f (by first | (simp; omega) | (simp; done) | rfl) _ _).mono ?_; rintro e w' ⟨rfl, rfl⟩)
    exact ⟨rfl, RdIs.err (rd_deep f d l hdp) (h0 _)⟩
  have hdi : (d : Int) ≤ 16 := by omega
  cases l with
  | nil =>
    obtain rfl : n = 0 := by simpa using hn.symm
    clear hin hn
    go_enter Tryz.func58, Tryz.ntmps58
    go_wp2_with (first | (go_at_call 57; refine (must_t (by first | (simp; omega) | (simp; done) | rfl) _ _).mono ?_; rintro e w' ⟨rfl, rfl⟩) | (go_at_call 57; refine (must_f (by first | (simp; omega) | (simp; done) | rfl) _ _).mono ?_; rintro e w' ⟨rfl, rfl⟩))
    exact ⟨rfl, RdIs.err (rd_end f d hdp) (h0 _)⟩
  | cons t y =>
    obtain ⟨B, off, rfl, hc⟩ := hin.1.2.2.2.resolve_left (by simp at hn; omega)
    have ht : t < 256 := hin.1.2.2.1 t (by simp)
    have c0 := hc 0 (by simp at hn; omega)
    simp at c0
    have hn1 : y.length + 1 = n := by simpa using hn
    have HI := Lib.hid hin
    have h1 : ∀ o, (w.alloc o).cell? ⟨B, off, none⟩ = some (.int .u8 (t : Nat)) := fun o => ((h0 o).cell (World.block_lt_of_cell? w _ c0)).trans c0
    have hBw : B < w.heap.size := World.block_lt_of_cell? w _ c0
    clear hin hc
    have hn0 : (0 : Int) < (n : Int) := by omega
    by_cases htag : t % 32 = 31
    · go_enter Tryz.func58, Tryz.ntmps58
      go_wp2_with (first | (go_at_call 57; refine (must_t (by first | (simp; omega) | (simp; done) | rfl) _ _).mono ?_; rintro e w' ⟨rfl, rfl⟩) | (go_at_call 91; refine (isTag_any t ht _).mono ?_; rintro e w' ⟨rfl, rfl⟩) | (go_at_call 57; refine (must_f (by first | (simp; omega) | (simp; done) | rfl) _ _).mono ?_; rintro e w' ⟨rfl, rfl⟩))
      exact ⟨rfl, RdIs.err (rd_tag f d t y hdp htag) (h0 _)⟩
    by_cases hc1 : c = 1
    · obtain rfl : n = 1 := by omega
      obtain rfl : y = [] := List.eq_nil_of_length_eq_zero (by omega)
      have HE := Lib.hid (rd_lenbad f d t [] 122 hdp htag rfl)
      subst hc1
      go_enter Tryz.func58, Tryz.ntmps58
      go_wp2_with (first | (go_at_call 57; refine (must_t (by first | (simp; omega) | (simp; done) | rfl) _ _).mono ?_; rintro e w' ⟨rfl, rfl⟩) | (go_at_call 91; refine (isTag_any t ht _).mono ?_; rintro e w' ⟨rfl, rfl⟩) | (go_at_call 92; refine (length_bad (l := []) (x := 122) rfl _ _ _ _ (bin_empty _ _ _ (by simp) (fun h => by cases h))).mono ?_; rintro e w' ⟨rfl, hbel⟩))
      exact ⟨rfl, RdIs.err HE.out ((h0 _).trans (hbel.mono (by simp)))⟩
    have hbin : ∀ w', Below w.heap.size w w' → BIn w' (some ⟨B, off + 1, none⟩) (n - 1) (c - 1) y := fun w' hb => by
      have := (bin_drop HI.out (f := 1) (by omega) (by omega) (some ⟨B, off + 1, none⟩) (.inr rfl)).below hb; simpa using this
    have HB := Lib.hid hbin
    clear hbin
    cases hE : lenE y with
    | error x =>
      have HE := Lib.hid hE
      clear hE
      go_enter Tryz.func58, Tryz.ntmps58
      go_wp2_with (first | (go_at_call 57; refine (must_t (by first | (simp; omega) | (simp; done) | rfl) _ _).mono ?_; rintro e w' ⟨rfl, rfl⟩) | (go_at_call 91; refine (isTag_any t ht _).mono ?_; rintro e w' ⟨rfl, rfl⟩) | (go_at_call 92; refine (length_bad HE.out _ _ _ _ (HB.out _ (h0 _))).mono ?_; rintro e w' ⟨rfl, hbel⟩))
      exact ⟨rfl, RdIs.err (rd_lenbad f d t y x hdp htag HE.out) ((h0 _).trans (hbel.mono (by simp)))⟩
    | ok p =>
      obtain ⟨v, r⟩ := p
      have HE := Lib.hid hE
      have hrl := lenE_some hE
      clear hE
      have hvi : v < 4294967296 ∨ True := .inr trivial
      by_cases hs : r.length < v
      · go_enter Tryz.func58, Tryz.ntmps58
        go_wp2_with (first | (go_at_call 57; refine (must_t (by first | (simp; omega) | (simp; done) | rfl) _ _).mono ?_; rintro e w' ⟨rfl, rfl⟩) | (go_at_call 91; refine (isTag_any t ht _).mono ?_; rintro e w' ⟨rfl, rfl⟩) | (go_at_call 92; refine (length_good HE.out _ _ _ _ (HB.out _ (h0 _))).mono ?_; rintro e w' ⟨B1, f1, o1, c1, hB1, rfl, hb1, hbel⟩; injection hB1 with hB1; injection hB1 with hB1 hf1; subst hB1; clear hf1) | (go_at_call 57; refine (must_f (by first | (simp; omega) | (simp; done) | rfl) _ _).mono ?_; rintro e w' ⟨rfl, rfl⟩))
        exact ⟨rfl, RdIs.err (rd_short f d t y v r hdp htag HE.out hs) ((h0 _).trans (hbel.mono (by simp)))⟩
      have hvr : (v : Int) ≤ (r.length : Int) := by omega
      go_enter Tryz.func58, Tryz.ntmps58
      go_wp2_with (first | (go_at_call 57; refine (must_t (by first | (simp; omega) | (simp; done) | rfl) _ _).mono ?_; rintro e w' ⟨rfl, rfl⟩) | (go_at_call 91; refine (isTag_any t ht _).mono ?_; rintro e w' ⟨rfl, rfl⟩) | (go_at_call 92; refine (length_good HE.out _ _ _ _ (HB.out _ (h0 _))).mono ?_; rintro e w' ⟨B1, f1, o1, c1, hB1, rfl, hb1, hbel⟩; injection hB1 with hB1; injection hB1 with hB1 hf1; subst hB1; clear hf1))
      have D := Blk.below' (Blk.new w 45 [.int .u8 0, .slice none 0 0, .slice none 0 0]) hbel
      have hbw := (h0 (.cells #[.int .u8 0, .slice none 0 0, .slice none 0 0] 45)).trans (hbel.mono (by simp))
      have hsz := hbel.size
      simp only [World.size_alloc] at hsz
      clear hbel
      have hrc := hb1.2.1
      have hvc : (v : Int) ≤ (c1 : Int) := by omega
      go_quiet (fail)
      have DD := Lib.hid (D.drewN nq)
      have hbq := Lib.hid (below_drewN hbw nq)
      have hsq : w.heap.size + 1 ≤ (w'.drewN nq).heap.size := hsz
      have HT := Lib.hid (bin_headZ (f := v) hb1 (by omega))
      have HD := Lib.hid (fun (A : Option Addr) (hA : A = some ⟨B, o1, none⟩ ∧ r.length - v = 0 ∨ A = some ⟨B, o1 + v, none⟩) (cc : Nat) (hcc : cc = c1 - v) (wx : World) (hbx : Below (w'.drewN nq).heap.size (w'.drewN nq) wx) => (by rw [hcc]; exact ((bin_dropZ hb1 (f := v) (by omega) A hA).below (below_drewN (Below.refl _ _) nq)).below hbx : BIn wx A (r.length - v) cc (r.drop v)))
      have HT2 := Lib.hid (HT.out.below (below_drewN (Below.refl _ _) nq))
      clear hb1 D hbw hsz HT
      generalize w'.drewN nq = wq at *
      by_cases hkd : t / 32 % 2 = 1
      · have hlen : (r.take v).length = v := by simp; omega
        have hC := IH (d + 1) (r.take v) wq (some ⟨B, o1, none⟩) v c1 (by simp at hf; omega) (by simp at hl; omega) (by omega) HT2.out
        rw [show (((d + 1 : Nat)) : Int) = (d : Int) + 1 by omega] at hC
        cases hR : rdA f (d + 1) (r.take v) with
        | error x =>
          rw [hR] at hC
          have HC := Lib.hid (ra_bad rfl hC)
          have HE2 := Lib.hid (rd_kidsE f d t y v r x hdp htag HE.out hs hkd hR)
          clear hC hR IH
          go_wp2_with (first | (go_at_call 93; refine (hasKids_any t ht _).mono ?_; rintro e w' ⟨rfl, rfl⟩) | (go_at_call 94; refine HC.out.mono ?_; rintro e w2 ⟨rfl, hb2⟩))
          all_goals exact ⟨rfl, RdIs.err HE2.out (hbq.out.trans (hb2.mono hbq.out.size))⟩
        | ok T =>
          rw [hR] at hC
          have HC := Lib.hid (ra_good rfl hC)
          have HE2 := Lib.hid (rd_kidsK f d t y v r T hdp htag HE.out hs hkd hR)
          clear hC hR IH
          go_wp2_with (first | (go_at_call 93; refine (hasKids_any t ht _).mono ?_; rintro e w' ⟨rfl, rfl⟩) | (go_at_call 94; refine HC.out.mono ?_; rintro e w2 ⟨vv, ys, L, rfl, hT, hown, hV, hND, hb2⟩; obtain ⟨a2, c2, rfl⟩ := own_slice hown; have HO := Lib.hid hown; have HV := Lib.hid hV; have HN := Lib.hid hND; have D2 := Lib.hid (DD.out.below' hb2); clear hown hV hND) | (refine wpList_store_row (P := Tryz.prog) rfl 45 (.tmp 4) (.tmp 47) rfl w.heap.size #[.int .u8 (t : Nat), .slice none 0 0, .slice a2 T.len c2] rfl rfl 45 _ D2.out info25 rfl (all_item _ _ _ _ _ _ _) ?_))
          all_goals
            have D3 := D2.out.setRow [.int .u8 (t : Nat), .slice none 0 0, .slice a2 T.len c2]
            have hb9 := below_setRow' (hbq.out.trans (hb2.mono hbq.out.size)) (Nat.le_refl w.heap.size) #[.int .u8 (t : Nat), .slice none 0 0, .slice a2 T.len c2]
            have hlt := HV.out.lt
            have hkeep : ∀ g, wq.heap.size ≤ g → (w2.setRow w.heap.size #[.int .u8 (t : Nat), .slice none 0 0, .slice a2 T.len c2]).heap[g]? = w2.heap[g]? := fun g hg => setRow_other w2 w.heap.size g _ (by omega)
            have hO2 := ownsMono (own_keep HO.out fun g hg => hkeep g (own_ob_lt HO.out g hg).1) hbq.out.size
            have hV2 := (HV.out.keep fun g hg => hkeep g (hlt g hg).1).mono hbq.out.size
            have hI := OwnV.mk (t := t) (b := []) (k := T) ht (by simp) (by simp) hT (World.ownsRow_nil _ _ _ _) hO2 hV2
            refine bodyPost_ret (results_two Tryz.results58 _ _ w.heap.size 45 _ (0, 0) _ _ rfl rfl D3 Tryz.underlying45 rfl info25) rfl ?_
            have hbn := fun A hA cc hcc => (HD.out A hA cc hcc w2 hb2).grown (grown_setRow w2 w.heap.size #[.int .u8 (t : Nat), .slice none 0 0, .slice a2 T.len c2]) (fun b hb _ => by rcases hA with ⟨rfl, _⟩ | rfl <;> (injection hb with hb; subst hb; simp; omega))
            refine RdIs.good HE2.out hb9 (by simp) hI HN.out (hbn _ ?_ _ ?_) ⟨_, rfl⟩
            · first
                | exact .inr rfl
                | exact .inl ⟨rfl, by omega⟩
            · omega
      · have hlen : (r.take v).length = v := by simp; omega
        have hxs : ∀ x ∈ r.take v, x < 256 := HT2.out.1.2.2.1
        have hC := clone_any (some ⟨B, o1, none⟩) v c1 (r.take v) wq HT2.out
        have HC := Lib.hid hC
        have HE2 := Lib.hid (rd_body f d t y v r hdp htag HE.out hs hkd)
        have HXS := Lib.hid hxs
        clear hC IH hxs
        have HT3 := Lib.hid hlen
        generalize r.take v = xs at *
        clear hlen
        go_wp2_with (first | (go_at_call 93; refine (hasKids_any t ht _).mono ?_; rintro e w' ⟨rfl, rfl⟩) | (go_at_call 95; refine HC.out.mono ?_; rintro e w2 ⟨vv, rfl, hown, hb2⟩; rw [HT3.out] at hown; obtain ⟨a2, c2, rfl⟩ := own_slice hown; have HO := Lib.hid hown; have D2 := Lib.hid (DD.out.below' hb2); clear hown) | (refine wpList_store_row (P := Tryz.prog) rfl 45 (.tmp 4) (.tmp 52) rfl w.heap.size #[.int .u8 (t : Nat), .slice a2 v c2, .slice none 0 0] rfl rfl 45 _ D2.out info25 rfl (all_item _ _ _ _ _ _ _) ?_))
        all_goals
          have D3 := D2.out.setRow [.int .u8 (t : Nat), .slice a2 v c2, .slice none 0 0]
          have hb9 := below_setRow' (hbq.out.trans (hb2.mono hbq.out.size)) (Nat.le_refl w.heap.size) #[.int .u8 (t : Nat), .slice a2 v c2, .slice none 0 0]
          have hO2 := ownsMono (own_keep HO.out fun g hg => setRow_other w2 w.heap.size g #[.int .u8 (t : Nat), .slice a2 v c2, .slice none 0 0] (by have := (own_ob_lt HO.out g hg).1; omega)) hbq.out.size
          have hI := OwnV.mk (t := t) (b := xs) (k := .nil) (L1 := []) ht HXS.out (by rw [HT3.out]; simp at hl; omega) (Nat.zero_le _) (by rw [HT3.out]; exact hO2) (World.ownsRow_nil _ _ _ _) ⟨rfl, rfl⟩
          refine bodyPost_ret (results_two Tryz.results58 _ _ w.heap.size 45 _ (0, 0) _ _ rfl rfl D3 Tryz.underlying45 rfl info25) rfl ?_
          have hbn := fun A hA cc hcc => (HD.out A hA cc hcc w2 hb2).grown (grown_setRow w2 w.heap.size #[.int .u8 (t : Nat), .slice a2 v c2, .slice none 0 0]) (fun b hb _ => by rcases hA with ⟨rfl, _⟩ | rfl <;> (injection hb with hb; subst hb; simp; omega))
          refine RdIs.good HE2.out hb9 (by simp) hI ?_ (hbn _ ?_ _ ?_) ⟨_, rfl⟩
          · cases a2 <;> simp [ob, Value.ownBlock]
          · first
              | exact .inr rfl
              | exact .inl ⟨rfl, by omega⟩
          · omega
end Go.Proofs.YtbabpmncdphnjaaGreat
