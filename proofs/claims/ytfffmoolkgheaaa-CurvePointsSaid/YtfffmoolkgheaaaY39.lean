/- Parts of proofs of statements, each text behind those that it stands on. No condition of its own. -/
import Derived.Test.YtfffmoolkgheaaaY19
import Derived.Test.YtfffmoolkgheaaaY20
import Derived.Test.YtfffmoolkgheaaaY21
import Derived.Test.YtfffmoolkgheaaaY28
import Derived.Test.YtfffmoolkgheaaaY38
namespace Go.Proofs.Ytfffmoolkgheaaa
open Go.RowKit
set_option linter.unusedVariables false
noncomputable def decB (n l0 x y : Nat) : List Nat × List Nat × Int :=
  if n = 65 ∧ l0 = 4 then
    if onB x y false = true then (wds 4 x, wds 4 y, 0) else (zeros 4, zeros 4, 62)
  else if n = 33 ∧ (l0 = 2 ∨ l0 = 3) then
    open Classical in
    if x < mP ∧ OkR (rsF (fv x)).val then
      if l0 = 3 then (wds 4 x, nw (-(fv (rN (rsF (fv x)).val))), 0) else (wds 4 x, nw (fv (rN (rsF (fv x)).val)), 0)
    else (zeros 4, zeros 4, 62)
  else (zeros 4, zeros 4, 61)
noncomputable def decA (n : Nat) (l : List Nat) : List Nat × List Nat × Int := decB n (l.getD 0 0) (be ((l.drop 1).take 32)) (be ((l.drop 33).take 32))
noncomputable def decV (n : Nat) (l : List Nat) : Value := .tuple #[.agg (pv (decA n l).1 (decA n l).2.1 false).toArray, .int .i64 (decA n l).2.2]
theorem be32_lt {w : World} {A : Option Addr} {c : Nat} {l : List Nat} (h : BIn w A 32 c l) : be l < 2 ^ 256 := by
  have h1 := be_lt l h.1.2.2.1
  rw [h.1.1] at h1
  exact h1
theorem neg_g0 {n : Nat} [NeZero n] (y : Fin n) : 0 - y = -y := by grobner
theorem neg_val0 (y : FP) : (0 + mP - y.val) % mP = (-y : FP).val := by
  rw [← neg_g0, sub_val, zero_val]
theorem root_ne (x : FP) (h : OkR (rsF x).val) : rN (rsF x).val ≠ 0 := by
  intro h0
  have h1 := rN_sq _ h
  rw [h0, Nat.zero_mul, Nat.zero_mod] at h1
  have h2 : rsF x = 0 := Fin.ext h1.symm
  exact no_root x h2
theorem fv_small {r : Nat} (h : r < mP) : (fv r).val = r := by rw [fv_val, Nat.mod_eq_of_lt h]
theorem neg_odd {r : Nat} (h : r < mP) (h0 : r ≠ 0) (he : r % 2 = 0) : (-(fv r) : FP).val % 2 = 1 := by
  rw [← neg_val0, fv_small h, Nat.mod_eq_of_lt (show 0 + mP - r < mP by omega)]
  have hm : mP % 2 = 1 := by decide
  omega
theorem wds_head (v : Nat) : ∃ y0, (wds 4 v)[0]? = some y0 ∧ y0 % 2 = v % 2 := by
  have hl := wds_len 4 v
  have h1 := wds_at 4 v 0 (by omega)
  rw [List.getD_eq_getElem?_getD] at h1
  rw [List.getElem?_eq_getElem (by omega)] at h1 ⊢
  refine ⟨_, rfl, ?_⟩
  have h2 : (wds 4 v)[0]'(by omega) = dgt (2 ^ 64) v 0 := h1
  rw [h2]
  unfold dgt
  rw [Nat.pow_zero, Nat.div_one]
  omega
theorem k_croot (f : FP) (h : OkR f.val) : Ans 113 #[.agg (natsV .u64 (cw f)).toArray] (.tuple #[.agg (natsV .u64 (cw (fv (rN f.val)))).toArray, .bool true]) := fun w => by
  have k := fun w => Root_good (toF mP f.val) w (toF_lt fld_P _) (by rw [fld_P.of_to, Nat.mod_eq_of_lt f.isLt]; exact h)
  rw [fld_P.of_to, Nat.mod_eq_of_lt f.isLt] at k
  have e : cw (fv (rN f.val)) = wds 4 (toF mP (rN f.val)) := by unfold cw; rw [toF_val]
  rw [e]
  exact croot_ok (cw_len f) (wds_len 4 _) k w
theorem k_croot_no (f : FP) (h : ¬ OkR f.val) : Ans 113 #[.agg (natsV .u64 (cw f)).toArray] (.tuple #[.agg (natsV .u64 (zeros 4)).toArray, .bool false]) := fun w =>
  croot_no (cw_len f) (fun w => Root_no (toF mP f.val) w (Nat.lt_trans (toF_lt fld_P _) fld_P.lt) (by rw [fld_P.of_to, Nat.mod_eq_of_lt f.isLt]; exact fun k => h k.2)) w
theorem k_part {w : World} {b o n c f : Nat} {l : List Nat} (hB : BIn w (some ⟨b, o, none⟩) n c l) (hn : 0 < n) (hf : f + 32 ≤ n) (W : World) (hW : Below w.heap.size w W) :
    Calls Try.prog 112 #[.slice (some ⟨b, o + f, none⟩) 32 (c - f)] W fun e w' => e = .returned (.tuple #[.agg (natsV .u64 (wds 4 (be ((l.drop f).take 32)))).toArray, .int .i64 0]) ∧ Below W.heap.size W w' :=
  Of_any (some ⟨b, o + f, none⟩) 32 (c - f) _ W (by omega) (bin_sub (hB.below hW) hn hf)
theorem d_part {w : World} {b o n c f : Nat} {l : List Nat} (hB : BIn w (some ⟨b, o, none⟩) n c l) (hn : 0 < n) (hf : f + 32 ≤ n) (W : World) (hW : Below w.heap.size w W) :
    Calls Try.prog 78 #[.slice (some ⟨b, o + f, none⟩) 32 (c - f)] W fun e w' => e = .returned (.agg (natsV .u64 (wds 4 (be ((l.drop f).take 32)))).toArray) ∧ Below W.heap.size W w' :=
  refOf_any (some ⟨b, o + f, none⟩) (c - f) _ W (bin_sub (hB.below hW) hn hf)
theorem k_dec {w : World} {A : Option Addr} {n c : Nat} {l : List Nat} (hB : BIn w A n c l) :
    Calls Try.prog 36 #[.slice A n c] w fun e w' => e = .returned (decV n l) ∧ Below w.heap.size w w' := by
  unfold decV
  by_cases h1 : n = 65 ∧ l.getD 0 0 = 4
  · obtain ⟨rfl, h0⟩ := h1
    obtain ⟨b, o, rfl, _⟩ := hB.1.2.2.2.resolve_left (by omega)
    have hc := hB.2.1
    have hcm := hB.2.2.1
    have e3 : o + 33 = o + 1 + 32 := by omega
    have e4 : c - 33 = c - 1 - 32 := by omega
    have p1 := k_part hB (by omega) (f := 1) (by omega)
    have p2 := k_part hB (by omega) (f := 33) (by omega)
    have x1 := be32_lt (bin_sub hB (by omega) (f := 1) (s := 32) (by omega))
    have x2 := be32_lt (bin_sub hB (by omega) (f := 33) (s := 32) (by omega))
    rw [e3, e4] at p2
    unfold decA decB
    rw [if_pos ⟨rfl, h0⟩]
    generalize be ((l.drop 1).take 32) = x at *
    generalize be ((l.drop 33).take 32) = y at *
    have ho := k_on x y false x1 x2
    by_cases hon : onB x y false = true
    · rw [if_pos hon]
      rw [hon] at ho
      exact dec_whole w (wds_len 4 x) (wds_len 4 y) hB h0 (fun W hW => whole_ok W (wds_len 4 x) (wds_len 4 y) (by omega) (by omega) (fun V hV => p1 V (gr_bel hW hV)) (fun V hV => p2 V (gr_bel hW hV)) ho)
    · rw [if_neg hon]
      rw [Bool.eq_false_iff.2 hon] at ho
      exact dec_whole w rfl rfl hB h0 (fun W hW => whole_no W (wds_len 4 x) (wds_len 4 y) (by omega) (by omega) (fun V hV => p1 V (gr_bel hW hV)) (fun V hV => p2 V (gr_bel hW hV)) ho)
  · by_cases h2 : n = 33 ∧ (l.getD 0 0 = 2 ∨ l.getD 0 0 = 3)
    · obtain ⟨rfl, h0⟩ := h2
      obtain ⟨b, o, rfl, _⟩ := hB.1.2.2.2.resolve_left (by omega)
      have hc := hB.2.1
      have hcm := hB.2.2.1
      have p1 := k_part hB (by omega) (f := 1) (by omega)
      have x1 := be32_lt (bin_sub hB (by omega) (f := 1) (s := 32) (by omega))
      unfold decA decB
      rw [if_neg h1, if_pos ⟨rfl, h0⟩]
      generalize be ((l.drop 1).take 32) = x at *
      have go : ∀ (X Y : List Nat) (e : Int), X.length = 4 → Y.length = 4 → (∀ W, Below w.heap.size w W → Calls Try.prog 77 #[.slice (some ⟨b, o + 1, none⟩) 32 (c - 1), .bool (decide (l.getD 0 0 = 3))] W fun e' w' => e' = .returned (.tuple #[.agg (pv X Y false).toArray, .int .i64 e]) ∧ Below W.heap.size W w') →
          Calls Try.prog 36 #[.slice (some ⟨b, o, none⟩) 33 c] w fun e' w' => e' = .returned (.tuple #[.agg (pv X Y false).toArray, .int .i64 e]) ∧ Below w.heap.size w w' := by
        intro X Y e hX hY k
        rcases h0 with h0 | h0
        · rw [h0, decide_eq_false (by decide)] at k
          exact dec_packed2 w hX hY hB h0 k
        · rw [h0, decide_eq_true rfl] at k
          exact dec_packed3 w hX hY hB h0 k
      have hbl := cbelow_any x x1
      by_cases hx : x < mP
      · have hbl2 : Ans 70 #[.agg (natsV .u64 (wds 4 x)).toArray] (.bool true) := fun w => by have k := hbl w; rw [decide_eq_true hx] at k; exact k
        by_cases hr : OkR (rsF (fv x)).val
        · rw [if_pos ⟨hx, hr⟩]
          by_cases h3 : l.getD 0 0 = 3
          · rw [if_pos h3]
            refine go _ _ _ (wds_len 4 x) (nw_len _) (fun W hW => ?_)
            rw [h3, decide_eq_true rfl]
            exact packed_odd W (wds_len 4 x) (cw_len _) (cw_len _) (cw_len _) (cw_len _) (nw_len _) (by omega) (by omega) (fun V hV => p1 V (gr_bel hW hV)) hbl2 (k_of x x1) (k_rs (fv x)) (k_croot _ hr)
              (fun w => by have k := k_sub 0 (fv (rN (rsF (fv x)).val)) w; rw [cw_zero, neg_g0] at k; exact k) (k_num _)
          · rw [if_neg h3]
            refine go _ _ _ (wds_len 4 x) (nw_len _) (fun W hW => ?_)
            rw [decide_eq_false h3]
            exact packed_even W (wds_len 4 x) (cw_len _) (cw_len _) (cw_len _) (nw_len _) (by omega) (by omega) (fun V hV => p1 V (gr_bel hW hV)) hbl2 (k_of x x1) (k_rs (fv x)) (k_croot _ hr) (k_num _)
        · rw [if_neg (fun h => hr h.2)]
          exact go _ _ _ rfl rfl (fun W hW => packed_none W (wds_len 4 x) (cw_len _) (cw_len _) (by omega) (by omega) (fun V hV => p1 V (gr_bel hW hV)) hbl2 (k_of x x1) (k_rs (fv x)) (k_croot_no _ hr))
      · have hbl2 : Ans 70 #[.agg (natsV .u64 (wds 4 x)).toArray] (.bool false) := fun w => by have k := hbl w; rw [decide_eq_false hx] at k; exact k
        rw [if_neg (fun h => hx h.1)]
        exact go _ _ _ rfl rfl (fun W hW => packed_below W (wds_len 4 x) (by omega) (by omega) (fun V hV => p1 V (gr_bel hW hV)) hbl2)
    · unfold decA decB
      rw [if_neg h1, if_neg h2]
      by_cases h65 : n = 65
      · subst h65
        obtain ⟨b, o, rfl, _⟩ := hB.1.2.2.2.resolve_left (by omega)
        exact dec_form_b w hB rfl (fun h => h1 ⟨rfl, h⟩)
      · by_cases h33 : n = 33
        · subst h33
          obtain ⟨b, o, rfl, _⟩ := hB.1.2.2.2.resolve_left (by omega)
          exact dec_form_c w hB rfl (fun h => h2 ⟨rfl, .inl h⟩) (fun h => h2 ⟨rfl, .inr h⟩)
        · exact dec_form_a w h65 h33
theorem d_dec {w : World} {A : Option Addr} {n c : Nat} {l : List Nat} (hB : BIn w A n c l) :
    Calls Try.prog 37 #[.slice A n c] w fun e w' => e = .returned (decV n l) ∧ Below w.heap.size w w' := by
  unfold decV
  have LP := wds_len 4 mP
  by_cases h1 : n = 65 ∧ l.getD 0 0 = 4
  · obtain ⟨rfl, h0⟩ := h1
    obtain ⟨b, o, rfl, _⟩ := hB.1.2.2.2.resolve_left (by omega)
    have p1 := d_part hB (by omega) (f := 1) (by omega)
    have p2 := d_part hB (by omega) (f := 33) (by omega)
    have x1 := be32_lt (bin_sub hB (by omega) (f := 1) (s := 32) (by omega))
    have x2 := be32_lt (bin_sub hB (by omega) (f := 33) (s := 32) (by omega))
    unfold decA decB
    rw [if_pos ⟨rfl, h0⟩]
    generalize be ((l.drop 1).take 32) = x at *
    generalize be ((l.drop 33).take 32) = y at *
    have ho := d_on x y false x1 x2
    by_cases hon : onB x y false = true
    · rw [if_pos hon]
      rw [hon] at ho
      exact ddec_wok w LP (wds_len 4 x) (wds_len 4 y) hB h0 rfl DP_any p1 p2 ho
    · rw [if_neg hon]
      rw [Bool.eq_false_iff.2 hon] at ho
      exact ddec_wno w LP (wds_len 4 x) (wds_len 4 y) hB h0 rfl DP_any p1 p2 ho
  · by_cases h2 : n = 33 ∧ (l.getD 0 0 = 2 ∨ l.getD 0 0 = 3)
    · obtain ⟨rfl, h0⟩ := h2
      obtain ⟨b, o, rfl, _⟩ := hB.1.2.2.2.resolve_left (by omega)
      have p1 := d_part hB (by omega) (f := 1) (by omega)
      have x1 := be32_lt (bin_sub hB (by omega) (f := 1) (s := 32) (by omega))
      unfold decA decB
      rw [if_neg h1, if_pos ⟨rfl, h0⟩]
      generalize be ((l.drop 1).take 32) = x at *
      have hls := fun w => Less_any x mP w x1 fld_P.lt
      by_cases hx : x < mP
      · have hls2 : Ans 64 #[.agg (natsV .u64 (wds 4 x)).toArray, .agg (natsV .u64 (wds 4 mP)).toArray] (.bool true) := fun w => by have k := hls w; rw [decide_eq_true hx] at k; exact k
        have ex : wds 4 x = nw (fv x) := by unfold nw; rw [fv_small hx]
        have hrs : Ans 66 #[.agg (natsV .u64 (wds 4 x)).toArray] (.agg (natsV .u64 (nw (rsF (fv x)))).toArray) := fun w => by rw [ex]; exact d_right (fv x) w
        by_cases hr : OkR (rsF (fv x)).val
        · rw [if_pos ⟨hx, hr⟩]
          have hroot := fun w => DRoot_good (rsF (fv x)).val w (rsF (fv x)).isLt hr
          have hlt := rN_lt (rsF (fv x)).val
          have hev := rN_even (rsF (fv x)).val
          have hne := root_ne (fv x) hr
          have er : nw (fv (rN (rsF (fv x)).val)) = wds 4 (rN (rsF (fv x)).val) := by unfold nw; rw [fv_small hlt]
          rw [← er] at hroot
          rcases h0 with h0 | h0
          · rw [if_neg (by omega)]
            obtain ⟨y0, hy0, hp⟩ := wds_head (rN (rsF (fv x)).val)
            rw [← er] at hy0
            exact ddec_even w LP (wds_len 4 x) (nw_len _) (nw_len _) hB h0 rfl hy0 (by omega) DP_any p1 hls2 hrs hroot
          · rw [if_pos h0]
            have ho := neg_odd hlt hne hev
            obtain ⟨y0, hy0, hp⟩ := wds_head (-(fv (rN (rsF (fv x)).val)) : FP).val
            refine ddec_odd w LP (wds_len 4 x) (nw_len _) (nw_len _) (nw_len _) hB h0 rfl hy0 (by omega) DP_any p1 hls2 hrs hroot (fun w => ?_)
            have k := d_modS 0 (fv (rN (rsF (fv x)).val)) w
            rw [nw_zero, neg_g0] at k
            exact k
        · rw [if_neg (fun h => hr h.2)]
          exact ddec_none w LP (wds_len 4 x) (nw_len _) hB rfl h0 DP_any p1 hls2 hrs (fun w => DRoot_none (rsF (fv x)).val w (rsF (fv x)).isLt hr)
      · have hls2 : Ans 64 #[.agg (natsV .u64 (wds 4 x)).toArray, .agg (natsV .u64 (wds 4 mP)).toArray] (.bool false) := fun w => by have k := hls w; rw [decide_eq_false hx] at k; exact k
        rw [if_neg (fun h => hx h.1)]
        exact ddec_below w LP (wds_len 4 x) hB rfl h0 DP_any p1 hls2
    · unfold decA decB
      rw [if_neg h1, if_neg h2]
      by_cases h65 : n = 65
      · subst h65
        obtain ⟨b, o, rfl, _⟩ := hB.1.2.2.2.resolve_left (by omega)
        exact ddec_fb w LP hB rfl (fun h => h1 ⟨rfl, h⟩) DP_any
      · by_cases h33 : n = 33
        · subst h33
          obtain ⟨b, o, rfl, _⟩ := hB.1.2.2.2.resolve_left (by omega)
          exact ddec_fc w LP hB rfl (fun h => h2 ⟨rfl, .inl h⟩) (fun h => h2 ⟨rfl, .inr h⟩) DP_any
        · exact ddec_fa w LP h65 h33 DP_any
end Go.Proofs.Ytfffmoolkgheaaa
