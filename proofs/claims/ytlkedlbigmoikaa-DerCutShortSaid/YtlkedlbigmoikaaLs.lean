/- The law that what is cut short, or has more behind it, is refused. No condition. -/
import Derived.Test.YtlkedlbigmoikaaCn
import Derived.Test.YtlkedlbigmoikaaCt
import Derived.Deep.DeepAppendWide
namespace Go.Proofs.Ytlkedlbigmoikaa
open Go.RowKit
set_option linter.unusedVariables false
theorem bin_addr {w : World} {a : Option Addr} {n c : Nat} {l : List Nat} (h : BIn w a n c l) (hn : 0 < n) : ∃ B o, a = some ⟨B, o, none⟩ := by
  obtain ⟨B, o, h, _⟩ := h.1.2.2.2.resolve_left (by omega)
  exact ⟨B, o, h⟩

theorem news_bin {w : World} {B o n c : Nat} {l : List Nat} (h : BIn w (some ⟨B, o, none⟩) n c l) : ∀ j u, (bytesV l)[j]? = some u → w.cell? ((⟨B, o, none⟩ : Addr).add j) = some u := by
  intro j u hu
  have hl := h.1.1
  have hj : j < l.length := by
    rcases Nat.lt_or_ge j l.length with h | h
    · exact h
    · rw [List.getElem?_eq_none (by simpa [bytesV] using h)] at hu; cases hu
  obtain ⟨b, off, hA, hc⟩ := h.1.2.2.2.resolve_left (by omega)
  injection hA with hA
  injection hA with e1 e2
  subst e1 e2
  rw [Addr.add_mid, hc j (by omega), ← hu]
  simp [bytesV, List.getD_eq_getElem?_getD, List.getElem?_eq_getElem hj]

set_option maxRecDepth 100000 in
set_option maxHeartbeats 8000000 in
theorem lawCut (w : World) (t : Nat) (b : List Nat) (k : Tr) (a : Option Addr) (c : Nat) (a' : Option Addr) (c' : Nat) (z : Int) (hz : -9223372036854775808 ≤ z ∧ z < 9223372036854775808) (l : List Nat) (al : Option Addr) (nl cl : Nat) (hin : ItIn w t a c a' c' b k) (hlow : k.low 140737488355328) (hbn : b.length ≤ 140737488351232) (hl : BIn w al nl cl l) (hln : nl ≤ 140737488351232) :
    Calls Try.prog 6 #[itV t a b.length c a' k.len c', .int .i64 z, .slice al nl cl] w fun e w' => e = .returned (.bool true) ∧ Below w.heap.size w w' := by
  have hnl : l.length = nl := hl.1.1
  have HW := Lib.hid (Blk.new w 25 [.int .u8 (t : Nat), .slice a b.length c, .slice a' k.len c'])
  have h0 := (Below.refl _ w).alloc (Nat.le_refl _) (.cells #[.int .u8 (t : Nat), .slice a b.length c, .slice a' k.len c'] 25)
  have HIN := Lib.hid (hin.below h0)
  have HM := Lib.hid (hl.below h0)
  have HLOW := Lib.hid hlow
  have HBN := Lib.hid hbn
  have HLN := Lib.hid hln
  have H0 := Lib.hid h0
  have HZ := Lib.hid hz
  clear hin hl hlow hbn hz hln
  go_enter Try.func6, Try.ntmps6
  generalize hW1 : w.alloc (.cells #[.int .u8 (t : Nat), .slice a b.length c, .slice a' k.len c'] 25) = W1 at *
  by_cases hg : 65536 < k.cnt (1 + b.length) 65536
  · have HG := Lib.hid (great_any W1 t b k a c a' c' HIN.out (by have := HBN.out; omega) HLOW.out)
    rw [decide_eq_true hg] at HG
    go_wp2_with (first | (refine wpList_load_row (P := Try.prog) rfl 25 (.tmp 3) rfl w.heap.size rfl 25 _ _ _ HW.out Try.underlying25 rfl info25 ?_) | (go_at_call 16; (with_reducible refine (HG.out).mono ?_); rintro e w2 ⟨rfl, hb2⟩; have HW := Lib.hid (HW.out.below' hb2); have HIN := Lib.hid (HIN.out.below hb2); have HM := Lib.hid (HM.out.below hb2); have H0 := Lib.hid (H0.out.trans (hb2.mono H0.out.size))) | (go_at_call 15; refine (alive_any _).mono ?_; rintro e wa ⟨rfl, hba⟩; have HW := Lib.hid (HW.out.below' hba); have HIN := Lib.hid (HIN.out.below hba); have HM := Lib.hid (HM.out.below hba); have H0 := Lib.hid (H0.out.trans (hba.mono H0.out.size))))
    go_ret
    exact ⟨rfl, H0.out⟩
  have HG := Lib.hid (great_any W1 t b k a c a' c' HIN.out (by have := HBN.out; omega) HLOW.out)
  rw [decide_eq_false hg] at HG
  cases hE : encE t b k with
  | error x =>
    have hxi := nzS (encE_err0 hE)
    have HE := Lib.hid hE
    clear hE
    go_wp2_with (first | (refine wpList_load_row (P := Try.prog) rfl 25 (.tmp 3) rfl w.heap.size rfl 25 _ _ _ HW.out Try.underlying25 rfl info25 ?_) | (go_at_call 16; (with_reducible refine (HG.out).mono ?_); rintro e w2 ⟨rfl, hb2⟩; have HW := Lib.hid (HW.out.below' hb2); have HIN := Lib.hid (HIN.out.below hb2); have HM := Lib.hid (HM.out.below hb2); have H0 := Lib.hid (H0.out.trans (hb2.mono H0.out.size))) | (go_at_call 18; have hs := enc_bad HE.out HIN.out; (with_reducible refine hs.mono ?_); rintro e w3 ⟨rfl, hb3⟩; have HW := Lib.hid (HW.out.below' hb3); have HIN := Lib.hid (HIN.out.below hb3); have HM := Lib.hid (HM.out.below hb3); have H0 := Lib.hid (H0.out.trans (hb3.mono H0.out.size))) | (go_at_call 15; refine (alive_any _).mono ?_; rintro e wa ⟨rfl, hba⟩; have HW := Lib.hid (HW.out.below' hba); have HIN := Lib.hid (HIN.out.below hba); have HM := Lib.hid (HM.out.below hba); have H0 := Lib.hid (H0.out.trans (hba.mono H0.out.size))))
    go_ret
    exact ⟨rfl, H0.out⟩
  | ok q =>
    have hqp : 0 < q.length := by obtain ⟨_, rfl, _⟩ := encE_ok hE; exact encI_pos _ _ _
    have HQP := Lib.hid hqp
    have HQ8 := Lib.hid (show ∀ x ∈ q, x < 256 by obtain ⟨_, rfl, _⟩ := encE_ok hE; exact item_enc8 HIN.out)
    have HQL := Lib.hid (encE_ok hE).2.2
    have hq0 := eqzS (show q.length ≠ 0 by omega)
    have HE := Lib.hid hE
    clear hE
    by_cases hzn : z < 0
    · obtain ⟨m, hm⟩ : ∃ m : Nat, -(z + 1) = (m : Int) := ⟨(-(z + 1)).toNat, by omega⟩
      have hz1 : -9223372036854775808 ≤ z := HZ.out.1
      have hm2 : -1 + -z = (m : Int) := by omega
      have hm3 : -z + -1 = (m : Int) := by omega
      have hm4 : -z - 1 = (m : Int) := by omega
      have hm5 : -1 - z = (m : Int) := by omega
      have hr : m % q.length < q.length := Nat.mod_lt _ hqp
      obtain ⟨x, hx⟩ := dec_cut HQ8.out HE.out (m % q.length) hr
      have hx0 := dec_err0 hx
      have hxn := eqzS (show x ≠ 0 by omega)
      have HDA := Lib.hid hx
      have HRL := Lib.hid (Nat.le_of_lt hr)
      have htm : Int.tmod (m : Int) (q.length : Int) = ((m % q.length : Nat) : Int) := Int.ofNat_tmod m q.length |>.symm
      have hri : ((m % q.length : Nat) : Int) < (q.length : Int) := by omega
      clear hx hx0
      generalize hR : m % q.length = r at *
      have HR := Lib.hid hR
      clear hR
      by_cases hc1 : nl = 0
      · subst hc1
        have hl0 : l = [] := List.eq_nil_of_length_eq_zero hnl
        have HDM := Lib.hid (show decE (q ++ l) = .ok (t, b, k) by rw [hl0, List.append_nil]; exact dec_back HE.out)
        have HSH := Lib.hid (show 0 ≤ 65536 by omega)
        have hsh : ¬ ((65536 : Int) < (q.length : Int)) := by have := HQL.out; omega
        go_wp2_with (first | (refine wpList_load_row (P := Try.prog) rfl 25 (.tmp 3) rfl w.heap.size rfl 25 _ _ _ HW.out Try.underlying25 rfl info25 ?_) | (go_at_call 16; (with_reducible refine (HG.out).mono ?_); rintro e w2 ⟨rfl, hb2⟩; have HW := Lib.hid (HW.out.below' hb2); have HIN := Lib.hid (HIN.out.below hb2); have HM := Lib.hid (HM.out.below hb2); have H0 := Lib.hid (H0.out.trans (hb2.mono H0.out.size))) | (go_at_call 18; have hs := enc_ok HE.out HIN.out; (with_reducible refine hs.mono ?_); rintro e w3 ⟨a3, c3, rfl, hi3, hb3⟩; have HW := Lib.hid (HW.out.below' hb3); have HIN := Lib.hid (HIN.out.below hb3); have HM := Lib.hid (HM.out.below hb3); have H0 := Lib.hid (H0.out.trans (hb3.mono H0.out.size)); have H3 := Lib.hid hi3; clear hi3; obtain ⟨B3, o3, rfl⟩ := bin_addr H3.out HQP.out; have hrc : (r : Int) ≤ (c3 : Int) := (by have h1 := H3.out.2.1; have h2 := HRL.out; omega)) | (go_at_call 11; have hs := decd_bad HDA.out (bin_headZ H3.out HRL.out); (with_reducible refine hs.mono ?_); rintro e w4 ⟨rfl, hb4⟩; have HW := Lib.hid (HW.out.below' hb4); have HIN := Lib.hid (HIN.out.below hb4); have HM := Lib.hid (HM.out.below hb4); have H0 := Lib.hid (H0.out.trans (hb4.mono H0.out.size)); have H3 := Lib.hid (H3.out.below hb4); have H04 := H0) | (at_builtin; refine wpList_append_bytes _ rfl (.tmp 46) (.tmp 47) rfl w4.heap.size (.slice (some ⟨w4.heap.size + 1, 0, none⟩) 0 0) 0 [] rfl (zero_row2 _ _) (some ⟨B3, o3, none⟩) q.length c3 q rfl (H3.out.below ((((Below.refl _ _).alloc (Nat.le_refl _) _)).alloc (by simp) _)) (by have := HQL.out; omega) (by simp; omega) ?_; intro v1 w5 ho1 hg1; rw [Nat.zero_add, List.nil_append] at ho1; obtain ⟨a5, c5, rfl⟩ := own_slice ho1; have hb5 := ((((((Below.refl _ _).alloc (Nat.le_refl _) _)).alloc (by simp) _) : Below w4.heap.size w4 _).grown hg1 (by simp; omega) (by intro x hx; injection hx with hx; simp at hx; omega)); have HO1 := Lib.hid ho1; clear ho1 hg1; have HW := Lib.hid (HW.out.below' hb5); have HIN := Lib.hid (HIN.out.below hb5); have HM := Lib.hid (HM.out.below hb5); have H0 := Lib.hid (H0.out.trans (hb5.mono H0.out.size))) | (at_builtin; refine wpList_append_bytes _ rfl (.tmp 48) (.tmp 49) rfl w4.heap.size (.slice a5 q.length c5) q.length q rfl HO1.out al 0 cl l rfl HM.out (by have := HQL.out; have := HSH.out; omega) hb5.size ?_; intro v2 w6 ho2 hg2; rw [Nat.add_zero] at ho2; obtain ⟨a6, c6, rfl⟩ := own_slice ho2; have hb6 : Below w4.heap.size w4 w6 := hb5.grown hg2 hb5.size (fun x hx => (HO1.out.lt x hx).1); obtain ⟨a6', c6', e6, hi6, _⟩ := own_in ho2 (by intro z hz; rcases List.mem_append.1 hz with hz | hz; exact HQ8.out z hz; exact HM.out.1.2.2.1 z hz) (by have := HQL.out; have := HSH.out; omega); injection e6 with e61 e62 e63; subst e61 e63; have H6 := Lib.hid hi6; have HB6 := Lib.hid (H04.out.trans (hb6.mono H04.out.size)); clear ho2 hg2 hi6) | (go_at_call 11; have hs := decd_ok HDM.out H6.out; (with_reducible refine hs.mono ?_); rintro e w7 ⟨ak, ck, al', cl', rfl, hi7, hb7⟩; have H0 := Lib.hid (HB6.out.trans (hb7.mono HB6.out.size))) | (go_at_call 15; refine (alive_any _).mono ?_; rintro e wa ⟨rfl, hba⟩; have H0 := Lib.hid (H0.out.trans ((((((Below.refl _ _).alloc (Nat.le_refl _) _)).trans (hba.mono (by simp)))).mono H0.out.size))))
        go_ret
        exact ⟨rfl, H0.out⟩
      · have hl0 : l ≠ [] := fun h => hc1 (by rw [← hnl, h]; rfl)
        have hnp : (0 : Int) < (nl : Int) := by omega
        have hdb := dec_behind HE.out l hl0
        by_cases hc2 : 65536 < q.length + nl
        · have HLG := Lib.hid hc2
          have hlg : (65536 : Int) < (q.length : Int) + (nl : Int) := by omega
          obtain ⟨BM, oM, rfl⟩ := bin_addr HM.out (by omega)
          have hnlb : (nl : Int) ≤ 140737488351232 := by have := HLN.out; omega
          have hqb : (q.length : Int) ≤ 65536 := by have := HQL.out; omega
          obtain ⟨i5, hi5, hz5, hs5, hy5⟩ := info_parts info5
          clear hdb hl0
          go_wp2_with (first | (refine wpList_load_row (P := Try.prog) rfl 25 (.tmp 3) rfl w.heap.size rfl 25 _ _ _ HW.out Try.underlying25 rfl info25 ?_) | (go_at_call 16; (with_reducible refine (HG.out).mono ?_); rintro e w2 ⟨rfl, hb2⟩; have HW := Lib.hid (HW.out.below' hb2); have HIN := Lib.hid (HIN.out.below hb2); have HM := Lib.hid (HM.out.below hb2); have H0 := Lib.hid (H0.out.trans (hb2.mono H0.out.size))) | (go_at_call 18; have hs := enc_ok HE.out HIN.out; (with_reducible refine hs.mono ?_); rintro e w3 ⟨a3, c3, rfl, hi3, hb3⟩; have HW := Lib.hid (HW.out.below' hb3); have HIN := Lib.hid (HIN.out.below hb3); have HM := Lib.hid (HM.out.below hb3); have H0 := Lib.hid (H0.out.trans (hb3.mono H0.out.size)); have H3 := Lib.hid hi3; clear hi3; obtain ⟨B3, o3, rfl⟩ := bin_addr H3.out HQP.out; have hrc : (r : Int) ≤ (c3 : Int) := (by have h1 := H3.out.2.1; have h2 := HRL.out; omega)) | (go_at_call 11; have hs := decd_bad HDA.out (bin_headZ H3.out HRL.out); (with_reducible refine hs.mono ?_); rintro e w4 ⟨rfl, hb4⟩; have HW := Lib.hid (HW.out.below' hb4); have HIN := Lib.hid (HIN.out.below hb4); have HM := Lib.hid (HM.out.below hb4); have H0 := Lib.hid (H0.out.trans (hb4.mono H0.out.size)); have H3 := Lib.hid (H3.out.below hb4); have H04 := H0) | (at_builtin; refine wpList_append_bytes _ rfl (.tmp 46) (.tmp 47) rfl w4.heap.size (.slice (some ⟨w4.heap.size + 1, 0, none⟩) 0 0) 0 [] rfl (zero_row2 _ _) (some ⟨B3, o3, none⟩) q.length c3 q rfl (H3.out.below ((((Below.refl _ _).alloc (Nat.le_refl _) _)).alloc (by simp) _)) (by have := HQL.out; omega) (by simp; omega) ?_; intro v1 w5 ho1 hg1; rw [Nat.zero_add, List.nil_append] at ho1; obtain ⟨a5, c5, rfl⟩ := own_slice ho1; have hb5 := ((((((Below.refl _ _).alloc (Nat.le_refl _) _)).alloc (by simp) _) : Below w4.heap.size w4 _).grown hg1 (by simp; omega) (by intro x hx; injection hx with hx; simp at hx; omega)); have HO1 := Lib.hid ho1; clear ho1 hg1; have HW := Lib.hid (HW.out.below' hb5); have HIN := Lib.hid (HIN.out.below hb5); have HM := Lib.hid (HM.out.below hb5); have H0 := Lib.hid (H0.out.trans (hb5.mono H0.out.size))) | (at_builtin; refine wpList_append_own_wide _ rfl (.tmp 48) (.tmp 49) 22 rfl w4.heap.size 5 i5 (.int .u8 0) 1 1 Try.underlying22 hi5 hz5 hs5 hy5 rfl (by decide) (.slice a5 q.length c5) q.length (bytesV q) rfl HO1.out ⟨BM, oM, none⟩ nl cl (bytesV l) rfl (by simp [bytesV, hnl]) (news_bin HM.out) (by intro u hu; obtain ⟨y, _, rfl⟩ := List.mem_map.1 hu; rfl) (by have := HQL.out; have := HLN.out; simp only [maxLen]; omega) (by have := HQL.out; have := HLN.out; omega) hb5.size ?_; intro v2 w6 ho2 hg2 _; obtain ⟨a6, c6, rfl⟩ := own_slice ho2; have hb6 : Below w4.heap.size w4 w6 := hb5.grown hg2 hb5.size (fun x hx => (HO1.out.lt x hx).1); have HB6 := Lib.hid (H04.out.trans (hb6.mono H04.out.size)); clear ho2 hg2) | (go_at_call 11; have hs := decd_long HLG.out w6 a6 c6; (with_reducible refine hs.mono ?_); rintro e w7 ⟨rfl, hb7⟩; have H0 := Lib.hid (HB6.out.trans (hb7.mono HB6.out.size))) | (go_at_call 15; refine (alive_any _).mono ?_; rintro e wa ⟨rfl, hba⟩; have H0 := Lib.hid (H0.out.trans ((((((Below.refl _ _).alloc (Nat.le_refl _) _)).trans (hba.mono (by simp)))).mono H0.out.size))))
          go_ret
          exact ⟨rfl, H0.out⟩
        · have HDM := Lib.hid (show decE (q ++ l) = .error 126 by rw [hdb, if_neg (by rw [List.length_append, hnl]; exact hc2)])
          have HSH := Lib.hid (show nl ≤ 65536 by omega)
          have hsh : ¬ ((65536 : Int) < (q.length : Int) + (nl : Int)) := by omega
          clear hdb hl0
          go_wp2_with (first | (refine wpList_load_row (P := Try.prog) rfl 25 (.tmp 3) rfl w.heap.size rfl 25 _ _ _ HW.out Try.underlying25 rfl info25 ?_) | (go_at_call 16; (with_reducible refine (HG.out).mono ?_); rintro e w2 ⟨rfl, hb2⟩; have HW := Lib.hid (HW.out.below' hb2); have HIN := Lib.hid (HIN.out.below hb2); have HM := Lib.hid (HM.out.below hb2); have H0 := Lib.hid (H0.out.trans (hb2.mono H0.out.size))) | (go_at_call 18; have hs := enc_ok HE.out HIN.out; (with_reducible refine hs.mono ?_); rintro e w3 ⟨a3, c3, rfl, hi3, hb3⟩; have HW := Lib.hid (HW.out.below' hb3); have HIN := Lib.hid (HIN.out.below hb3); have HM := Lib.hid (HM.out.below hb3); have H0 := Lib.hid (H0.out.trans (hb3.mono H0.out.size)); have H3 := Lib.hid hi3; clear hi3; obtain ⟨B3, o3, rfl⟩ := bin_addr H3.out HQP.out; have hrc : (r : Int) ≤ (c3 : Int) := (by have h1 := H3.out.2.1; have h2 := HRL.out; omega)) | (go_at_call 11; have hs := decd_bad HDA.out (bin_headZ H3.out HRL.out); (with_reducible refine hs.mono ?_); rintro e w4 ⟨rfl, hb4⟩; have HW := Lib.hid (HW.out.below' hb4); have HIN := Lib.hid (HIN.out.below hb4); have HM := Lib.hid (HM.out.below hb4); have H0 := Lib.hid (H0.out.trans (hb4.mono H0.out.size)); have H3 := Lib.hid (H3.out.below hb4); have H04 := H0) | (at_builtin; refine wpList_append_bytes _ rfl (.tmp 46) (.tmp 47) rfl w4.heap.size (.slice (some ⟨w4.heap.size + 1, 0, none⟩) 0 0) 0 [] rfl (zero_row2 _ _) (some ⟨B3, o3, none⟩) q.length c3 q rfl (H3.out.below ((((Below.refl _ _).alloc (Nat.le_refl _) _)).alloc (by simp) _)) (by have := HQL.out; omega) (by simp; omega) ?_; intro v1 w5 ho1 hg1; rw [Nat.zero_add, List.nil_append] at ho1; obtain ⟨a5, c5, rfl⟩ := own_slice ho1; have hb5 := ((((((Below.refl _ _).alloc (Nat.le_refl _) _)).alloc (by simp) _) : Below w4.heap.size w4 _).grown hg1 (by simp; omega) (by intro x hx; injection hx with hx; simp at hx; omega)); have HO1 := Lib.hid ho1; clear ho1 hg1; have HW := Lib.hid (HW.out.below' hb5); have HIN := Lib.hid (HIN.out.below hb5); have HM := Lib.hid (HM.out.below hb5); have H0 := Lib.hid (H0.out.trans (hb5.mono H0.out.size))) | (at_builtin; refine wpList_append_bytes _ rfl (.tmp 48) (.tmp 49) rfl w4.heap.size (.slice a5 q.length c5) q.length q rfl HO1.out al nl cl l rfl HM.out (by have := HQL.out; have := HSH.out; omega) hb5.size ?_; intro v2 w6 ho2 hg2; obtain ⟨a6, c6, rfl⟩ := own_slice ho2; have hb6 : Below w4.heap.size w4 w6 := hb5.grown hg2 hb5.size (fun x hx => (HO1.out.lt x hx).1); obtain ⟨a6', c6', e6, hi6, _⟩ := own_in ho2 (by intro z hz; rcases List.mem_append.1 hz with hz | hz; exact HQ8.out z hz; exact HM.out.1.2.2.1 z hz) (by have := HQL.out; have := HSH.out; omega); injection e6 with e61 e62 e63; subst e61 e63; have H6 := Lib.hid hi6; have HB6 := Lib.hid (H04.out.trans (hb6.mono H04.out.size)); clear ho2 hg2 hi6) | (go_at_call 11; have hs := decd_bad HDM.out H6.out; (with_reducible refine hs.mono ?_); rintro e w7 ⟨rfl, hb7⟩; have H0 := Lib.hid (HB6.out.trans (hb7.mono HB6.out.size))) | (go_at_call 15; refine (alive_any _).mono ?_; rintro e wa ⟨rfl, hba⟩; have H0 := Lib.hid (H0.out.trans ((((((Below.refl _ _).alloc (Nat.le_refl _) _)).trans (hba.mono (by simp)))).mono H0.out.size))))
          go_ret
          exact ⟨rfl, H0.out⟩
    · obtain ⟨m, rfl⟩ := Int.eq_ofNat_of_zero_le (show 0 ≤ z by omega)
      have hr : m % q.length < q.length := Nat.mod_lt _ hqp
      obtain ⟨x, hx⟩ := dec_cut HQ8.out HE.out (m % q.length) hr
      have hx0 := dec_err0 hx
      have hxn := eqzS (show x ≠ 0 by omega)
      have HDA := Lib.hid hx
      have HRL := Lib.hid (Nat.le_of_lt hr)
      have htm : Int.tmod (m : Int) (q.length : Int) = ((m % q.length : Nat) : Int) := Int.ofNat_tmod m q.length |>.symm
      have hri : ((m % q.length : Nat) : Int) < (q.length : Int) := by omega
      clear hx hx0
      generalize hR : m % q.length = r at *
      have HR := Lib.hid hR
      clear hR
      by_cases hc1 : nl = 0
      · subst hc1
        have hl0 : l = [] := List.eq_nil_of_length_eq_zero hnl
        have HDM := Lib.hid (show decE (q ++ l) = .ok (t, b, k) by rw [hl0, List.append_nil]; exact dec_back HE.out)
        have HSH := Lib.hid (show 0 ≤ 65536 by omega)
        have hsh : ¬ ((65536 : Int) < (q.length : Int)) := by have := HQL.out; omega
        go_wp2_with (first | (refine wpList_load_row (P := Try.prog) rfl 25 (.tmp 3) rfl w.heap.size rfl 25 _ _ _ HW.out Try.underlying25 rfl info25 ?_) | (go_at_call 16; (with_reducible refine (HG.out).mono ?_); rintro e w2 ⟨rfl, hb2⟩; have HW := Lib.hid (HW.out.below' hb2); have HIN := Lib.hid (HIN.out.below hb2); have HM := Lib.hid (HM.out.below hb2); have H0 := Lib.hid (H0.out.trans (hb2.mono H0.out.size))) | (go_at_call 18; have hs := enc_ok HE.out HIN.out; (with_reducible refine hs.mono ?_); rintro e w3 ⟨a3, c3, rfl, hi3, hb3⟩; have HW := Lib.hid (HW.out.below' hb3); have HIN := Lib.hid (HIN.out.below hb3); have HM := Lib.hid (HM.out.below hb3); have H0 := Lib.hid (H0.out.trans (hb3.mono H0.out.size)); have H3 := Lib.hid hi3; clear hi3; obtain ⟨B3, o3, rfl⟩ := bin_addr H3.out HQP.out; have hrc : (r : Int) ≤ (c3 : Int) := (by have h1 := H3.out.2.1; have h2 := HRL.out; omega)) | (go_at_call 11; have hs := decd_bad HDA.out (bin_headZ H3.out HRL.out); (with_reducible refine hs.mono ?_); rintro e w4 ⟨rfl, hb4⟩; have HW := Lib.hid (HW.out.below' hb4); have HIN := Lib.hid (HIN.out.below hb4); have HM := Lib.hid (HM.out.below hb4); have H0 := Lib.hid (H0.out.trans (hb4.mono H0.out.size)); have H3 := Lib.hid (H3.out.below hb4); have H04 := H0) | (at_builtin; refine wpList_append_bytes _ rfl (.tmp 46) (.tmp 47) rfl w4.heap.size (.slice (some ⟨w4.heap.size + 1, 0, none⟩) 0 0) 0 [] rfl (zero_row2 _ _) (some ⟨B3, o3, none⟩) q.length c3 q rfl (H3.out.below ((((Below.refl _ _).alloc (Nat.le_refl _) _)).alloc (by simp) _)) (by have := HQL.out; omega) (by simp; omega) ?_; intro v1 w5 ho1 hg1; rw [Nat.zero_add, List.nil_append] at ho1; obtain ⟨a5, c5, rfl⟩ := own_slice ho1; have hb5 := ((((((Below.refl _ _).alloc (Nat.le_refl _) _)).alloc (by simp) _) : Below w4.heap.size w4 _).grown hg1 (by simp; omega) (by intro x hx; injection hx with hx; simp at hx; omega)); have HO1 := Lib.hid ho1; clear ho1 hg1; have HW := Lib.hid (HW.out.below' hb5); have HIN := Lib.hid (HIN.out.below hb5); have HM := Lib.hid (HM.out.below hb5); have H0 := Lib.hid (H0.out.trans (hb5.mono H0.out.size))) | (at_builtin; refine wpList_append_bytes _ rfl (.tmp 48) (.tmp 49) rfl w4.heap.size (.slice a5 q.length c5) q.length q rfl HO1.out al 0 cl l rfl HM.out (by have := HQL.out; have := HSH.out; omega) hb5.size ?_; intro v2 w6 ho2 hg2; rw [Nat.add_zero] at ho2; obtain ⟨a6, c6, rfl⟩ := own_slice ho2; have hb6 : Below w4.heap.size w4 w6 := hb5.grown hg2 hb5.size (fun x hx => (HO1.out.lt x hx).1); obtain ⟨a6', c6', e6, hi6, _⟩ := own_in ho2 (by intro z hz; rcases List.mem_append.1 hz with hz | hz; exact HQ8.out z hz; exact HM.out.1.2.2.1 z hz) (by have := HQL.out; have := HSH.out; omega); injection e6 with e61 e62 e63; subst e61 e63; have H6 := Lib.hid hi6; have HB6 := Lib.hid (H04.out.trans (hb6.mono H04.out.size)); clear ho2 hg2 hi6) | (go_at_call 11; have hs := decd_ok HDM.out H6.out; (with_reducible refine hs.mono ?_); rintro e w7 ⟨ak, ck, al', cl', rfl, hi7, hb7⟩; have H0 := Lib.hid (HB6.out.trans (hb7.mono HB6.out.size))) | (go_at_call 15; refine (alive_any _).mono ?_; rintro e wa ⟨rfl, hba⟩; have H0 := Lib.hid (H0.out.trans ((((((Below.refl _ _).alloc (Nat.le_refl _) _)).trans (hba.mono (by simp)))).mono H0.out.size))))
        go_ret
        exact ⟨rfl, H0.out⟩
      · have hl0 : l ≠ [] := fun h => hc1 (by rw [← hnl, h]; rfl)
        have hnp : (0 : Int) < (nl : Int) := by omega
        have hdb := dec_behind HE.out l hl0
        by_cases hc2 : 65536 < q.length + nl
        · have HLG := Lib.hid hc2
          have hlg : (65536 : Int) < (q.length : Int) + (nl : Int) := by omega
          obtain ⟨BM, oM, rfl⟩ := bin_addr HM.out (by omega)
          have hnlb : (nl : Int) ≤ 140737488351232 := by have := HLN.out; omega
          have hqb : (q.length : Int) ≤ 65536 := by have := HQL.out; omega
          obtain ⟨i5, hi5, hz5, hs5, hy5⟩ := info_parts info5
          clear hdb hl0
          go_wp2_with (first | (refine wpList_load_row (P := Try.prog) rfl 25 (.tmp 3) rfl w.heap.size rfl 25 _ _ _ HW.out Try.underlying25 rfl info25 ?_) | (go_at_call 16; (with_reducible refine (HG.out).mono ?_); rintro e w2 ⟨rfl, hb2⟩; have HW := Lib.hid (HW.out.below' hb2); have HIN := Lib.hid (HIN.out.below hb2); have HM := Lib.hid (HM.out.below hb2); have H0 := Lib.hid (H0.out.trans (hb2.mono H0.out.size))) | (go_at_call 18; have hs := enc_ok HE.out HIN.out; (with_reducible refine hs.mono ?_); rintro e w3 ⟨a3, c3, rfl, hi3, hb3⟩; have HW := Lib.hid (HW.out.below' hb3); have HIN := Lib.hid (HIN.out.below hb3); have HM := Lib.hid (HM.out.below hb3); have H0 := Lib.hid (H0.out.trans (hb3.mono H0.out.size)); have H3 := Lib.hid hi3; clear hi3; obtain ⟨B3, o3, rfl⟩ := bin_addr H3.out HQP.out; have hrc : (r : Int) ≤ (c3 : Int) := (by have h1 := H3.out.2.1; have h2 := HRL.out; omega)) | (go_at_call 11; have hs := decd_bad HDA.out (bin_headZ H3.out HRL.out); (with_reducible refine hs.mono ?_); rintro e w4 ⟨rfl, hb4⟩; have HW := Lib.hid (HW.out.below' hb4); have HIN := Lib.hid (HIN.out.below hb4); have HM := Lib.hid (HM.out.below hb4); have H0 := Lib.hid (H0.out.trans (hb4.mono H0.out.size)); have H3 := Lib.hid (H3.out.below hb4); have H04 := H0) | (at_builtin; refine wpList_append_bytes _ rfl (.tmp 46) (.tmp 47) rfl w4.heap.size (.slice (some ⟨w4.heap.size + 1, 0, none⟩) 0 0) 0 [] rfl (zero_row2 _ _) (some ⟨B3, o3, none⟩) q.length c3 q rfl (H3.out.below ((((Below.refl _ _).alloc (Nat.le_refl _) _)).alloc (by simp) _)) (by have := HQL.out; omega) (by simp; omega) ?_; intro v1 w5 ho1 hg1; rw [Nat.zero_add, List.nil_append] at ho1; obtain ⟨a5, c5, rfl⟩ := own_slice ho1; have hb5 := ((((((Below.refl _ _).alloc (Nat.le_refl _) _)).alloc (by simp) _) : Below w4.heap.size w4 _).grown hg1 (by simp; omega) (by intro x hx; injection hx with hx; simp at hx; omega)); have HO1 := Lib.hid ho1; clear ho1 hg1; have HW := Lib.hid (HW.out.below' hb5); have HIN := Lib.hid (HIN.out.below hb5); have HM := Lib.hid (HM.out.below hb5); have H0 := Lib.hid (H0.out.trans (hb5.mono H0.out.size))) | (at_builtin; refine wpList_append_own_wide _ rfl (.tmp 48) (.tmp 49) 22 rfl w4.heap.size 5 i5 (.int .u8 0) 1 1 Try.underlying22 hi5 hz5 hs5 hy5 rfl (by decide) (.slice a5 q.length c5) q.length (bytesV q) rfl HO1.out ⟨BM, oM, none⟩ nl cl (bytesV l) rfl (by simp [bytesV, hnl]) (news_bin HM.out) (by intro u hu; obtain ⟨y, _, rfl⟩ := List.mem_map.1 hu; rfl) (by have := HQL.out; have := HLN.out; simp only [maxLen]; omega) (by have := HQL.out; have := HLN.out; omega) hb5.size ?_; intro v2 w6 ho2 hg2 _; obtain ⟨a6, c6, rfl⟩ := own_slice ho2; have hb6 : Below w4.heap.size w4 w6 := hb5.grown hg2 hb5.size (fun x hx => (HO1.out.lt x hx).1); have HB6 := Lib.hid (H04.out.trans (hb6.mono H04.out.size)); clear ho2 hg2) | (go_at_call 11; have hs := decd_long HLG.out w6 a6 c6; (with_reducible refine hs.mono ?_); rintro e w7 ⟨rfl, hb7⟩; have H0 := Lib.hid (HB6.out.trans (hb7.mono HB6.out.size))) | (go_at_call 15; refine (alive_any _).mono ?_; rintro e wa ⟨rfl, hba⟩; have H0 := Lib.hid (H0.out.trans ((((((Below.refl _ _).alloc (Nat.le_refl _) _)).trans (hba.mono (by simp)))).mono H0.out.size))))
          go_ret
          exact ⟨rfl, H0.out⟩
        · have HDM := Lib.hid (show decE (q ++ l) = .error 126 by rw [hdb, if_neg (by rw [List.length_append, hnl]; exact hc2)])
          have HSH := Lib.hid (show nl ≤ 65536 by omega)
          have hsh : ¬ ((65536 : Int) < (q.length : Int) + (nl : Int)) := by omega
          clear hdb hl0
          go_wp2_with (first | (refine wpList_load_row (P := Try.prog) rfl 25 (.tmp 3) rfl w.heap.size rfl 25 _ _ _ HW.out Try.underlying25 rfl info25 ?_) | (go_at_call 16; (with_reducible refine (HG.out).mono ?_); rintro e w2 ⟨rfl, hb2⟩; have HW := Lib.hid (HW.out.below' hb2); have HIN := Lib.hid (HIN.out.below hb2); have HM := Lib.hid (HM.out.below hb2); have H0 := Lib.hid (H0.out.trans (hb2.mono H0.out.size))) | (go_at_call 18; have hs := enc_ok HE.out HIN.out; (with_reducible refine hs.mono ?_); rintro e w3 ⟨a3, c3, rfl, hi3, hb3⟩; have HW := Lib.hid (HW.out.below' hb3); have HIN := Lib.hid (HIN.out.below hb3); have HM := Lib.hid (HM.out.below hb3); have H0 := Lib.hid (H0.out.trans (hb3.mono H0.out.size)); have H3 := Lib.hid hi3; clear hi3; obtain ⟨B3, o3, rfl⟩ := bin_addr H3.out HQP.out; have hrc : (r : Int) ≤ (c3 : Int) := (by have h1 := H3.out.2.1; have h2 := HRL.out; omega)) | (go_at_call 11; have hs := decd_bad HDA.out (bin_headZ H3.out HRL.out); (with_reducible refine hs.mono ?_); rintro e w4 ⟨rfl, hb4⟩; have HW := Lib.hid (HW.out.below' hb4); have HIN := Lib.hid (HIN.out.below hb4); have HM := Lib.hid (HM.out.below hb4); have H0 := Lib.hid (H0.out.trans (hb4.mono H0.out.size)); have H3 := Lib.hid (H3.out.below hb4); have H04 := H0) | (at_builtin; refine wpList_append_bytes _ rfl (.tmp 46) (.tmp 47) rfl w4.heap.size (.slice (some ⟨w4.heap.size + 1, 0, none⟩) 0 0) 0 [] rfl (zero_row2 _ _) (some ⟨B3, o3, none⟩) q.length c3 q rfl (H3.out.below ((((Below.refl _ _).alloc (Nat.le_refl _) _)).alloc (by simp) _)) (by have := HQL.out; omega) (by simp; omega) ?_; intro v1 w5 ho1 hg1; rw [Nat.zero_add, List.nil_append] at ho1; obtain ⟨a5, c5, rfl⟩ := own_slice ho1; have hb5 := ((((((Below.refl _ _).alloc (Nat.le_refl _) _)).alloc (by simp) _) : Below w4.heap.size w4 _).grown hg1 (by simp; omega) (by intro x hx; injection hx with hx; simp at hx; omega)); have HO1 := Lib.hid ho1; clear ho1 hg1; have HW := Lib.hid (HW.out.below' hb5); have HIN := Lib.hid (HIN.out.below hb5); have HM := Lib.hid (HM.out.below hb5); have H0 := Lib.hid (H0.out.trans (hb5.mono H0.out.size))) | (at_builtin; refine wpList_append_bytes _ rfl (.tmp 48) (.tmp 49) rfl w4.heap.size (.slice a5 q.length c5) q.length q rfl HO1.out al nl cl l rfl HM.out (by have := HQL.out; have := HSH.out; omega) hb5.size ?_; intro v2 w6 ho2 hg2; obtain ⟨a6, c6, rfl⟩ := own_slice ho2; have hb6 : Below w4.heap.size w4 w6 := hb5.grown hg2 hb5.size (fun x hx => (HO1.out.lt x hx).1); obtain ⟨a6', c6', e6, hi6, _⟩ := own_in ho2 (by intro z hz; rcases List.mem_append.1 hz with hz | hz; exact HQ8.out z hz; exact HM.out.1.2.2.1 z hz) (by have := HQL.out; have := HSH.out; omega); injection e6 with e61 e62 e63; subst e61 e63; have H6 := Lib.hid hi6; have HB6 := Lib.hid (H04.out.trans (hb6.mono H04.out.size)); clear ho2 hg2 hi6) | (go_at_call 11; have hs := decd_bad HDM.out H6.out; (with_reducible refine hs.mono ?_); rintro e w7 ⟨rfl, hb7⟩; have H0 := Lib.hid (HB6.out.trans (hb7.mono HB6.out.size))) | (go_at_call 15; refine (alive_any _).mono ?_; rintro e wa ⟨rfl, hba⟩; have H0 := Lib.hid (H0.out.trans ((((((Below.refl _ _).alloc (Nat.le_refl _) _)).trans (hba.mono (by simp)))).mono H0.out.size))))
          go_ret
          exact ⟨rfl, H0.out⟩
end Go.Proofs.Ytlkedlbigmoikaa
