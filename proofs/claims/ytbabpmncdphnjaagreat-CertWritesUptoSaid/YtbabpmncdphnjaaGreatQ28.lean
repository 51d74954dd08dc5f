/- Parts of proofs of statements, each text behind those that it stands on. No condition of its own. -/
import Derived.Test.YtbabpmncdphnjaaGreatQ21
namespace Go.Proofs.YtbabpmncdphnjaaGreat
open Go.RowKit
set_option linter.unusedVariables false
set_option maxRecDepth 100000
set_option linter.unusedSimpArgs false
theorem rknown_any (z : Int) (w : World) : Calls Tryz.prog 51 #[.int .i64 z] w fun e w' => e = .returned (.bool (knownB z)) ∧ w = w' := by
  by_cases h1 : z = 1
  · subst h1; rw [show knownB 1 = true from by decide]; go_enter Tryz.func51, Tryz.ntmps51; go_wp2; go_ret; exact ⟨rfl, rfl⟩
  by_cases h2 : z = 2
  · subst h2; rw [show knownB 2 = true from by decide]; go_enter Tryz.func51, Tryz.ntmps51; go_wp2; go_ret; exact ⟨rfl, rfl⟩
  have t1 : (z == 1) = false := by simpa using h1
  have t2 : (z == 2) = false := by simpa using h2
  by_cases h3 : 100 < z
  · by_cases h4 : z < 112
    · rw [show knownB z = true from by unfold knownB; exact decide_eq_true (by omega)]
      go_enter Tryz.func51, Tryz.ntmps51; go_wp2; go_ret; exact ⟨rfl, rfl⟩
    · by_cases h5 : 201 ≤ z
      · by_cases h6 : z ≤ 203
        · rw [show knownB z = true from by unfold knownB; exact decide_eq_true (by omega)]
          have d5 : decide (201 ≤ z) = true := by simpa using h5
          have d6 : decide (z ≤ 203) = true := by simpa using h6
          go_enter Tryz.func51, Tryz.ntmps51; go_wp2; go_ret; exact ⟨rfl, rfl⟩
        · rw [show knownB z = false from by unfold knownB; exact decide_eq_false (by omega)]
          have d5 : decide (201 ≤ z) = true := by simpa using h5
          have d6 : decide (z ≤ 203) = false := by simpa using h6
          go_enter Tryz.func51, Tryz.ntmps51; go_wp2; go_ret; exact ⟨rfl, rfl⟩
      · rw [show knownB z = false from by unfold knownB; exact decide_eq_false (by omega)]
        have d5 : decide (201 ≤ z) = false := by simpa using h5
        go_enter Tryz.func51, Tryz.ntmps51; go_wp2; go_ret; exact ⟨rfl, rfl⟩
  · rw [show knownB z = false from by unfold knownB; exact decide_eq_false (by omega)]
    have d5 : decide (201 ≤ z) = false := by simp; omega
    go_enter Tryz.func51, Tryz.ntmps51; go_wp2; go_ret; exact ⟨rfl, rfl⟩
theorem nameOk_t {l : List Nat} (h1 : 1 ≤ l.length) (h2 : l.length ≤ 64) (h : ∀ q, q < l.length → 32 ≤ l.getD q 0 ∧ l.getD q 0 ≤ 126) : nameOk l = true := decide_eq_true ⟨h1, h2, h⟩
set_option maxHeartbeats 2000000 in
theorem rnamed_any (s : ByteArray) (b : List Nat) (hb : strL s = b) (w : World) : Calls Tryz.prog 50 #[.string s] w fun e w' => e = .returned (.bool (nameOk b)) ∧ w = w' := by
  have hlen : b.length = s.size := by rw [← hb]; exact strL_len s
  by_cases h1 : s.size < 1
  · have hi : (s.size : Int) < 1 := by omega
    have HX := Lib.hid (nameOk_f (l := b) (by omega))
    go_enter Tryz.func50, Tryz.ntmps50
    go_wp2
    go_ret
    exact ⟨retBool HX.out, rfl⟩
  have hi1 : ¬ (s.size : Int) < 1 := by omega
  by_cases h2 : 64 < s.size
  · have hi : (64 : Int) < (s.size : Int) := by omega
    have HX := Lib.hid (nameOk_f (l := b) (by omega))
    go_enter Tryz.func50, Tryz.ntmps50
    go_wp2
    go_ret
    exact ⟨retBool HX.out, rfl⟩
  have hi2 : ¬ (64 : Int) < (s.size : Int) := by omega
  have HL := Lib.hid hlen
  have HBB := Lib.hid hb
  have hat : ∀ k (hk : k < s.size), (s[k]'hk).toNat = b.getD k 0 := fun k hk => by rw [← hb]; exact strL_at s k hk
  have HAT := Lib.hid hat
  clear hlen hb hat
  go_enter Tryz.func50, Tryz.ntmps50
  go_wp2
  go_loop [3] (fun i => ∃ j : Nat, i = .int .i64 (j : Nat) ∧ j ≤ s.size ∧ ∀ q, q < j → 32 ≤ b.getD q 0 ∧ b.getD q 0 ≤ 126) (fun i => s.size - (intOf i).toNat)
  case atStart => exact ⟨0, rfl, Nat.zero_le _, fun q h => by omega⟩
  case round =>
    obtain ⟨j, rfl, hj, hall⟩ := hrel
    have HA := Lib.hid hall
    clear hall
    by_cases hjn : j < s.size
    · have hji : (j : Int) < (s.size : Int) := by omega
      have hx := HAT.out j hjn
      have HNX := Lib.hid (fun h => nameOk_x (l := b) (i := j) (by rw [HL.out]; exact hjn) h)
      have HALL := Lib.hid (fun (hx : 32 ≤ b.getD j 0 ∧ b.getD j 0 ≤ 126) q (hq : q < j + 1) => (by rcases Nat.lt_succ_iff_lt_or_eq.1 hq with h | h; exact HA.out q h; subst h; exact hx : 32 ≤ b.getD q 0 ∧ b.getD q 0 ≤ 126))
      generalize b.getD j 0 = y at *
      by_cases hlo : y < 32
      · have hl1 : (y : Int) < 32 := by omega
        have HR := Lib.hid (HNX.out (by omega))
        go_wp2_with fail
        go_ret
        exact ⟨retBool HR.out, rfl⟩
      · have hl1 : ¬ (y : Int) < 32 := by omega
        by_cases hhi : 126 < y
        · have hh1 : (126 : Int) < (y : Int) := by omega
          have HR := Lib.hid (HNX.out (by omega))
          go_wp2_with fail
          go_ret
          exact ⟨retBool HR.out, rfl⟩
        · have hh1 : ¬ (126 : Int) < (y : Int) := by omega
          have HR := Lib.hid (HALL.out ⟨by omega, by omega⟩)
          clear HALL HNX
          go_wp2_with fail
          go_round
          case rel => exact ⟨j + 1, by go_num, by omega, HR.out⟩
          case measure => simp [intOf]; omega
    · go_wp2
      go_ret
      exact ⟨retBool (nameOk_t (by have := HL.out; omega) (by have := HL.out; omega) (fun q hq => HA.out q (by have := HL.out; omega))), rfl⟩
end Go.Proofs.YtbabpmncdphnjaaGreat
namespace Go.Proofs.YtbabpmncdphnjaaGreat
open Go.RowKit
set_option linter.unusedVariables false
set_option maxRecDepth 100000
set_option linter.unusedSimpArgs false
noncomputable def vQ (ib sb : List Nat) (kn : Nat) (xs : List XV) (sg : Bool) (sl : Nat) : Nat := if sg = true ∧ sl ≠ 3373 then 134 else lkQ ib sb kn xs
theorem vQ_bad {ib sb : List Nat} {kn : Nat} {xs : List XV} {sg : Bool} {sl : Nat} (h : ¬ (C1 ib sb kn xs ∧ ¬ (sg = true ∧ sl ≠ 3373))) : vQ ib sb kn xs sg sl = 134 := by
  unfold vQ
  by_cases q : sg = true ∧ sl ≠ 3373
  · rw [if_pos q]
  · rw [if_neg q]; exact lk1 (fun h1 => h ⟨h1, q⟩)
theorem x_cells {w : World} {xs : List XV} {g o i : Nat} {x : XV} (h : XRow w xs g o) (hx : xs[i]? = some x) : w.cell? ⟨g, o + i * 3, none⟩ = some (.int .i64 x.1) ∧ w.cell? ⟨g, o + i * 3 + 1, none⟩ = some (.bool x.2.1) := by
  obtain ⟨_, a, c, h1, _⟩ := XRow.at h hx
  exact ⟨h1 0 _ rfl, h1 1 _ rfl⟩
set_option maxRecDepth 100000 in
set_option maxHeartbeats 12800000 in
theorem rvalues_any (w : World) (sn : Int) (is su : ByteArray) (ka : Option Addr) (kn kc : Nat) (xa : Option Addr) (n xc : Nat) (sa : Option Addr) (sl sc : Nat) (ib sb : List Nat) (xs : List XV) (sg : Bool) (hib : strL is = ib) (hsb : strL su = sb) (hx : XIn w xa n xc xs) (hkn : kn ≤ maxLen) (hsl : sl ≤ maxLen) :
    Calls Tryz.prog 28 #[.agg #[.int .u64 sn, .string is, .string su, .slice ka kn kc, .slice xa n xc, .slice sa sl sc], .bool sg] w fun e w' => e = .returned (.int .i64 (vQ ib sb kn xs sg sl : Nat)) ∧ Below w.heap.size w w' := by
  have HN1 := Lib.hid (fun w => rnamed_any is ib hib w)
  have HN2 := Lib.hid (fun w => rnamed_any su sb hsb w)
  have HB1 := Lib.hid ((Below.refl w.heap.size w).alloc (Nat.le_refl _) (.cells #[.int .u64 sn, .string is, .string su, .slice ka kn kc, .slice xa n xc, .slice sa sl sc] 26))
  have HX := Lib.hid (hx.below HB1.out)
  have hn := hx.1
  have hnl := hx.2.2.1
  unfold maxLen at hkn hsl
  clear hx hib hsb
  obtain ⟨y1, hy1⟩ : ∃ y1, nameOk ib = y1 := ⟨_, rfl⟩
  obtain ⟨y2, hy2⟩ : ∃ y2, nameOk sb = y2 := ⟨_, rfl⟩
  have HY1 := Lib.hid hy1
  have HY2 := Lib.hid hy2
  rw [hy1] at HN1
  rw [hy2] at HN2
  clear hy1 hy2
  cases y1 with
  | false =>
    have HV := Lib.hid (vQ_bad (ib := ib) (sb := sb) (kn := kn) (xs := xs) (sg := sg) (sl := sl) (fun h => by have := h.1.1; rw [HY1.out] at this; cases this))
    go_enter Tryz.func28, Tryz.ntmps28
    go_wp2_with (go_at_call 50; (first | (with_reducible refine (HN1.out _).mono ?_) | (with_reducible refine (HN2.out _).mono ?_)); rintro e w' ⟨rfl, rfl⟩)
    go_ret
    exact ⟨by rw [HV.out]; rfl, HB1.out⟩
  | true =>
    cases y2 with
    | false =>
      have HV := Lib.hid (vQ_bad (ib := ib) (sb := sb) (kn := kn) (xs := xs) (sg := sg) (sl := sl) (fun h => by have := h.1.2.1; rw [HY2.out] at this; cases this))
      go_enter Tryz.func28, Tryz.ntmps28
      go_wp2_with (go_at_call 50; (first | (with_reducible refine (HN1.out _).mono ?_) | (with_reducible refine (HN2.out _).mono ?_)); rintro e w' ⟨rfl, rfl⟩)
      go_ret
      exact ⟨by rw [HV.out]; rfl, HB1.out⟩
    | true =>
      by_cases h3 : kn = 2017
      · have t3 : ((kn : Int) != 2017) = false := by simp; omega
        have H3 := Lib.hid h3
        clear h3
        by_cases h4 : sg = true ∧ sl ≠ 3373
        · obtain ⟨rfl, h4⟩ := h4
          have t4 : ((sl : Int) != 3373) = true := by simp; omega
          have HV := Lib.hid (vQ_bad (ib := ib) (sb := sb) (kn := kn) (xs := xs) (sg := true) (sl := sl) (fun h => h.2 ⟨rfl, h4⟩))
          clear h4
          go_enter Tryz.func28, Tryz.ntmps28
          go_wp2_with (go_at_call 50; (first | (with_reducible refine (HN1.out _).mono ?_) | (with_reducible refine (HN2.out _).mono ?_)); rintro e w' ⟨rfl, rfl⟩)
          go_ret
          exact ⟨by rw [HV.out]; rfl, HB1.out⟩
        · by_cases h5 : n ≤ 16
          · have t5 : ¬ (16 : Int) < (n : Int) := by omega
            have t4 : sg = true → ((sl : Int) != 3373) = false := fun h => by
              have : sl = 3373 := by
                by_cases q : sl = 3373
                · exact q
                · exact absurd ⟨h, q⟩ h4
              simp; omega
            have HC1 := Lib.hid (show C1 ib sb kn xs from ⟨HY1.out, HY2.out, H3.out, by omega⟩)
            have HVE := Lib.hid (show vQ ib sb kn xs sg sl = lkQ ib sb kn xs from by unfold vQ; rw [if_neg h4])
            cases sg with
            | false =>
              clear h4
              have HBK := Lib.hid (Blk.new w 26 [.int .u64 sn, .string is, .string su, .slice ka kn kc, .slice xa n xc, .slice sa sl sc])
              obtain ⟨w1, hw1⟩ : ∃ w1, w.alloc (.cells #[.int .u64 sn, .string is, .string su, .slice ka kn kc, .slice xa n xc, .slice sa sl sc] 26) = w1 := ⟨_, rfl⟩
              have HW1 := Lib.hid hw1
              rw [hw1] at HB1 HX HBK
              clear hw1
              go_enter Tryz.func28, Tryz.ntmps28
              go_wp2_with (go_at_call 50; (first | (with_reducible refine (HN1.out _).mono ?_) | (with_reducible refine (HN2.out _).mono ?_)); rintro e w' ⟨rfl, rfl⟩)
              try rw [HW1.out]
              have c4 : w1.cell? ⟨w.heap.size, 4, none⟩ = some (.slice xa n xc) := HBK.out.cell 4
              go_loop [7] (fun v7 => ∃ i : Nat, v7 = .int .i64 i ∧ i ≤ n ∧ ∀ (k : Nat) (x : XV), k < i → xs[k]? = some x → 1 ≤ x.1 ∧ x.1 ≤ 2147483647) (fun v7 => n - (intOf v7).toNat)
              case atStart => exact ⟨0, rfl, Nat.zero_le _, fun k x h => absurd h (Nat.not_lt_zero k)⟩
              case round =>
                obtain ⟨i, rfl, hi, hall⟩ := hrel
                have HALL := Lib.hid hall
                clear hall
                by_cases hik : i < n
                · have hik1 : (i : Int) < (n : Int) := by omega
                  obtain ⟨g, o, hxa, hrow⟩ := HX.out.2.2.2.2.resolve_left (by omega)
                  obtain ⟨x, hxi⟩ : ∃ x, xs[i]? = some x := ⟨_, List.getElem?_eq_getElem (by omega)⟩
                  obtain ⟨m0, _⟩ := x_cells hrow hxi
                  have HXI := Lib.hid hxi
                  rw [hxa] at c4
                  clear hrow hxi hxa
                  by_cases hlo : x.1 < 1
                  · have HV := Lib.hid (HVE.out.trans (lk2 HC1.out (fun h => by have := h i x HXI.out; omega)))
                    go_wp2_with fail
                    go_ret
                    exact ⟨by rw [HV.out]; rfl, HB1.out⟩
                  · by_cases hhi : 2147483647 < x.1
                    · have HV := Lib.hid (HVE.out.trans (lk2 HC1.out (fun h => by have := h i x HXI.out; omega)))
                      go_wp2_with fail
                      go_ret
                      exact ⟨by rw [HV.out]; rfl, HB1.out⟩
                    · go_wp2_with fail
                      go_round
                      case rel => exact ⟨i + 1, by go_num, by omega, fun k y hk hy => by
                        by_cases e : k = i
                        · subst e; rw [HXI.out] at hy; injection hy with hy; subst hy; omega
                        · exact HALL.out k y (by omega) hy⟩
                      case measure => simp [intOf]; omega
                · have HC2 := Lib.hid (show C2 xs from fun k x hk => HALL.out k x (by have := (List.getElem?_eq_some_iff.1 hk).1; omega) hk)
                  have hni : ¬ (i : Int) < (n : Int) := by omega
                  clear hik HALL
                  go_wp2_with fail
                  clear c4
                  go_loopw [8] (fun v8 wr => ∃ i : Nat, v8 = .int .i64 i ∧ i ≤ n ∧ (∀ (k : Nat) (x : XV), k < i → xs[k]? = some x → FirstX xs x.1 k x) ∧ Below w1.heap.size w1 wr) (fun v8 _ => n - (intOf v8).toNat)
                  case atStart => exact ⟨0, rfl, Nat.zero_le _, fun k x h => absurd h (Nat.not_lt_zero k), Below.refl _ _⟩
                  case round =>
                    obtain ⟨i, rfl, hi, hfst, hbel⟩ := hrel
                    have HFST := Lib.hid hfst
                    have HBL := Lib.hid hbel
                    have c4 : wr.cell? ⟨w.heap.size, 4, none⟩ = some (.slice xa n xc) := (HBK.out.below' hbel).cell 4
                    clear hfst hbel
                    by_cases hik : i < n
                    · have hik1 : (i : Int) < (n : Int) := by omega
                      obtain ⟨x, hxi⟩ : ∃ x, xs[i]? = some x := ⟨_, List.getElem?_eq_getElem (by omega)⟩
                      have HXI := Lib.hid hxi
                      clear hxi
                      go_wp2_with fail
                      obtain ⟨wi, rfl⟩ : ∃ wi, wi = wr := ⟨_, rfl⟩
                      go_loopw [9] (fun v9 w9 => ∃ j : Nat, v9 = .int .i64 j ∧ j ≤ i ∧ (∀ (k : Nat) (y : XV), k < j → xs[k]? = some y → y.1 ≠ x.1) ∧ Below w1.heap.size w1 w9) (fun v9 _ => i - (intOf v9).toNat)
                      case atStart => exact ⟨0, rfl, Nat.zero_le _, fun k y h => absurd h (Nat.not_lt_zero k), HBL.out⟩
                      case round =>
                        obtain ⟨j, rfl, hj, hno, hb9⟩ := hrel
                        have HNO := Lib.hid hno
                        have HB9 := Lib.hid hb9
                        have c5 : wr.cell? ⟨w.heap.size, 4, none⟩ = some (.slice xa n xc) := (HBK.out.below' hb9).cell 4
                        clear hno hb9 c4
                        by_cases hji : j < i
                        · have hji1 : (j : Int) < (i : Int) := by omega
                          have hjn1 : (j : Int) < (n : Int) := by omega
                          obtain ⟨g, o, hxa, hrow⟩ := (HX.out.below HB9.out).2.2.2.2.resolve_left (by omega)
                          obtain ⟨y, hyj⟩ : ∃ y, xs[j]? = some y := ⟨_, List.getElem?_eq_getElem (by omega)⟩
                          obtain ⟨m0, _⟩ := x_cells hrow HXI.out
                          obtain ⟨m1, _⟩ := x_cells hrow hyj
                          have HYJ := Lib.hid hyj
                          rw [hxa] at c5
                          clear hrow hyj hxa
                          by_cases hyx : y.1 = x.1
                          · have HV := Lib.hid (HVE.out.trans (lk3 HC1.out HC2.out (fun h => (h i x HXI.out).2.2 j y hji HYJ.out hyx)))
                            have t0 : (y.1 == x.1) = true := by simp [hyx]
                            clear hyx
                            go_wp2_with fail
                            go_quiet (fail)
                            have HBQ := Lib.hid (HB1.out.trans ((below_drewN HB9.out nq).mono HB1.out.size))
                            go_wp2_with fail
                            go_ret
                            exact ⟨by rw [HV.out]; rfl, HBQ.out⟩
                          · have t0 : (y.1 == x.1) = false := by simp [hyx]
                            have HYX := Lib.hid hyx
                            clear hyx
                            go_wp2_with fail
                            go_quiet (fail)
                            have HBQ := Lib.hid (below_drewN HB9.out nq)
                            go_wp2_with fail
                            go_roundw
                            case rel => exact ⟨j + 1, by go_num, by omega, fun k z hk hz => by
                              by_cases e : k = j
                              · subst e; rw [HYJ.out] at hz; injection hz with hz; exact hz ▸ HYX.out
                              · exact HNO.out k z (by omega) hz, HBQ.out⟩
                            case measure => simp [intOf]; omega
                        · obtain rfl : j = i := by omega
                          clear hji
                          go_wp2_with fail
                          go_roundw
                          case rel => exact ⟨j + 1, by go_num, by omega, fun k z hk hz => by
                            by_cases e : k = j
                            · subst e; rw [HXI.out] at hz; injection hz with hz; subst hz; exact ⟨HXI.out, rfl, fun q u hq hu => HNO.out q u hq hu⟩
                            · exact HFST.out k z (by omega) hz, HB9.out⟩
                          case measure => simp [intOf]; omega
                    · have HC3 := Lib.hid (show C3 xs from fun k x hk => HFST.out k x (by have := (List.getElem?_eq_some_iff.1 hk).1; omega) hk)
                      have hni2 : ¬ (i : Int) < (n : Int) := by omega
                      clear hik HFST
                      go_wp2_with fail
                      clear c4
                      obtain ⟨wi, rfl⟩ : ∃ wi, wi = wr := ⟨_, rfl⟩
                      go_loopw [10] (fun v10 w9 => ∃ i : Nat, v10 = .int .i64 i ∧ i ≤ n ∧ (∀ (k : Nat) (x : XV), k < i → xs[k]? = some x → knownB x.1 = true ∨ x.2.1 = false) ∧ Below w1.heap.size w1 w9) (fun v10 _ => n - (intOf v10).toNat)
                      case atStart => exact ⟨0, rfl, Nat.zero_le _, fun k x h => absurd h (Nat.not_lt_zero k), HBL.out⟩
                      case round =>
                        obtain ⟨q, rfl, hq, hkn4, hb9⟩ := hrel
                        have HK4 := Lib.hid hkn4
                        have HB9 := Lib.hid hb9
                        have c5 : wr.cell? ⟨w.heap.size, 4, none⟩ = some (.slice xa n xc) := (HBK.out.below' hb9).cell 4
                        clear hkn4 hb9
                        by_cases hqn : q < n
                        · have hqn1 : (q : Int) < (n : Int) := by omega
                          obtain ⟨g, o, hxa, hrow⟩ := (HX.out.below HB9.out).2.2.2.2.resolve_left (by omega)
                          obtain ⟨x, hxq⟩ : ∃ x, xs[q]? = some x := ⟨_, List.getElem?_eq_getElem (by omega)⟩
                          obtain ⟨m0, m1⟩ := x_cells hrow hxq
                          have HXQ := Lib.hid hxq
                          have HKN := Lib.hid (rknown_any x.1 wr)
                          rw [hxa] at c5
                          obtain ⟨kb, hkb⟩ : ∃ kb, knownB x.1 = kb := ⟨_, rfl⟩
                          obtain ⟨cr, hcr⟩ : ∃ cr, x.2.1 = cr := ⟨_, rfl⟩
                          rw [hkb] at HKN
                          rw [hcr] at m1
                          have HKB := Lib.hid hkb
                          have HCR := Lib.hid hcr
                          clear hrow hxq hxa hkb hcr
                          cases cr with
                          | false =>
                            go_wp2_with (go_at_call 51; refine HKN.out.mono ?_; rintro e w' ⟨rfl, rfl⟩)
                            go_roundw
                            case rel => exact ⟨q + 1, by go_num, by omega, fun k z hk hz => by
                              by_cases e : k = q
                              · subst e; rw [HXQ.out] at hz; injection hz with hz; subst hz; exact .inr HCR.out
                              · exact HK4.out k z (by omega) hz, HB9.out⟩
                            case measure => simp [intOf]; omega
                          | true =>
                            cases kb with
                            | false =>
                              have HV := Lib.hid (HVE.out.trans (lk4 HC1.out HC2.out HC3.out (fun h => by
                                rcases h q x HXQ.out with h | h
                                · rw [HKB.out] at h; cases h
                                · rw [HCR.out] at h; cases h)))
                              have HBQ := Lib.hid (HB1.out.trans (HB9.out.mono HB1.out.size))
                              go_wp2_with (go_at_call 51; refine HKN.out.mono ?_; rintro e w' ⟨rfl, rfl⟩)
                              go_ret
                              exact ⟨by rw [HV.out]; rfl, HBQ.out⟩
                            | true =>
                              go_wp2_with (go_at_call 51; refine HKN.out.mono ?_; rintro e w' ⟨rfl, rfl⟩)
                              go_roundw
                              case rel => exact ⟨q + 1, by go_num, by omega, fun k z hk hz => by
                                by_cases e : k = q
                                · subst e; rw [HXQ.out] at hz; injection hz with hz; subst hz; exact .inl HKB.out
                                · exact HK4.out k z (by omega) hz, HB9.out⟩
                              case measure => simp [intOf]; omega
                        · have HV := Lib.hid (HVE.out.trans (lk0 HC1.out HC2.out HC3.out (fun k x hk => HK4.out k x (by have := (List.getElem?_eq_some_iff.1 hk).1; omega) hk)))
                          have hqn1 : ¬ (q : Int) < (n : Int) := by omega
                          have HBQ := Lib.hid (HB1.out.trans (HB9.out.mono HB1.out.size))
                          go_wp2_with fail
                          go_ret
                          exact ⟨by rw [HV.out]; rfl, HBQ.out⟩
            | true =>
              have t4 : ((sl : Int) != 3373) = false := t4 rfl
              clear h4
              have HBK := Lib.hid (Blk.new w 26 [.int .u64 sn, .string is, .string su, .slice ka kn kc, .slice xa n xc, .slice sa sl sc])
              obtain ⟨w1, hw1⟩ : ∃ w1, w.alloc (.cells #[.int .u64 sn, .string is, .string su, .slice ka kn kc, .slice xa n xc, .slice sa sl sc] 26) = w1 := ⟨_, rfl⟩
              have HW1 := Lib.hid hw1
              rw [hw1] at HB1 HX HBK
              clear hw1
              go_enter Tryz.func28, Tryz.ntmps28
              go_wp2_with (go_at_call 50; (first | (with_reducible refine (HN1.out _).mono ?_) | (with_reducible refine (HN2.out _).mono ?_)); rintro e w' ⟨rfl, rfl⟩)
              try rw [HW1.out]
              have c4 : w1.cell? ⟨w.heap.size, 4, none⟩ = some (.slice xa n xc) := HBK.out.cell 4
              go_loop [7] (fun v7 => ∃ i : Nat, v7 = .int .i64 i ∧ i ≤ n ∧ ∀ (k : Nat) (x : XV), k < i → xs[k]? = some x → 1 ≤ x.1 ∧ x.1 ≤ 2147483647) (fun v7 => n - (intOf v7).toNat)
              case atStart => exact ⟨0, rfl, Nat.zero_le _, fun k x h => absurd h (Nat.not_lt_zero k)⟩
              case round =>
                obtain ⟨i, rfl, hi, hall⟩ := hrel
                have HALL := Lib.hid hall
                clear hall
                by_cases hik : i < n
                · have hik1 : (i : Int) < (n : Int) := by omega
                  obtain ⟨g, o, hxa, hrow⟩ := HX.out.2.2.2.2.resolve_left (by omega)
                  obtain ⟨x, hxi⟩ : ∃ x, xs[i]? = some x := ⟨_, List.getElem?_eq_getElem (by omega)⟩
                  obtain ⟨m0, _⟩ := x_cells hrow hxi
                  have HXI := Lib.hid hxi
                  rw [hxa] at c4
                  clear hrow hxi hxa
                  by_cases hlo : x.1 < 1
                  · have HV := Lib.hid (HVE.out.trans (lk2 HC1.out (fun h => by have := h i x HXI.out; omega)))
                    go_wp2_with fail
                    go_ret
                    exact ⟨by rw [HV.out]; rfl, HB1.out⟩
                  · by_cases hhi : 2147483647 < x.1
                    · have HV := Lib.hid (HVE.out.trans (lk2 HC1.out (fun h => by have := h i x HXI.out; omega)))
                      go_wp2_with fail
                      go_ret
                      exact ⟨by rw [HV.out]; rfl, HB1.out⟩
                    · go_wp2_with fail
                      go_round
                      case rel => exact ⟨i + 1, by go_num, by omega, fun k y hk hy => by
                        by_cases e : k = i
                        · subst e; rw [HXI.out] at hy; injection hy with hy; subst hy; omega
                        · exact HALL.out k y (by omega) hy⟩
                      case measure => simp [intOf]; omega
                · have HC2 := Lib.hid (show C2 xs from fun k x hk => HALL.out k x (by have := (List.getElem?_eq_some_iff.1 hk).1; omega) hk)
                  have hni : ¬ (i : Int) < (n : Int) := by omega
                  clear hik HALL
                  go_wp2_with fail
                  clear c4
                  go_loopw [8] (fun v8 wr => ∃ i : Nat, v8 = .int .i64 i ∧ i ≤ n ∧ (∀ (k : Nat) (x : XV), k < i → xs[k]? = some x → FirstX xs x.1 k x) ∧ Below w1.heap.size w1 wr) (fun v8 _ => n - (intOf v8).toNat)
                  case atStart => exact ⟨0, rfl, Nat.zero_le _, fun k x h => absurd h (Nat.not_lt_zero k), Below.refl _ _⟩
                  case round =>
                    obtain ⟨i, rfl, hi, hfst, hbel⟩ := hrel
                    have HFST := Lib.hid hfst
                    have HBL := Lib.hid hbel
                    have c4 : wr.cell? ⟨w.heap.size, 4, none⟩ = some (.slice xa n xc) := (HBK.out.below' hbel).cell 4
                    clear hfst hbel
                    by_cases hik : i < n
                    · have hik1 : (i : Int) < (n : Int) := by omega
                      obtain ⟨x, hxi⟩ : ∃ x, xs[i]? = some x := ⟨_, List.getElem?_eq_getElem (by omega)⟩
                      have HXI := Lib.hid hxi
                      clear hxi
                      go_wp2_with fail
                      obtain ⟨wi, rfl⟩ : ∃ wi, wi = wr := ⟨_, rfl⟩
                      go_loopw [9] (fun v9 w9 => ∃ j : Nat, v9 = .int .i64 j ∧ j ≤ i ∧ (∀ (k : Nat) (y : XV), k < j → xs[k]? = some y → y.1 ≠ x.1) ∧ Below w1.heap.size w1 w9) (fun v9 _ => i - (intOf v9).toNat)
                      case atStart => exact ⟨0, rfl, Nat.zero_le _, fun k y h => absurd h (Nat.not_lt_zero k), HBL.out⟩
                      case round =>
                        obtain ⟨j, rfl, hj, hno, hb9⟩ := hrel
                        have HNO := Lib.hid hno
                        have HB9 := Lib.hid hb9
                        have c5 : wr.cell? ⟨w.heap.size, 4, none⟩ = some (.slice xa n xc) := (HBK.out.below' hb9).cell 4
                        clear hno hb9 c4
                        by_cases hji : j < i
                        · have hji1 : (j : Int) < (i : Int) := by omega
                          have hjn1 : (j : Int) < (n : Int) := by omega
                          obtain ⟨g, o, hxa, hrow⟩ := (HX.out.below HB9.out).2.2.2.2.resolve_left (by omega)
                          obtain ⟨y, hyj⟩ : ∃ y, xs[j]? = some y := ⟨_, List.getElem?_eq_getElem (by omega)⟩
                          obtain ⟨m0, _⟩ := x_cells hrow HXI.out
                          obtain ⟨m1, _⟩ := x_cells hrow hyj
                          have HYJ := Lib.hid hyj
                          rw [hxa] at c5
                          clear hrow hyj hxa
                          by_cases hyx : y.1 = x.1
                          · have HV := Lib.hid (HVE.out.trans (lk3 HC1.out HC2.out (fun h => (h i x HXI.out).2.2 j y hji HYJ.out hyx)))
                            have t0 : (y.1 == x.1) = true := by simp [hyx]
                            clear hyx
                            go_wp2_with fail
                            go_quiet (fail)
                            have HBQ := Lib.hid (HB1.out.trans ((below_drewN HB9.out nq).mono HB1.out.size))
                            go_wp2_with fail
                            go_ret
                            exact ⟨by rw [HV.out]; rfl, HBQ.out⟩
                          · have t0 : (y.1 == x.1) = false := by simp [hyx]
                            have HYX := Lib.hid hyx
                            clear hyx
                            go_wp2_with fail
                            go_quiet (fail)
                            have HBQ := Lib.hid (below_drewN HB9.out nq)
                            go_wp2_with fail
                            go_roundw
                            case rel => exact ⟨j + 1, by go_num, by omega, fun k z hk hz => by
                              by_cases e : k = j
                              · subst e; rw [HYJ.out] at hz; injection hz with hz; exact hz ▸ HYX.out
                              · exact HNO.out k z (by omega) hz, HBQ.out⟩
                            case measure => simp [intOf]; omega
                        · obtain rfl : j = i := by omega
                          clear hji
                          go_wp2_with fail
                          go_roundw
                          case rel => exact ⟨j + 1, by go_num, by omega, fun k z hk hz => by
                            by_cases e : k = j
                            · subst e; rw [HXI.out] at hz; injection hz with hz; subst hz; exact ⟨HXI.out, rfl, fun q u hq hu => HNO.out q u hq hu⟩
                            · exact HFST.out k z (by omega) hz, HB9.out⟩
                          case measure => simp [intOf]; omega
                    · have HC3 := Lib.hid (show C3 xs from fun k x hk => HFST.out k x (by have := (List.getElem?_eq_some_iff.1 hk).1; omega) hk)
                      have hni2 : ¬ (i : Int) < (n : Int) := by omega
                      clear hik HFST
                      go_wp2_with fail
                      clear c4
                      obtain ⟨wi, rfl⟩ : ∃ wi, wi = wr := ⟨_, rfl⟩
                      go_loopw [10] (fun v10 w9 => ∃ i : Nat, v10 = .int .i64 i ∧ i ≤ n ∧ (∀ (k : Nat) (x : XV), k < i → xs[k]? = some x → knownB x.1 = true ∨ x.2.1 = false) ∧ Below w1.heap.size w1 w9) (fun v10 _ => n - (intOf v10).toNat)
                      case atStart => exact ⟨0, rfl, Nat.zero_le _, fun k x h => absurd h (Nat.not_lt_zero k), HBL.out⟩
                      case round =>
                        obtain ⟨q, rfl, hq, hkn4, hb9⟩ := hrel
                        have HK4 := Lib.hid hkn4
                        have HB9 := Lib.hid hb9
                        have c5 : wr.cell? ⟨w.heap.size, 4, none⟩ = some (.slice xa n xc) := (HBK.out.below' hb9).cell 4
                        clear hkn4 hb9
                        by_cases hqn : q < n
                        · have hqn1 : (q : Int) < (n : Int) := by omega
                          obtain ⟨g, o, hxa, hrow⟩ := (HX.out.below HB9.out).2.2.2.2.resolve_left (by omega)
                          obtain ⟨x, hxq⟩ : ∃ x, xs[q]? = some x := ⟨_, List.getElem?_eq_getElem (by omega)⟩
                          obtain ⟨m0, m1⟩ := x_cells hrow hxq
                          have HXQ := Lib.hid hxq
                          have HKN := Lib.hid (rknown_any x.1 wr)
                          rw [hxa] at c5
                          obtain ⟨kb, hkb⟩ : ∃ kb, knownB x.1 = kb := ⟨_, rfl⟩
                          obtain ⟨cr, hcr⟩ : ∃ cr, x.2.1 = cr := ⟨_, rfl⟩
                          rw [hkb] at HKN
                          rw [hcr] at m1
                          have HKB := Lib.hid hkb
                          have HCR := Lib.hid hcr
                          clear hrow hxq hxa hkb hcr
                          cases cr with
                          | false =>
                            go_wp2_with (go_at_call 51; refine HKN.out.mono ?_; rintro e w' ⟨rfl, rfl⟩)
                            go_roundw
                            case rel => exact ⟨q + 1, by go_num, by omega, fun k z hk hz => by
                              by_cases e : k = q
                              · subst e; rw [HXQ.out] at hz; injection hz with hz; subst hz; exact .inr HCR.out
                              · exact HK4.out k z (by omega) hz, HB9.out⟩
                            case measure => simp [intOf]; omega
                          | true =>
                            cases kb with
                            | false =>
                              have HV := Lib.hid (HVE.out.trans (lk4 HC1.out HC2.out HC3.out (fun h => by
                                rcases h q x HXQ.out with h | h
                                · rw [HKB.out] at h; cases h
                                · rw [HCR.out] at h; cases h)))
                              have HBQ := Lib.hid (HB1.out.trans (HB9.out.mono HB1.out.size))
                              go_wp2_with (go_at_call 51; refine HKN.out.mono ?_; rintro e w' ⟨rfl, rfl⟩)
                              go_ret
                              exact ⟨by rw [HV.out]; rfl, HBQ.out⟩
                            | true =>
                              go_wp2_with (go_at_call 51; refine HKN.out.mono ?_; rintro e w' ⟨rfl, rfl⟩)
                              go_roundw
                              case rel => exact ⟨q + 1, by go_num, by omega, fun k z hk hz => by
                                by_cases e : k = q
                                · subst e; rw [HXQ.out] at hz; injection hz with hz; subst hz; exact .inl HKB.out
                                · exact HK4.out k z (by omega) hz, HB9.out⟩
                              case measure => simp [intOf]; omega
                        · have HV := Lib.hid (HVE.out.trans (lk0 HC1.out HC2.out HC3.out (fun k x hk => HK4.out k x (by have := (List.getElem?_eq_some_iff.1 hk).1; omega) hk)))
                          have hqn1 : ¬ (q : Int) < (n : Int) := by omega
                          have HBQ := Lib.hid (HB1.out.trans (HB9.out.mono HB1.out.size))
                          go_wp2_with fail
                          go_ret
                          exact ⟨by rw [HV.out]; rfl, HBQ.out⟩
          · have t5 : (16 : Int) < (n : Int) := by omega
            have HV := Lib.hid (vQ_bad (ib := ib) (sb := sb) (kn := kn) (xs := xs) (sg := sg) (sl := sl) (fun h => by have := h.1.2.2.2; omega))
            cases sg with
            | false =>
              clear h4
              go_enter Tryz.func28, Tryz.ntmps28
              go_wp2_with (go_at_call 50; (first | (with_reducible refine (HN1.out _).mono ?_) | (with_reducible refine (HN2.out _).mono ?_)); rintro e w' ⟨rfl, rfl⟩)
              go_ret
              exact ⟨by rw [HV.out]; rfl, HB1.out⟩
            | true =>
              have t4 : ((sl : Int) != 3373) = false := by
                have : sl = 3373 := by
                  by_cases q : sl = 3373
                  · exact q
                  · exact absurd ⟨rfl, q⟩ h4
                simp; omega
              clear h4
              go_enter Tryz.func28, Tryz.ntmps28
              go_wp2_with (go_at_call 50; (first | (with_reducible refine (HN1.out _).mono ?_) | (with_reducible refine (HN2.out _).mono ?_)); rintro e w' ⟨rfl, rfl⟩)
              go_ret
              exact ⟨by rw [HV.out]; rfl, HB1.out⟩
      · have t3 : ((kn : Int) != 2017) = true := by simp; omega
        have HV := Lib.hid (vQ_bad (ib := ib) (sb := sb) (kn := kn) (xs := xs) (sg := sg) (sl := sl) (fun h => h3 h.1.2.2.1))
        clear h3
        go_enter Tryz.func28, Tryz.ntmps28
        go_wp2_with (go_at_call 50; (first | (with_reducible refine (HN1.out _).mono ?_) | (with_reducible refine (HN2.out _).mono ?_)); rintro e w' ⟨rfl, rfl⟩)
        go_ret
        exact ⟨by rw [HV.out]; rfl, HB1.out⟩
end Go.Proofs.YtbabpmncdphnjaaGreat
