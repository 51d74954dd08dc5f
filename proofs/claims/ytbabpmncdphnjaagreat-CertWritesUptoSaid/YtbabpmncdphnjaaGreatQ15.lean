/- Parts of proofs of statements, each text behind those that it stands on. No condition of its own. -/
import Derived.Test.YtbabpmncdphnjaaGreatQ08
namespace Go.Proofs.YtbabpmncdphnjaaGreat
open Go.RowKit
set_option linter.unusedVariables false
set_option maxRecDepth 100000
def uintC (t : Nat) (b : List Nat) (k : Tr) : Nat := if t ≠ 2 then 123 else if k.len = 0 ∧ uok b = true then 0 else 127
def uintV (t : Nat) (b : List Nat) (k : Tr) : Nat := if t = 2 ∧ k.len = 0 ∧ uok b = true then beV b else 0
theorem uint_tag {t : Nat} {b : List Nat} {k : Tr} (h : t ≠ 2) : uintV t b k = 0 ∧ uintC t b k = 123 := ⟨by unfold uintV; rw [if_neg (fun hh => h hh.1)], by unfold uintC; rw [if_pos h]⟩
theorem uint_bad {b : List Nat} {k : Tr} (h : ¬ (k.len = 0 ∧ uok b = true)) : uintV 2 b k = 0 ∧ uintC 2 b k = 127 := ⟨by unfold uintV; rw [if_neg (fun hh => h hh.2)], by unfold uintC; rw [if_neg (by simp), if_neg h]⟩
theorem uint_good {b : List Nat} {k : Tr} (h : k.len = 0 ∧ uok b = true) : uintV 2 b k = beV b ∧ uintC 2 b k = 0 := ⟨by unfold uintV; rw [if_pos ⟨rfl, h⟩], by unfold uintC; rw [if_neg (by simp), if_pos h]⟩
def UintIs (v : Nat) (x : Nat) (w : World) (e : Ending) (w' : World) : Prop := e = .returned (.tuple #[.int .u64 (v : Nat), .int .i64 (x : Nat)]) ∧ Below w.heap.size w w'
theorem UintIs.of {v u : Nat} {x y : Nat} (h : v = u ∧ x = y) {w : World} : ∀ w', Below w.heap.size w w' → UintIs v x w (.returned (.tuple #[.int .u64 (u : Nat), .int .i64 (y : Nat)])) w' := by
  obtain ⟨rfl, rfl⟩ := h
  exact fun w' hb => ⟨rfl, hb⟩
theorem beV_take (l : List Nat) (k : Nat) (h : k < l.length) : beV (l.take (k + 1)) = 256 * beV (l.take k) + l.getD k 0 := by rw [take_snoc l k h, beV_snoc]
theorem beV_take_lt (l : List Nat) (k : Nat) (hk : k ≤ 7) (h : k ≤ l.length) (h8 : ∀ x ∈ l, x < 256) : beV (l.take k) < 72057594037927936 := by
  have h1 := beV_lt (l.take k) (fun x hx => h8 x (List.mem_of_mem_take hx))
  rw [List.length_take, Nat.min_eq_left h] at h1
  have h2 : (256 : Nat) ^ k ≤ 256 ^ 7 := Nat.pow_le_pow_right (by decide) hk
  have h3 : (256 : Nat) ^ 7 = 72057594037927936 := rfl
  omega
theorem u64_or_byte (v x : Nat) (hv : v < 72057594037927936) (hx : x < 256) : bits .or .u64 ((v : Int) * 256) (x : Int) = ((256 * v + x : Nat) : Int) := by
  have h := u64_or_nat (256 * v) x (by omega) (by omega)
  rw [nat_join 8 (256 * v) x (by omega) (by omega)] at h
  rw [← h]; congr 1; omega
set_option maxHeartbeats 4000000 in
theorem Uint_any (w : World) (t : Nat) (b : List Nat) (k : Tr) (a : Option Addr) (c : Nat) (a' : Option Addr) (c' : Nat) (hin : ItIn w t a c a' c' b k) :
    Calls Tryz.prog 67 #[itV t a b.length c a' k.len c'] w (UintIs (uintV t b k) (uintC t b k) w) := by
  obtain ⟨ht, hb, hk⟩ := hin
  have h0 : ∀ o, Below w.heap.size w (w.alloc o) := fun o => (Below.refl _ w).alloc (Nat.le_refl _) o
  have hs0 : ∀ o, w.heap.size ≤ (w.alloc o).heap.size := fun o => by simp
  by_cases h3 : t = 2
  · subst h3
    by_cases hkl : k.len = 0
    · rw [hkl]
      by_cases hbl : b.length = 0
      · have HX := Lib.hid (uint_bad (b := b) (k := k) (fun h => (of_decide_eq_true h.2).1 hbl))
        rw [hbl]
        clear hb hk
        go_enter Tryz.func67, Tryz.ntmps67
        go_wp2_with (go_at_call 100; refine (bodyOf_ok 2 _ _ _ _ _ _).mono ?_; rintro e w1 ⟨rfl, hb1⟩)
        go_ret2
        exact UintIs.of HX.out _ ((h0 _).trans (hb1.mono (hs0 _)))
      · obtain ⟨B, o, rfl, hc⟩ := hb.1.2.2.2.resolve_left hbl
        have HC := Lib.hid (fun wx (h : Below w.heap.size w wx) i hi => (h.cell (World.block_lt_of_cell? w _ (hc i hi))).trans (hc i hi))
        have h8 : ∀ x ∈ b, x < 256 := hb.1.2.2.1
        have hcn := hb.2.1
        have hbm : b.length ≤ 140737488355328 := hb.2.2.2.1
        have H8 := Lib.hid h8
        have hbl2 : (0 : Int) < (b.length : Int) := by omega
        have hbl1 := eqzI hbl
        clear hb hk hc
        have HU := Lib.hid (fun (h : uok b = true) => of_decide_eq_true h)
        have HUD := Lib.hid (fun h => decide_eq_true h : _ → uok b = true)
        obtain ⟨x0, hx0⟩ : ∃ x, b.getD 0 0 = x := ⟨_, rfl⟩
        have hx08 : x0 < 256 := by rw [← hx0]; exact getD_lt h8 0
        by_cases hge : 128 ≤ x0
        · have hgi : (128 : Int) ≤ (x0 : Int) := by omega
          have HX := Lib.hid (uint_bad (b := b) (k := k) (fun h => by have := (HU.out h.2).2.1; omega))
          have HC0 := Lib.hid (fun wx h => by have := HC.out wx h 0 (by omega); rwa [Nat.add_zero, hx0] at this)
          clear HC HU HUD hx0
          generalize b.length = bn at *
          go_enter Tryz.func67, Tryz.ntmps67
          go_wp2_with (go_at_call 100; refine (bodyOf_ok 2 _ _ _ _ _ _).mono ?_; rintro e w1 ⟨rfl, hb1⟩; have hbw := Lib.hid ((h0 _).trans (hb1.mono (hs0 _))); have c1 := HC0.out w1 hbw.out)
          go_ret2
          exact UintIs.of HX.out _ hbw.out
        · have hgi : ¬ (128 : Int) ≤ (x0 : Int) := by omega
          have HC0 := Lib.hid (fun wx h => by have := HC.out wx h 0 (by omega); rwa [Nat.add_zero, hx0] at this)
          by_cases hz : x0 = 0 ∧ 1 < b.length
          · obtain ⟨rfl, hl1⟩ := hz
            have hl1i : (1 : Int) < (b.length : Int) := by omega
            obtain ⟨x1, hx1⟩ : ∃ x, b.getD 1 0 = x := ⟨_, rfl⟩
            have hx18 : x1 < 256 := by rw [← hx1]; exact getD_lt h8 1
            have HC1 := Lib.hid (fun wx h => by have := HC.out wx h 1 hl1; rwa [hx1] at this)
            have hc1 : ¬ c = 1 := by omega
            by_cases hlt : x1 < 128
            · have hlti : (x1 : Int) < 128 := by omega
              have HX := Lib.hid (uint_bad (b := b) (k := k) (fun h => (HU.out h.2).2.2.1 ⟨hl1, hx0, by omega⟩))
              clear HC HU HUD hx0 hx1
              generalize b.length = bn at *
              go_enter Tryz.func67, Tryz.ntmps67
              go_wp2_with (go_at_call 100; refine (bodyOf_ok 2 _ _ _ _ _ _).mono ?_; rintro e w1 ⟨rfl, hb1⟩; have hbw := Lib.hid ((h0 _).trans (hb1.mono (hs0 _))); have c1 := HC0.out w1 hbw.out; have c2 := HC1.out w1 hbw.out)
              go_ret2
              exact UintIs.of HX.out _ hbw.out
            · have hlti : ¬ (x1 : Int) < 128 := by omega
              by_cases h9 : 9 < b.length
              · have HX := Lib.hid (uint_bad (b := b) (k := k) (fun h => by have := (HU.out h.2).2.2.2; rw [if_pos hx0] at this; omega))
                have h9i : (8 : Int) < (b.length : Int) - 1 := by omega
                clear HC HU HUD hx0 hx1
                generalize b.length = bn at *
                go_enter Tryz.func67, Tryz.ntmps67
                go_wp2_with (go_at_call 100; refine (bodyOf_ok 2 _ _ _ _ _ _).mono ?_; rintro e w1 ⟨rfl, hb1⟩; have hbw := Lib.hid ((h0 _).trans (hb1.mono (hs0 _))); have c1 := HC0.out w1 hbw.out; have c2 := HC1.out w1 hbw.out)
                go_ret2
                exact UintIs.of HX.out _ hbw.out
              · have hlen9 : b.length ≤ 9 := by omega
                have h9i : ¬ (8 : Int) < (b.length : Int) - 1 := by omega
                have HX := Lib.hid (uint_good (b := b) (k := k) ⟨hkl, HUD.out ⟨hbl, by omega, fun h => by omega, by rw [if_pos hx0]; exact hlen9⟩⟩)
                obtain ⟨l, hl⟩ : ∃ l, b = 0 :: l := by cases b with | nil => simp at hbl | cons y l => exact ⟨l, by simp at hx0; rw [hx0]⟩
                have HLV := Lib.hid (show beV b = beV l by rw [hl, beV_zero])
                obtain ⟨ln, hln⟩ : ∃ n, l.length = n := ⟨_, rfl⟩
                have HLN := Lib.hid hln
                have hbln : b.length = ln + 1 := by rw [hl]; simp [hln]
                have hsub : ((ln + 1 : Nat) : Int) - 1 = (ln : Int) := by omega
                have HL8 := Lib.hid (show ∀ x ∈ l, x < 256 from fun x hx => H8.out x (by rw [hl]; simp [hx]))
                have HCL := Lib.hid (fun wx (h : Below w.heap.size w wx) q (hq : q < ln) => (by have := HC.out wx h (q + 1) (by omega); rw [hl] at this; simpa [Nat.add_assoc, Nat.add_comm 1 q] using this : wx.cell? ⟨B, o + 1 + q, none⟩ = some (.int .u8 (l.getD q 0 : Nat))))
                clear HC HU HUD hx0 hx1 hl hln
                rw [hbln] at hl1 hl1i hlen9 h9i hbl hbl2 hbl1 hcn hbm ⊢
                clear hbln
                have hle8 : ln ≤ 8 := by omega
                go_enter Tryz.func67, Tryz.ntmps67
                go_wp2_with (go_at_call 100; refine (bodyOf_ok 2 _ _ _ _ _ _).mono ?_; rintro e w1 ⟨rfl, hb1⟩; have hbw := Lib.hid ((h0 _).trans (hb1.mono (hs0 _))); have c1 := HC0.out w1 hbw.out; have c2 := HC1.out w1 hbw.out)
                go_loopw [6, 8, 46] (fun v p i wr => ∃ q, q ≤ ln ∧ i = .int .i64 (q : Nat) ∧ v = .int .u64 (beV (l.take q) : Nat) ∧ Below w.heap.size w wr) (fun _ _ i _ => ln - (intOf i).toNat)
                case atStart => exact ⟨0, Nat.zero_le _, rfl, by simp [beV], hbw.out⟩
                case round =>
                  obtain ⟨q, hq, rfl, rfl, hbel⟩ := hrel
                  by_cases hql : q < ln
                  · have hqi : (q : Int) < (ln : Int) := by omega
                    have cq := HCL.out wr hbel q hql
                    have hV := beV_take_lt l q (by omega) (by rw [HLN.out]; exact hq) HL8.out
                    have hS := beV_take l q (by rw [HLN.out]; exact hql)
                    have hy8 : l.getD q 0 < 256 := getD_lt HL8.out q
                    have HS := Lib.hid hS
                    obtain ⟨y, hy⟩ : ∃ y, l.getD q 0 = y := ⟨_, rfl⟩
                    obtain ⟨V, hVe⟩ : ∃ V, beV (l.take q) = V := ⟨_, rfl⟩
                    rw [hy, hVe] at HS
                    rw [hy] at cq hy8
                    rw [hVe] at hV ⊢
                    have hor := u64_or_byte V y hV hy8
                    clear hS hy hVe
                    go_wp2_with fail
                    go_roundw
                    case rel => exact ⟨q + 1, by omega, by go_num, by rw [HS.out]; go_num, hbel⟩
                    case measure => simp [intOf]; omega
                  · have hqi : ¬ (q : Int) < (ln : Int) := by omega
                    have HE := Lib.hid (show beV (l.take q) = beV l by rw [List.take_of_length_le (by rw [HLN.out]; omega)])
                    rw [HE.out]
                    go_wp2_with fail
                    go_ret2
                    exact UintIs.of (by rw [HX.out.1, HX.out.2]; exact ⟨HLV.out, rfl⟩) _ hbel
          · by_cases hx00 : x0 = 0
            · subst hx00
              have hlb : b.length = 1 := by omega
              have hl1i : ¬ (1 : Int) < (b.length : Int) := by omega
              have HX := Lib.hid (uint_good (b := b) (k := k) ⟨hkl, HUD.out ⟨hbl, by omega, fun h => by omega, by rw [if_pos hx0]; omega⟩⟩)
              obtain ⟨l, hl⟩ : ∃ l, b = l := ⟨_, rfl⟩
              have HLV := Lib.hid (show beV b = beV l by rw [hl])
              obtain ⟨ln, hln⟩ : ∃ n, l.length = n := ⟨_, rfl⟩
              have HLN := Lib.hid hln
              have hbln : b.length = ln := by rw [hl]; exact hln
              have HL8 := Lib.hid (show ∀ x ∈ l, x < 256 from fun x hx => H8.out x (by rw [hl]; exact hx))
              have HCL := Lib.hid (fun wx (h : Below w.heap.size w wx) q (hq : q < ln) => (by have := HC.out wx h q (by omega); rw [hl] at this; exact this : wx.cell? ⟨B, o + q, none⟩ = some (.int .u8 (l.getD q 0 : Nat))))
              clear HC HU HUD hx0 hl hln
              rw [hbln] at hl1i hlb hbl hbl2 hbl1 hcn hbm ⊢
              have h9i : ¬ (8 : Int) < (ln : Int) := by omega
              have hle8 : ln ≤ 8 := by omega
              clear hbln hz hlb
              go_enter Tryz.func67, Tryz.ntmps67
              go_wp2_with (go_at_call 100; refine (bodyOf_ok 2 _ _ _ _ _ _).mono ?_; rintro e w1 ⟨rfl, hb1⟩; have hbw := Lib.hid ((h0 _).trans (hb1.mono (hs0 _))); have c1 := HC0.out w1 hbw.out)
              go_loopw [6, 8, 46] (fun v p i wr => ∃ q, q ≤ ln ∧ i = .int .i64 (q : Nat) ∧ v = .int .u64 (beV (l.take q) : Nat) ∧ Below w.heap.size w wr) (fun _ _ i _ => ln - (intOf i).toNat)
              case atStart => exact ⟨0, Nat.zero_le _, rfl, by simp [beV], hbw.out⟩
              case round =>
                obtain ⟨q, hq, rfl, rfl, hbel⟩ := hrel
                by_cases hql : q < ln
                · have hqi : (q : Int) < (ln : Int) := by omega
                  have cq := HCL.out wr hbel q hql
                  have hV := beV_take_lt l q (by omega) (by rw [HLN.out]; exact hq) HL8.out
                  have hS := beV_take l q (by rw [HLN.out]; exact hql)
                  have hy8 : l.getD q 0 < 256 := getD_lt HL8.out q
                  have HS := Lib.hid hS
                  obtain ⟨y, hy⟩ : ∃ y, l.getD q 0 = y := ⟨_, rfl⟩
                  obtain ⟨V, hVe⟩ : ∃ V, beV (l.take q) = V := ⟨_, rfl⟩
                  rw [hy, hVe] at HS
                  rw [hy] at cq hy8
                  rw [hVe] at hV ⊢
                  have hor := u64_or_byte V y hV hy8
                  clear hS hy hVe
                  go_wp2_with fail
                  go_roundw
                  case rel => exact ⟨q + 1, by omega, by go_num, by rw [HS.out]; go_num, hbel⟩
                  case measure => simp [intOf]; omega
                · have hqi : ¬ (q : Int) < (ln : Int) := by omega
                  have HE := Lib.hid (show beV (l.take q) = beV l by rw [List.take_of_length_le (by rw [HLN.out]; omega)])
                  rw [HE.out]
                  go_wp2_with fail
                  go_ret2
                  exact UintIs.of (by rw [HX.out.1, HX.out.2]; exact ⟨HLV.out, rfl⟩) _ hbel
            · have hx0i := eqzI hx00
              by_cases h9 : 8 < b.length
              · have HX := Lib.hid (uint_bad (b := b) (k := k) (fun h => by have := (HU.out h.2).2.2.2; rw [if_neg (by omega)] at this; omega))
                have h9i : (8 : Int) < (b.length : Int) := by omega
                clear HC HU HUD hx0 hz
                generalize b.length = bn at *
                go_enter Tryz.func67, Tryz.ntmps67
                go_wp2_with (go_at_call 100; refine (bodyOf_ok 2 _ _ _ _ _ _).mono ?_; rintro e w1 ⟨rfl, hb1⟩; have hbw := Lib.hid ((h0 _).trans (hb1.mono (hs0 _))); have c1 := HC0.out w1 hbw.out)
                go_ret2
                exact UintIs.of HX.out _ hbw.out
              · have h9i : ¬ (8 : Int) < (b.length : Int) := by omega
                have HX := Lib.hid (uint_good (b := b) (k := k) ⟨hkl, HUD.out ⟨hbl, by omega, fun h => by omega, by rw [if_neg (by omega)]; omega⟩⟩)
                obtain ⟨l, hl⟩ : ∃ l, b = l := ⟨_, rfl⟩
                have HLV := Lib.hid (show beV b = beV l by rw [hl])
                obtain ⟨ln, hln⟩ : ∃ n, l.length = n := ⟨_, rfl⟩
                have HLN := Lib.hid hln
                have hbln : b.length = ln := by rw [hl]; exact hln
                have HL8 := Lib.hid (show ∀ x ∈ l, x < 256 from fun x hx => H8.out x (by rw [hl]; exact hx))
                have HCL := Lib.hid (fun wx (h : Below w.heap.size w wx) q (hq : q < ln) => (by have := HC.out wx h q (by omega); rw [hl] at this; exact this : wx.cell? ⟨B, o + q, none⟩ = some (.int .u8 (l.getD q 0 : Nat))))
                clear HC HU HUD hx0 hl hln
                rw [hbln] at h9 h9i hbl hbl2 hbl1 hcn hbm ⊢
                clear hbln hz
                have hle8 : ln ≤ 8 := by omega
                go_enter Tryz.func67, Tryz.ntmps67
                go_wp2_with (go_at_call 100; refine (bodyOf_ok 2 _ _ _ _ _ _).mono ?_; rintro e w1 ⟨rfl, hb1⟩; have hbw := Lib.hid ((h0 _).trans (hb1.mono (hs0 _))); have c1 := HC0.out w1 hbw.out)
                go_loopw [6, 8, 46] (fun v p i wr => ∃ q, q ≤ ln ∧ i = .int .i64 (q : Nat) ∧ v = .int .u64 (beV (l.take q) : Nat) ∧ Below w.heap.size w wr) (fun _ _ i _ => ln - (intOf i).toNat)
                case atStart => exact ⟨0, Nat.zero_le _, rfl, by simp [beV], hbw.out⟩
                case round =>
                  obtain ⟨q, hq, rfl, rfl, hbel⟩ := hrel
                  by_cases hql : q < ln
                  · have hqi : (q : Int) < (ln : Int) := by omega
                    have cq := HCL.out wr hbel q hql
                    have hV := beV_take_lt l q (by omega) (by rw [HLN.out]; exact hq) HL8.out
                    have hS := beV_take l q (by rw [HLN.out]; exact hql)
                    have hy8 : l.getD q 0 < 256 := getD_lt HL8.out q
                    have HS := Lib.hid hS
                    obtain ⟨y, hy⟩ : ∃ y, l.getD q 0 = y := ⟨_, rfl⟩
                    obtain ⟨V, hVe⟩ : ∃ V, beV (l.take q) = V := ⟨_, rfl⟩
                    rw [hy, hVe] at HS
                    rw [hy] at cq hy8
                    rw [hVe] at hV ⊢
                    have hor := u64_or_byte V y hV hy8
                    clear hS hy hVe
                    go_wp2_with fail
                    go_roundw
                    case rel => exact ⟨q + 1, by omega, by go_num, by rw [HS.out]; go_num, hbel⟩
                    case measure => simp [intOf]; omega
                  · have hqi : ¬ (q : Int) < (ln : Int) := by omega
                    have HE := Lib.hid (show beV (l.take q) = beV l by rw [List.take_of_length_le (by rw [HLN.out]; omega)])
                    rw [HE.out]
                    go_wp2_with fail
                    go_ret2
                    exact UintIs.of (by rw [HX.out.1, HX.out.2]; exact ⟨HLV.out, rfl⟩) _ hbel
    · have hx : 0 < k.len := by omega
      have HX := Lib.hid (uint_bad (b := b) (k := k) (fun h => hkl h.1))
      clear hb hk
      generalize k.len = kn at *
      go_enter Tryz.func67, Tryz.ntmps67
      go_wp2_with (go_at_call 100; refine (bodyOf_kids 2 _ _ _ _ _ _ hx _).mono ?_; rintro e w1 ⟨rfl, hb1⟩)
      go_ret2
      exact UintIs.of HX.out _ ((h0 _).trans (hb1.mono (hs0 _)))
  · have HX := Lib.hid (uint_tag (b := b) (k := k) h3)
    clear hb hk
    go_enter Tryz.func67, Tryz.ntmps67
    go_wp2_with (go_at_call 100; refine (bodyOf_tag t _ _ _ _ _ _ _ (by omega) _).mono ?_; rintro e w1 ⟨rfl, hb1⟩)
    go_ret2
    exact UintIs.of HX.out _ ((h0 _).trans (hb1.mono (hs0 _)))
end Go.Proofs.YtbabpmncdphnjaaGreat
