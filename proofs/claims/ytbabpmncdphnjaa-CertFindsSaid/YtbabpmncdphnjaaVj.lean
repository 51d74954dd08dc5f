/- Numbers that are read, the document's way. No condition. -/
import Derived.Test.YtbabpmncdphnjaaVi
namespace Go.Proofs.Ytbabpmncdphnjaa
open Go.RowKit
set_option linter.unusedVariables false
set_option maxRecDepth 100000

set_option maxHeartbeats 4000000 in
theorem refUint_any (w : World) (t : Nat) (b : List Nat) (k : Tr) (a : Option Addr) (c : Nat) (a' : Option Addr) (c' : Nat) (hin : ItIn w t a c a' c' b k) :
    Calls Try.prog 21 #[itV t a b.length c a' k.len c'] w (UintIs (uintV t b k) (uintC t b k) w) := by
  obtain ⟨ht, hb, hk⟩ := hin
  have h0 : ∀ o, Below w.heap.size w (w.alloc o) := fun o => (Below.refl _ w).alloc (Nat.le_refl _) o
  by_cases h3 : t = 2
  · subst h3
    by_cases hbl : b.length = 0
    · have HX := Lib.hid (uint_bad (b := b) (k := k) (fun h => (of_decide_eq_true h.2).1 hbl))
      rw [hbl]
      clear hb hk
      generalize k.len = kn at *
      go_enter Try.func21, Try.ntmps21
      go_wp2
      go_ret2
      exact UintIs.of HX.out _ (h0 _)
    · by_cases hkl : k.len = 0
      · rw [hkl]
        obtain ⟨B, o, rfl, hc⟩ := hb.1.2.2.2.resolve_left hbl
        have HC := Lib.hid (fun wx (h : Below w.heap.size w wx) i hi => (h.cell (World.block_lt_of_cell? w _ (hc i hi))).trans (hc i hi))
        have h8 : ∀ x ∈ b, x < 256 := hb.1.2.2.1
        have hcn := hb.2.1
        have hbm : b.length ≤ 140737488355328 := hb.2.2.2.1
        have H8 := Lib.hid h8
        have hbl2 : (0 : Int) < (b.length : Int) := by omega
        have hbl1 := eqzI hbl
        clear hb hk hc
        have HU := Lib.hid (fun (h : uok b = true) => of_decide_eq_true h)
        have HUD := Lib.hid (fun h => decide_eq_true h : _ → uok b = true)
        obtain ⟨x0, hx0⟩ : ∃ x, b.getD 0 0 = x := ⟨_, rfl⟩
        have hx08 : x0 < 256 := by rw [← hx0]; exact getD_lt h8 0
        have c1 : ∀ ob, (w.alloc ob).cell? ⟨B, o, none⟩ = some (.int .u8 (x0 : Nat)) := fun ob => by have := HC.out _ (h0 ob) 0 (by omega); rwa [Nat.add_zero, hx0] at this
        by_cases hge : 128 ≤ x0
        · have hgi : (128 : Int) ≤ (x0 : Int) := by omega
          have HX := Lib.hid (uint_bad (b := b) (k := k) (fun h => by have := (HU.out h.2).2.1; omega))
          clear HC HU HUD hx0
          generalize b.length = bn at *
          go_enter Try.func21, Try.ntmps21
          go_wp2
          go_ret2
          exact UintIs.of HX.out _ (h0 _)
        · have hgi : ¬ (128 : Int) ≤ (x0 : Int) := by omega
          by_cases hl1 : 1 < b.length
          · have hl1i : (1 : Int) < (b.length : Int) := by omega
            have hc1 : ¬ c = 1 := by omega
            obtain ⟨x1, hx1⟩ : ∃ x, b.getD 1 0 = x := ⟨_, rfl⟩
            have hx18 : x1 < 256 := by rw [← hx1]; exact getD_lt h8 1
            have c2 : ∀ ob, (w.alloc ob).cell? ⟨B, o + 1, none⟩ = some (.int .u8 (x1 : Nat)) := fun ob => by have := HC.out _ (h0 ob) 1 hl1; rwa [hx1] at this
            by_cases hz : x0 = 0
            · subst hz
              by_cases hlt : x1 < 128
              · have hlti : (x1 : Int) < 128 := by omega
                have HX := Lib.hid (uint_bad (b := b) (k := k) (fun h => (HU.out h.2).2.2.1 ⟨hl1, hx0, by omega⟩))
                clear HC HU HUD hx0 hx1
                generalize b.length = bn at *
                go_enter Try.func21, Try.ntmps21
                go_wp2
                go_ret2
                exact UintIs.of HX.out _ (h0 _)
              · have hlti : ¬ (x1 : Int) < 128 := by omega
                by_cases h9 : 9 < b.length
                · have HX := Lib.hid (uint_bad (b := b) (k := k) (fun h => by have := (HU.out h.2).2.2.2; rw [if_pos hx0] at this; omega))
                  have h9i : (8 : Int) < (b.length : Int) - 1 := by omega
                  clear HC HU HUD hx0 hx1
                  generalize b.length = bn at *
                  go_enter Try.func21, Try.ntmps21
                  go_wp2
                  go_ret2
                  exact UintIs.of HX.out _ (h0 _)
                · have hlen9 : b.length ≤ 9 := by omega
                  have h9i : ¬ (8 : Int) < (b.length : Int) - 1 := by omega
                  have HX := Lib.hid (uint_good (b := b) (k := k) ⟨hkl, HUD.out ⟨hbl, by omega, fun h => by omega, by rw [if_pos hx0]; exact hlen9⟩⟩)
                  obtain ⟨l, hl⟩ : ∃ l, b = 0 :: l := by cases b with | nil => simp at hbl | cons y l => exact ⟨l, by simp at hx0; rw [hx0]⟩
                  have HLV := Lib.hid (show beV b = beV l by rw [hl, beV_zero])
                  obtain ⟨ln, hln⟩ : ∃ n, l.length = n := ⟨_, rfl⟩
                  have HLN := Lib.hid hln
                  have hbln : b.length = ln + 1 := by rw [hl]; simp [hln]
                  have HL8 := Lib.hid (show ∀ x ∈ l, x < 256 from fun x hx => H8.out x (by rw [hl]; simp [hx]))
                  have HCL := Lib.hid (fun wx (h : Below w.heap.size w wx) q (hq : q < ln) => (by have := HC.out wx h (q + 1) (by omega); rw [hl] at this; simpa [Nat.add_assoc, Nat.add_comm 1 q] using this : wx.cell? ⟨B, o + 1 + q, none⟩ = some (.int .u8 (l.getD q 0 : Nat))))
                  clear HC HU HUD hx0 hx1 hl hln
                  rw [hbln] at hl1 hl1i hlen9 h9i hbl hbl2 hbl1 hcn hbm ⊢
                  clear hbln
                  have hle8 : ln ≤ 8 := by omega
                  go_enter Try.func21, Try.ntmps21
                  go_wp2_with fail
                  go_loopw [5, 6] (fun v i wr => ∃ q, q ≤ ln ∧ i = .int .i64 (q : Nat) ∧ v = .int .u64 (beV (l.take q) : Nat) ∧ Below w.heap.size w wr) (fun _ i _ => ln - (intOf i).toNat)
                  case atStart => exact ⟨0, Nat.zero_le _, rfl, by simp [beV], h0 _⟩
                  case round =>
                    obtain ⟨q, hq, rfl, rfl, hbel⟩ := hrel
                    by_cases hql : q < ln
                    · have hqi : (q : Int) < (ln : Int) := by omega
                      have cq := HCL.out wr hbel q hql
                      have hV := beV_take_lt l q (by omega) (by rw [HLN.out]; exact hq) HL8.out
                      have hS := beV_take l q (by rw [HLN.out]; exact hql)
                      have hy8 : l.getD q 0 < 256 := getD_lt HL8.out q
                      have HS := Lib.hid hS
                      obtain ⟨y, hy⟩ : ∃ y, l.getD q 0 = y := ⟨_, rfl⟩
                      obtain ⟨V, hVe⟩ : ∃ V, beV (l.take q) = V := ⟨_, rfl⟩
                      rw [hy, hVe] at HS
                      rw [hy] at cq hy8
                      rw [hVe] at hV ⊢
                      clear hS hy hVe
                      go_wp2_with fail
                      go_roundw
                      case rel => exact ⟨q + 1, by omega, by go_num, by rw [HS.out]; go_num, hbel⟩
                      case measure => simp [intOf]; omega
                    · have hqi : ¬ (q : Int) < (ln : Int) := by omega
                      have HE := Lib.hid (show beV (l.take q) = beV l by rw [List.take_of_length_le (by rw [HLN.out]; omega)])
                      rw [HE.out]
                      go_wp2_with fail
                      go_ret2
                      exact UintIs.of (by rw [HX.out.1, HX.out.2]; exact ⟨HLV.out, rfl⟩) _ hbel
            · have hx0i := eqzI hz
              by_cases h9 : 8 < b.length
              · have HX := Lib.hid (uint_bad (b := b) (k := k) (fun h => by have := (HU.out h.2).2.2.2; rw [if_neg (by omega)] at this; omega))
                have h9i : (8 : Int) < (b.length : Int) := by omega
                clear HC HU HUD hx0 hx1
                generalize b.length = bn at *
                go_enter Try.func21, Try.ntmps21
                go_wp2
                go_ret2
                exact UintIs.of HX.out _ (h0 _)
              · have h9i : ¬ (8 : Int) < (b.length : Int) := by omega
                have HX := Lib.hid (uint_good (b := b) (k := k) ⟨hkl, HUD.out ⟨hbl, by omega, fun h => by omega, by rw [if_neg (by omega)]; omega⟩⟩)
                clear hx1
                obtain ⟨l, hl⟩ : ∃ l, b = l := ⟨_, rfl⟩
                have HLV := Lib.hid (show beV b = beV l by rw [hl])
                obtain ⟨ln, hln⟩ : ∃ n, l.length = n := ⟨_, rfl⟩
                have HLN := Lib.hid hln
                have hbln : b.length = ln := by rw [hl]; exact hln
                have HL8 := Lib.hid (show ∀ x ∈ l, x < 256 from fun x hx => H8.out x (by rw [hl]; exact hx))
                have HCL := Lib.hid (fun wx (h : Below w.heap.size w wx) q (hq : q < ln) => (by have := HC.out wx h q (by omega); rw [hl] at this; exact this : wx.cell? ⟨B, o + q, none⟩ = some (.int .u8 (l.getD q 0 : Nat))))
                clear HC HU HUD hx0 hl hln
                rw [hbln] at hl1 hl1i h9 h9i hbl hbl2 hbl1 hcn hbm ⊢
                clear hbln
                have hle8 : ln ≤ 8 := by omega
                go_enter Try.func21, Try.ntmps21
                go_wp2_with fail
                go_loopw [5, 6] (fun v i wr => ∃ q, q ≤ ln ∧ i = .int .i64 (q : Nat) ∧ v = .int .u64 (beV (l.take q) : Nat) ∧ Below w.heap.size w wr) (fun _ i _ => ln - (intOf i).toNat)
                case atStart => exact ⟨0, Nat.zero_le _, rfl, by simp [beV], h0 _⟩
                case round =>
                  obtain ⟨q, hq, rfl, rfl, hbel⟩ := hrel
                  by_cases hql : q < ln
                  · have hqi : (q : Int) < (ln : Int) := by omega
                    have cq := HCL.out wr hbel q hql
                    have hV := beV_take_lt l q (by omega) (by rw [HLN.out]; exact hq) HL8.out
                    have hS := beV_take l q (by rw [HLN.out]; exact hql)
                    have hy8 : l.getD q 0 < 256 := getD_lt HL8.out q
                    have HS := Lib.hid hS
                    obtain ⟨y, hy⟩ : ∃ y, l.getD q 0 = y := ⟨_, rfl⟩
                    obtain ⟨V, hVe⟩ : ∃ V, beV (l.take q) = V := ⟨_, rfl⟩
                    rw [hy, hVe] at HS
                    rw [hy] at cq hy8
                    rw [hVe] at hV ⊢
                    clear hS hy hVe
                    go_wp2_with fail
                    go_roundw
                    case rel => exact ⟨q + 1, by omega, by go_num, by rw [HS.out]; go_num, hbel⟩
                    case measure => simp [intOf]; omega
                  · have hqi : ¬ (q : Int) < (ln : Int) := by omega
                    have HE := Lib.hid (show beV (l.take q) = beV l by rw [List.take_of_length_le (by rw [HLN.out]; omega)])
                    rw [HE.out]
                    go_wp2_with fail
                    go_ret2
                    exact UintIs.of (by rw [HX.out.1, HX.out.2]; exact ⟨HLV.out, rfl⟩) _ hbel
          · have hl1i : ¬ (1 : Int) < (b.length : Int) := by omega
            obtain ⟨y0, rfl⟩ : ∃ y, b = [y] := List.length_eq_one_iff.1 (by omega)
            obtain rfl : y0 = x0 := hx0
            have HX := Lib.hid (uint_good (b := [y0]) (k := k) ⟨hkl, HUD.out ⟨hbl, by simp; omega, fun h => by simp at h, by split <;> simp⟩⟩)
            have HY := Lib.hid (show uintV 2 [y0] k = y0 ∧ uintC 2 [y0] k = 0 from ⟨by rw [HX.out.1]; simp [beV], HX.out.2⟩)
            have HCL := Lib.hid (fun wx (h : Below w.heap.size w wx) => (by have := HC.out wx h 0 (by simp); rw [Nat.add_zero] at this; exact this : wx.cell? ⟨B, o, none⟩ = some (.int .u8 (y0 : Nat))))
            clear HC HU HUD HX
            by_cases hz : y0 = 0
            · subst hz
              by_cases hc1 : c = 1
              · subst hc1
                go_enter Try.func21, Try.ntmps21
                go_wp2_with fail
                go_loopw [5, 6] (fun v i wr => i = .int .i64 0 ∧ v = .int .u64 0 ∧ Below w.heap.size w wr) (fun _ _ _ => 0)
                case atStart => exact ⟨rfl, rfl, h0 _⟩
                case round =>
                  obtain ⟨rfl, rfl, hbel⟩ := hrel
                  go_wp2_with fail
                  go_ret2
                  exact UintIs.of HY.out _ hbel
              · go_enter Try.func21, Try.ntmps21
                go_wp2_with fail
                go_loopw [5, 6] (fun v i wr => i = .int .i64 0 ∧ v = .int .u64 0 ∧ Below w.heap.size w wr) (fun _ _ _ => 0)
                case atStart => exact ⟨rfl, rfl, h0 _⟩
                case round =>
                  obtain ⟨rfl, rfl, hbel⟩ := hrel
                  go_wp2_with fail
                  go_ret2
                  exact UintIs.of HY.out _ hbel
            · have hx0i := eqzI hz
              go_enter Try.func21, Try.ntmps21
              go_wp2_with fail
              go_loopw [5, 6] (fun v i wr => ((i = .int .i64 0 ∧ v = .int .u64 0) ∨ (i = .int .i64 1 ∧ v = .int .u64 (y0 : Nat))) ∧ Below w.heap.size w wr) (fun _ i _ => 1 - (intOf i).toNat)
              case atStart => exact ⟨.inl ⟨rfl, rfl⟩, h0 _⟩
              case round =>
                obtain ⟨hor, hbel⟩ := hrel
                have cq := HCL.out wr hbel
                rcases hor with ⟨rfl, rfl⟩ | ⟨rfl, rfl⟩
                · go_wp2_with fail
                  go_roundw
                  case rel => exact ⟨.inr ⟨rfl, by go_num⟩, hbel⟩
                  case measure => simp [intOf]
                · go_wp2_with fail
                  go_ret2
                  exact UintIs.of HY.out _ hbel
      · have hx : (0 : Int) < (k.len : Int) := by omega
        have hbl1 := eqzI hbl
        have HX := Lib.hid (uint_bad (b := b) (k := k) (fun h => hkl h.1))
        clear hb hk
        generalize k.len = kn at *
        generalize b.length = bn at *
        go_enter Try.func21, Try.ntmps21
        go_wp2
        go_ret2
        exact UintIs.of HX.out _ (h0 _)
  · have HX := Lib.hid (uint_tag (b := b) (k := k) h3)
    have q1 : ((t : Int) != 2) = true := by simp; omega
    clear hb hk
    go_enter Try.func21, Try.ntmps21
    go_wp2
    go_ret2
    exact UintIs.of HX.out _ (h0 _)
end Go.Proofs.Ytbabpmncdphnjaa
