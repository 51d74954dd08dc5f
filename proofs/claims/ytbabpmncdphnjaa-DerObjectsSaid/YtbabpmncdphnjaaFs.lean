/- Figures are read one after the other, and OID. No condition. -/
import Derived.Test.YtbabpmncdphnjaaFr1
import Derived.Test.YtbabpmncdphnjaaBd
import Derived.Test.YtbabpmncdphnjaaFp
import Derived.Test.YtbabpmncdphnjaaRa
namespace Go.Proofs.Ytbabpmncdphnjaa
open Go.RowKit
set_option linter.unusedVariables false
set_option maxRecDepth 100000
set_option linter.unusedSimpArgs false

/-- rdL as a loop goes -/
def rdT (A : List Nat) (n : Nat) (b : List Nat) : Option (List Nat × List Nat) := match rdL n b with
  | none => none
  | some (l, s) => some (A ++ l, s)
theorem rdT_start (b : List Nat) : rdT [] 19 b = rdL 19 b := by
  unfold rdT; cases rdL 19 b with
  | none => rfl
  | some p => rfl
theorem rdT_none {A : List Nat} {n x : Nat} {b : List Nat} (h : rdFig (x :: b) = none) : rdT A (n + 1) (x :: b) = none := by
  unfold rdT; simp only [rdL, h]
theorem rdT_some {A : List Nat} {n x : Nat} {b : List Nat} {v : Nat} {r : List Nat} (h : rdFig (x :: b) = some (v, r)) : rdT A (n + 1) (x :: b) = rdT (A ++ [v]) n r := by
  unfold rdT; simp only [rdL, h]
  cases rdL n r with
  | none => rfl
  | some p => simp
theorem rdT_end {A : List Nat} {n : Nat} {b : List Nat} (h : n = 0 ∨ b = []) : rdT A n b = some (A, b) := by
  unfold rdT
  rcases h with rfl | rfl
  · simp [rdL]
  · cases n <;> simp [rdL]
theorem rdFig_lt {b : List Nat} {v : Nat} {r : List Nat} (hb : ∀ x ∈ b, x < 256) (h : rdFig b = some (v, r)) : v ≤ 4294967295 ∧ (∀ x ∈ r, x < 256) ∧ r.length < b.length := by
  obtain ⟨e, hv⟩ := rdFig_back hb h
  refine ⟨hv, fun x hx => hb x (by rw [e]; simp [hx]), ?_⟩
  rw [e, List.length_append]
  have := List.length_pos_iff.2 (fig_ne v)
  omega
/-- what readFigures answers -/
def RsIs (R : Option (List Nat)) (w : World) (e : Ending) (w' : World) : Prop :=
  Below w.heap.size w w' ∧ match R with
  | none => ∃ v, e = .returned (.tuple #[v, .bool false])
  | some F => ∃ a c, e = .returned (.tuple #[.slice a F.length c, .bool true]) ∧ WIn w' a F.length c F

set_option maxHeartbeats 4000000 in
theorem readFigures_any (w : World) (a : Option Addr) (n c : Nat) (l : List Nat) (hin : BIn w a n c l) : Calls Try.prog 59 #[.slice a n c] w (RsIs (rdFs l) w) := by
  have HIN := Lib.hid hin
  have h8 := Lib.hid (show ∀ x ∈ l, x < 256 from hin.1.2.2.1)
  have hln : l.length = n := hin.1.1
  have hnm : n ≤ 140737488355328 := hin.2.2.2.1
  have HLN := Lib.hid hln
  have HSTART := Lib.hid (show 0 < n → ∃ B o, a = some ⟨B, o, none⟩ ∧ B < w.heap.size from fun h => by
    obtain ⟨B, o, rfl, hc⟩ := hin.1.2.2.2.resolve_left (by omega)
    exact ⟨B, o, rfl, World.block_lt_of_cell? w _ (hc 0 h)⟩)
  clear hin hln
  go_enter Try.func59, Try.ntmps59
  go_wp2_with fail
  go_loopw [0, 4, 5, 6, 7] (fun b r u5 u6 u7 wr => ∃ (k : Nat) (A s : List Nat) (ab : Option Addr) (nb cb : Nat), k + A.length = 19 ∧ b = .slice ab nb cb ∧ BIn wr ab nb cb s ∧ (0 < nb → ∃ B o, ab = some ⟨B, o, none⟩ ∧ B < w.heap.size) ∧ nb ≤ n ∧ wr.ownsRow w.heap.size 39 1 r A.length (wordsV A) ∧ (∀ x ∈ A, x ≤ 4294967295) ∧ rdL 19 l = rdT A k s ∧ Below w.heap.size w wr) (fun b _ _ _ _ _ => lenOf b)
  case atStart => exact ⟨19, [], l, a, n, c, rfl, rfl, HIN.out, HSTART.out, Nat.le_refl _, World.ownsRow_nil _ _ _ _, by simp, (rdT_start l).symm, Below.refl _ _⟩
  case round =>
    obtain ⟨k, A, s, ab, nb, cb, hk, rfl, hb, hbB, hnb, hown, hA, hR, hbel⟩ := hrel
    have HB := Lib.hid hb
    have HO := Lib.hid hown
    have HA := Lib.hid hA
    have HR := Lib.hid hR
    have HBL := Lib.hid hbel
    have hsl : s.length = nb := hb.1.1
    have hs8 := Lib.hid (show ∀ x ∈ s, x < 256 from hb.1.2.2.1)
    obtain ⟨ar, cr, rfl⟩ := own_slice hown
    have HK := Lib.hid hk
    have HSL := Lib.hid hsl
    have hAl : A.length ≤ 19 := by omega
    clear hb hown hA hR hbel hk hsl
    obtain ⟨m, hm⟩ : ∃ m, A.length = m := ⟨_, rfl⟩
    have HM := Lib.hid hm
    rw [hm] at HO hAl ⊢
    clear hm
    by_cases hgo : 0 < nb ∧ m < 19
    · obtain ⟨hn0, hm19⟩ := hgo
      have hn0i : (0 : Int) < (nb : Int) := by omega
      have hm19i : (m : Int) < 19 := by omega
      obtain ⟨k', hk'⟩ : ∃ k', k = k' + 1 := ⟨k - 1, by have := HK.out; have := HM.out; omega⟩
      subst hk'
      obtain ⟨x, s', rfl⟩ : ∃ x s', s = x :: s' := by cases s with
        | nil => have := HSL.out; simp at this; omega
        | cons x s' => exact ⟨x, s', rfl⟩
      obtain ⟨B, o, rfl, hBw⟩ := hbB hn0
      have hC := readFigure_any wr (some ⟨B, o, none⟩) nb cb (x :: s') HB.out hn0
      cases hf : rdFig (x :: s') with
      | none =>
        rw [hf] at hC
        have HC := Lib.hid (hC.mono (fun e w' h => (⟨h.2, h.1⟩ : e = .returned (.tuple #[.int .u64 0, .slice none 0 0, .bool false]) ∧ Below wr.heap.size wr w')))
        have HX := Lib.hid (show rdFs l = none by unfold rdFs; rw [HR.out, rdT_none hf])
        clear hC hf
        go_wp2_with (go_at_call 89; refine HC.out.mono ?_; rintro e w2 ⟨rfl, hb2⟩)
        go_ret2
        refine ⟨HBL.out.trans (hb2.mono HBL.out.size), ?_⟩
        rw [HX.out]
        exact ⟨_, rfl⟩
      | some p =>
        obtain ⟨v, r⟩ := p
        rw [hf] at hC
        have HC := Lib.hid (hC.mono (fun e w' h => (by obtain ⟨a', c', h1, h2, h3⟩ := h.2; obtain ⟨o', rfl⟩ := h3 _ _ rfl; exact ⟨o', c', h1, h2, h.1⟩ : ∃ o' c', e = .returned (.tuple #[.int .u64 (v : Nat), .slice (some ⟨B, o', none⟩) r.length c', .bool true]) ∧ BIn w' (some ⟨B, o', none⟩) r.length c' r ∧ Below wr.heap.size wr w')))
        obtain ⟨hv, hr8, hrl⟩ := rdFig_lt hs8.out hf
        have HX := Lib.hid (show rdL 19 l = rdT (A ++ [v]) k' r by rw [HR.out, rdT_some hf])
        have HR8 := Lib.hid hr8
        have hrn : r.length < nb := by have := HSL.out; omega
        have HA2 := Lib.hid (show ∀ x ∈ A ++ [v], x ≤ 4294967295 from fun y hy => by rcases List.mem_append.1 hy with h | h; exact HA.out y h; (simp at h; omega))
        clear hC hf hr8
        go_wp2_with (first | (go_at_call 89; refine HC.out.mono ?_; rintro e w2 ⟨o2, c2, rfl, hi2, hb2⟩; have HI2 := Lib.hid hi2; have HO2 := Lib.hid (own_below HO.out hb2); have HB2 := Lib.hid (HBL.out.trans (hb2.mono HBL.out.size)); clear hi2) | (at_builtin; refine wpList_append_words rfl (.tmp 24) (.tmp 26) rfl w.heap.size (.slice ar m cr) m A rfl (own_below HO2.out (Gr.alloc w2 _)) (some ⟨w2.heap.size, 0, none⟩) 1 1 [v] rfl (wone w2 v (by omega)) (by omega) (by have := HB2.out.size; simp; omega) ?_; intro v4 w4 ho4 hg4))
        have hb3 := HB2.out.alloc HB2.out.size (.cells #[.int .u64 (v : Nat)] 39)
        have hb4 : Below w.heap.size w w4 := hb3.grown hg4 hb3.size (fun x hx => (HO2.out.lt x hx).1)
        have hi4 := HI2.out.at hBw HB2.out hb4
        go_roundw
        case rel => exact ⟨k', A ++ [v], r, _, r.length, c2, by have := HK.out; simp; omega, rfl, hi4, fun _ => ⟨B, o2, rfl, hBw⟩, by omega, by rw [List.length_append, HM.out]; exact ho4, HA2.out, HX.out, hb4⟩
        case measure => simp only [lenOf]; omega
    · have HX := Lib.hid (show rdL 19 l = some (A, s) by
        rw [HR.out]
        exact rdT_end (by
          by_cases h0 : 0 < nb
          · left; have := HK.out; have := HM.out; omega
          · right; exact List.eq_nil_of_length_eq_zero (by rw [HSL.out]; omega)))
      have HWI := Lib.hid (ownw_in HO.out (fun x hx => by have := HA.out x hx; omega) (by omega))
      by_cases hn0 : 0 < nb
      · have hm : ¬ m < 19 := fun h => hgo ⟨hn0, h⟩
        have hn0i : (0 : Int) < (nb : Int) := by omega
        have hmi : ¬ (m : Int) < 19 := by omega
        have hmp : (0 : Int) < (m : Int) := by omega
        have hnz := eqzI (show nb ≠ 0 by omega)
        have HY := Lib.hid (show rdFs l = none by
          unfold rdFs; rw [HX.out]; simp only; rw [if_neg]; rintro ⟨_, h⟩; have := HSL.out; rw [h] at this; simp at this; omega)
        go_wp2_with fail
        go_ret2
        refine ⟨HBL.out, ?_⟩
        rw [HY.out]
        exact ⟨_, rfl⟩
      · obtain rfl : nb = 0 := by omega
        by_cases hm0 : 0 < m
        · have hmp : (0 : Int) < (m : Int) := by omega
          have HY := Lib.hid (show rdFs l = some A by
            unfold rdFs; rw [HX.out]; simp only; rw [if_pos]; exact ⟨fun h => by have := HM.out; rw [h] at this; simp at this; omega, List.eq_nil_of_length_eq_zero (by rw [HSL.out])⟩)
          obtain ⟨aw, cw, ew, hww, _⟩ := HWI.out
          injection ew with e1 e2 e3
          subst e1 e3
          have HW2 := Lib.hid hww
          clear e2 hww
          go_wp2_with fail
          go_ret2
          refine ⟨HBL.out, ?_⟩
          rw [HY.out]
          refine ⟨ar, cr, by first | (rw [HM.out]; done) | (rw [HM.out]; rfl), ?_⟩
          rw [HM.out]
          exact HW2.out
        · obtain rfl : m = 0 := by omega
          have HY := Lib.hid (show rdFs l = none by
            unfold rdFs; rw [HX.out]; simp only; rw [if_neg]; rintro ⟨h, _⟩; exact h (List.eq_nil_of_length_eq_zero HM.out))
          go_wp2_with fail
          go_ret2
          refine ⟨HBL.out, ?_⟩
          rw [HY.out]
          exact ⟨_, rfl⟩
end Go.Proofs.Ytbabpmncdphnjaa
