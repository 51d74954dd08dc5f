/- Figures are read: der's readFigure. No condition. -/
import Derived.Test.YtbabpmncdphnjaaFo
namespace Go.Proofs.Ytbabpmncdphnjaa
open Go.RowKit
set_option linter.unusedVariables false
set_option maxRecDepth 100000
set_option linter.unusedSimpArgs false

/-- what readFigure answers -/
def RfIs (a : Option Addr) (R : Option (Nat × List Nat)) (w : World) (e : Ending) (w' : World) : Prop :=
  Below w.heap.size w w' ∧ match R with
  | none => e = .returned (.tuple #[.int .u64 0, .slice none 0 0, .bool false])
  | some (v, r) => ∃ a' c', e = .returned (.tuple #[.int .u64 (v : Nat), .slice a' r.length c', .bool true]) ∧ BIn w' a' r.length c' r ∧ ∀ B f, a = some ⟨B, f, none⟩ → ∃ o, a' = some ⟨B, o, none⟩
theorem RfIs.no {a : Option Addr} {R : Option (Nat × List Nat)} {w w' : World} (h : R = none) (hb : Below w.heap.size w w') : RfIs a R w (.returned (.tuple #[.int .u64 0, .slice none 0 0, .bool false])) w' := by subst h; exact ⟨hb, rfl⟩
theorem RfIs.yes {B f o : Nat} {R : Option (Nat × List Nat)} {w w' : World} {v : Nat} {r : List Nat} (h : R = some (v, r)) (hb : Below w.heap.size w w') {n c : Nat} (hn : r.length = n) (hi : BIn w' (some ⟨B, o, none⟩) n c r) : RfIs (some ⟨B, f, none⟩) R w (.returned (.tuple #[.int .u64 (v : Nat), .slice (some ⟨B, o, none⟩) n c, .bool true])) w' := by
  subst h hn; exact ⟨hb, _, c, rfl, hi, fun B' f' e => by injection e with e; injection e with e _; subst e; exact ⟨o, rfl⟩⟩
theorem u64_or7 (v y : Nat) (hv : v ≤ 4294967295) (hy : y < 128) : bits .or .u64 ((v : Int) * 128) (y : Int) = ((128 * v + y : Nat) : Int) := by
  have h := u64_or_nat (128 * v) y (by omega) (by omega)
  rw [nat_join 7 (128 * v) y (by omega) (by omega)] at h
  rw [← h]; congr 1; omega
theorem u8_andNot (x : Nat) (hx : x < 256) : bits .andNot .u8 (x : Int) 128 = ((x % 128 : Nat) : Int) := by
  have h : ∀ x : Fin 256, bits .andNot .u8 ((x.val : Nat) : Int) 128 = ((x.val % 128 : Nat) : Int) := by decide +kernel
  exact h ⟨x, hx⟩
theorem rdGo_cons (acc x : Nat) (r : List Nat) : rdGo acc (x :: r) = if 4294967295 < 128 * acc + x % 128 then none else if x < 128 then some (128 * acc + x % 128, r) else rdGo (128 * acc + x % 128) r := rfl
theorem drop_cons (l : List Nat) (q : Nat) (h : q < l.length) : l.drop q = l.getD q 0 :: l.drop (q + 1) := by
  rw [List.drop_eq_getElem_cons h]; simp [List.getD_eq_getElem?_getD, List.getElem?_eq_getElem h]

set_option maxHeartbeats 4000000 in
theorem readFigure_any (w : World) (a : Option Addr) (n c : Nat) (l : List Nat) (hin : BIn w a n c l) (hn : 0 < n) : Calls Try.prog 89 #[.slice a n c] w (RfIs a (rdFig l) w) := by
  have hln : l.length = n := hin.1.1
  obtain ⟨B, o, rfl, hc⟩ := hin.1.2.2.2.resolve_left (by omega)
  have h8 := hin.1.2.2.1
  have hnc := hin.2.1
  have HC := Lib.hid (fun wx (h : Below w.heap.size w wx) i hi => (h.cell (World.block_lt_of_cell? w _ (hc i hi))).trans (hc i hi))
  have HIN := Lib.hid hin
  have H8 := Lib.hid h8
  have HLN := Lib.hid hln
  have c0 := hc 0 hn
  rw [Nat.add_zero] at c0
  have hni : (0 : Int) < (n : Int) := by omega
  obtain ⟨x0, hx0⟩ : ∃ x, l.getD 0 0 = x := ⟨_, rfl⟩
  rw [hx0] at c0
  have hnm : n ≤ 140737488355328 := hin.2.2.2.1
  have HX0 := Lib.hid hx0
  clear hin hc h8 hln hx0
  by_cases h128 : x0 = 128
  · subst h128
    have hX := Lib.hid (show rdFig l = none by unfold rdFig; rw [if_pos HX0.out])
    go_enter Try.func89, Try.ntmps89
    go_wp2
    go_ret3
    exact RfIs.no hX.out (Below.refl _ _)
  · have hX := Lib.hid (show rdFig l = rdGo 0 l by unfold rdFig; rw [if_neg (by rw [HX0.out]; exact h128)])
    have hq1 : ((x0 : Int) == 128) = false := by simp; omega
    go_enter Try.func89, Try.ntmps89
    go_wp2_with fail
    go_loopw [5, 6, 7, 14] (fun v k g i wr => ∃ q u : Nat, q ≤ n ∧ u ≤ 4294967295 ∧ i = .int .i64 (q : Nat) ∧ v = .int .u64 (u : Nat) ∧ rdFig l = rdGo u (l.drop q) ∧ Below w.heap.size w wr) (fun _ _ _ i _ => n - (intOf i).toNat)
    case atStart => exact ⟨0, 0, Nat.zero_le _, by omega, rfl, rfl, by rw [hX.out]; rfl, Below.refl _ _⟩
    case round =>
      obtain ⟨q, u, hq, hu, rfl, rfl, hR, hbel⟩ := hrel
      have HR := Lib.hid hR
      clear hR
      by_cases hqn : q < n
      · have hqi : (q : Int) < (n : Int) := by omega
        have cq := HC.out wr hbel q hqn
        have hx8 : l.getD q 0 < 256 := getD_lt H8.out q
        have hd := Lib.hid (drop_cons l q (by rw [HLN.out]; exact hqn))
        have hBD := Lib.hid (fun (A : Option Addr) (hA : A = some ⟨B, o, none⟩ ∧ n - (q + 1) = 0 ∨ A = some ⟨B, o + (q + 1), none⟩) (wx : World) (hb : Below w.heap.size w wx) => (bin_dropZ HIN.out (f := q + 1) (by omega) A hA).below hb)
        have hdl := Lib.hid (show (l.drop (q + 1)).length = n - (q + 1) by rw [List.length_drop, HLN.out])
        obtain ⟨x, hx⟩ : ∃ x, l.getD q 0 = x := ⟨_, rfl⟩
        rw [hx] at cq hx8 hd
        have han := u8_andNot x hx8
        have hor := u64_or7 u (x % 128) hu (by omega)
        obtain ⟨y, hy⟩ : ∃ y, x % 128 = y := ⟨_, rfl⟩
        have HY := Lib.hid hy
        rw [hy] at han hor
        have hy8 : y < 128 := by omega
        obtain ⟨v2, hv2⟩ : ∃ v, 128 * u + y = v := ⟨_, rfl⟩
        have HV2 := Lib.hid hv2
        rw [hv2] at hor
        have hsm : v2 < 18446744073709551616 := by omega
        have HG := Lib.hid (show rdFig l = if 4294967295 < v2 then none else if x < 128 then some (v2, l.drop (q + 1)) else rdGo v2 (l.drop (q + 1)) by rw [HR.out, hd.out, rdGo_cons, HY.out, HV2.out])
        have hwx : IntKind.u64.wrap ((u : Int) * 128) = (u : Int) * 128 := by rw [show (u : Int) * 128 = ((128 * u : Nat) : Int) by omega]; exact wrapu (by omega)
        clear hx hy hv2
        by_cases hbig : 4294967295 < v2
        · have hbi : (4294967295 : Int) < (v2 : Int) := by omega
          have hY := Lib.hid (show rdFig l = none by rw [HG.out, if_pos hbig])
          go_wp2_with fail
          go_ret3
          exact RfIs.no hY.out hbel
        · have hbi : ¬ (4294967295 : Int) < (v2 : Int) := by omega
          by_cases hx1 : x < 128
          · have hxi : (x : Int) < 128 := by omega
            have hY := Lib.hid (show rdFig l = some (v2, l.drop (q + 1)) by rw [HG.out, if_neg hbig, if_pos hx1])
            have hle : (q : Int) + 1 ≤ (n : Int) := by omega
            have hlec : (q : Int) + 1 ≤ (c : Int) := by omega
            have hlen : q + 1 ≤ n := by omega
            have hlecn : q + 1 ≤ c := by omega
            go_wp2_with fail
            go_quiet (fail)
            have hb2 := Lib.hid (below_drewN hbel nq)
            go_wp2_with fail
            · go_ret3
              refine RfIs.yes hY.out hb2.out hdl.out ?_
              have := hBD.out (some ⟨B, o, none⟩) (.inl ⟨rfl, by omega⟩) _ hb2.out
              rw [show c - (q + 1) = 0 by omega] at this
              exact this
            · go_ret3
              exact RfIs.yes hY.out hb2.out hdl.out (hBD.out _ (.inr rfl) _ hb2.out)
          · have hxi : ¬ (x : Int) < 128 := by omega
            have hY := Lib.hid (show rdFig l = rdGo v2 (l.drop (q + 1)) by rw [HG.out, if_neg hbig, if_neg hx1])
            go_wp2_with fail
            go_roundw
            case rel => exact ⟨q + 1, v2, by omega, by omega, by go_num, rfl, hY.out, hbel⟩
            case measure => simp [intOf]; omega
      · have hqi : ¬ (q : Int) < (n : Int) := by omega
        have hY := Lib.hid (show rdFig l = none by rw [HR.out, List.drop_of_length_le (by rw [HLN.out]; omega)]; rfl)
        go_wp2_with fail
        go_ret3
        exact RfIs.no hY.out hbel
end Go.Proofs.Ytbabpmncdphnjaa
