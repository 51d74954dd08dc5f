/- The document's side: a constant read out of sixteen digits of a text; the first state. Condition: digits. -/
import Derived.Test.YtnikhnpigopihaaDoorFirst
import Derived.Test.YtnikhnpigopihaaDoorTurn
namespace Go.Proofs.YtnikhnpigopihaaDoor
open Go.RowKit
set_option linter.unusedVariables false
def hexv (c : Nat) : Nat := if 97 ≤ c then c - 97 + 10 else c - 48
def hexOk (c : Nat) : Prop := (48 ≤ c ∧ c ≤ 57) ∨ (97 ≤ c ∧ c ≤ 102)
def hexN (l : List Nat) : Nat := l.foldl (fun v c => v * 16 + hexv c) 0
theorem hexN_snoc (l : List Nat) (c : Nat) : hexN (l ++ [c]) = hexN l * 16 + hexv c := by simp [hexN]
theorem take_drop_snoc (l : List Nat) (a j : Nat) (h : a + j < l.length) : (l.drop a).take (j + 1) = (l.drop a).take j ++ [l.getD (a + j) 0] := by
  rw [take_snoc _ j (by simp; omega)]
  congr 2
  simp [List.getD_eq_getElem?_getD, List.getElem?_drop]
theorem hexN_lt (l : List Nat) (a : Nat) (hl : ∀ j, j < 16 → hexOk (l.getD (a + j) 0)) (hlen : a + 16 ≤ l.length) : ∀ j, j ≤ 16 → hexN ((l.drop a).take j) < 16 ^ j := by
  intro j
  induction j with
  | zero => intro _; simp [hexN]
  | succ j ih =>
    intro hj
    have h1 := ih (by omega)
    have h2 : hexv (l.getD (a + j) 0) < 16 := by
      have := hl j (by omega)
      unfold hexOk at this; unfold hexv; split <;> omega
    rw [take_drop_snoc l a j (by omega), hexN_snoc, Nat.pow_succ]
    omega
set_option maxHeartbeats 800000 in
theorem ref_number (s : ByteArray) (i : Nat) (hi : 16 * i + 16 ≤ s.size) (hs : s.size ≤ 100000) (hok : ∀ j, j < 16 → hexOk ((strL s).getD (16 * i + j) 0)) (w : World) :
    Calls Tryd.prog 51 #[.string s, .int .i64 (i : Nat)] w fun e w' => e = .returned (.int .u64 (hexN (((strL s).drop (16 * i)).take 16) : Nat)) ∧ w = w' := by
  have hb := hexN_lt (strL s) (16 * i) hok (by rw [strL_length]; exact hi)
  have HB := Lib.hid hb
  have HOK := Lib.hid hok
  clear hb hok
  go_enter Tryd.func51, Tryd.ntmps51
  go_wp2_with fail
  go_loop [5, 6] (fun v k => ∃ j : Nat, j ≤ 16 ∧ k = .int .i64 (16 * (i : Int) + (j : Int)) ∧ v = .int .u64 (hexN (((strL s).drop (16 * i)).take j) : Nat)) (fun _ k => (16 * i + 16) - (intOf k).toNat)
  case atStart => exact ⟨0, by omega, by simp, rfl⟩
  case round =>
    obtain ⟨j, hj, rfl, rfl⟩ := hrel
    by_cases hlt : j < 16
    · have hk : 16 * i + j < s.size := by omega
      have hc := strL_at s (16 * i + j) hk
      have hx := HB.out j (by omega)
      have hx2 : hexN (((strL s).drop (16 * i)).take j) < 16 ^ 15 := Nat.lt_of_lt_of_le hx (Nat.pow_le_pow_right (by decide) (by omega))
      have HST := Lib.hid (show hexN (((strL s).drop (16 * i)).take (j + 1)) = hexN (((strL s).drop (16 * i)).take j) * 16 + hexv ((strL s).getD (16 * i + j) 0) from by
        rw [take_drop_snoc _ _ _ (by rw [strL_length]; omega), hexN_snoc])
      have hok := HOK.out j hlt
      clear hx
      generalize hexN (((strL s).drop (16 * i)).take j) = x at *
      generalize (strL s).getD (16 * i + j) 0 = c at *
      rw [show 16 * (i : Int) + (j : Int) = ((16 * i + j : Nat) : Int) from by omega]
      have hcm : ((16 * i + j : Nat) : Int) < 16 * (i : Int) + 16 := by omega
      have hxI : x < 1152921504606846976 := hx2
      clear hx2
      rcases hok with hd | hd
      · have h97 : decide ((97 : Int) ≤ (c : Int)) = false := by simp; omega
        have HV := Lib.hid (show hexv c = c - 48 from by unfold hexv; rw [if_neg (by omega)])
        go_wp2_with fail
        go_round
        case rel => exact ⟨j + 1, by omega, by go_num, by rw [HST.out, HV.out]; go_num⟩
        case measure => simp [intOf]; omega
      · have h97 : decide ((97 : Int) ≤ (c : Int)) = true := by simp; omega
        have HV := Lib.hid (show hexv c = c - 97 + 10 from by unfold hexv; rw [if_pos (by omega)])
        go_wp2_with fail
        go_round
        case rel => exact ⟨j + 1, by omega, by go_num, by rw [HST.out, HV.out]; go_num⟩
        case measure => simp [intOf]; omega
    · obtain rfl : j = 16 := by omega
      have hcm : ¬ (16 * (i : Int) + ((16 : Nat) : Int) < 16 * (i : Int) + 16) := by omega
      go_wp2_with fail
      go_ret
      exact ⟨rfl, rfl⟩
end Go.Proofs.YtnikhnpigopihaaDoor
