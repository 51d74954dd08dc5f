/- Noughts, the same blocks. No condition. -/
import Derived.Test.YtlgpaglkhgomiaaRb
import Derived.BigQuiet
namespace Go.Proofs.Ytlgpaglkhgomiaa
open Go.RowKit
set_option linter.unusedVariables false
set_option maxRecDepth 100000
set_option linter.unusedSimpArgs false
/-- a list of bytes as a text -/
theorem bin_str {w : World} {a : Option Addr} {n c : Nat} {l : List Nat} (h : BIn w a n c l) : (convert 41 9 (.slice a n c)).run Try.prog w = .ok (.string (strV l)) w := by
  obtain ⟨⟨h1, h2, h3, h4⟩, h5, h6, h7, h8⟩ := h
  by_cases hn : n = 0
  · subst hn
    obtain rfl : l = [] := List.eq_nil_of_length_eq_zero h1
    rcases a with _ | ad
    · exact run_convert_bytes_nil w 41 5 Try.underlying41 Try.underlying5 0 c 9 Try.underlying9
    · rw [run_convert_bytes_string w 41 9 5 _ 0 c Try.underlying41 Try.underlying5 Try.underlying9, run_bytesToString w ad 0 c [] (run_loadCells_list (P := Try.prog) w ad [] (fun j v hj => by simp at hj))]
      rfl
  · obtain ⟨b, off, rfl, hc⟩ := h4.resolve_left hn
    refine run_convert_bytes_arg (P := Try.prog) w 41 5 Try.underlying41 Try.underlying5 b off n c (l.map Nat.cast) (by simpa using h1) (fun i hi => ?_) 9 Try.underlying9
    rw [hc i hi]
    have : i < l.length := by omega
    simp [List.getD_eq_getElem?_getD, List.getElem?_eq_getElem this]
theorem zeros_take (l : List Nat) (k : Nat) (hk : l.length ≤ k) (h : ∀ j, j < k → l.getD j 0 = 0) : l = zeros l.length := by
  apply List.ext_getElem
  · simp [zeros]
  · intro i h1 h2
    have := h i (by omega)
    rw [List.getD_eq_getElem?_getD, List.getElem?_eq_getElem h1] at this
    simpa [zeros] using this
set_option maxHeartbeats 800000 in
theorem nought_any (w : World) (A : Option Addr) (n c : Nat) (l : List Nat) (h : BIn w A n c l) :
    Calls Try.prog 39 #[.slice A n c] w fun e w' => e = .returned (.bool (decide (l = zeros n))) ∧ w = w' := by
  have hn := h.1.1
  have hm : n ≤ maxLen := h.1.2.1
  unfold maxLen at hm
  have HA := Lib.hid h
  clear h
  go_enter Try.func39, Try.ntmps39
  go_wp2
  go_loop [3] (fun i => ∃ k : Nat, k ≤ n ∧ i = .int .i64 k ∧ ∀ j, j < k → l.getD j 0 = 0) (fun i => n - (intOf i).toNat)
  case atStart => exact ⟨0, Nat.zero_le _, rfl, fun j hj => absurd hj (Nat.not_lt_zero j)⟩
  case round =>
    obtain ⟨k, hk, rfl, htk⟩ := hrel
    have HT := Lib.hid htk
    clear htk
    by_cases hkn : k < n
    · obtain ⟨b1, o1, rfl, hc1⟩ := HA.out.1.2.2.2.resolve_left (by omega)
      have g1 := hc1 k hkn
      clear hc1
      have hki : (k : Int) < (n : Int) := by omega
      by_cases hxy : l.getD k 0 = 0
      · have HX := Lib.hid hxy
        rw [hxy] at g1
        clear hxy
        go_wp2_with fail
        go_round
        case rel => exact ⟨k + 1, by omega, by go_num, fun j hj => by
          by_cases e : j = k
          · subst e; exact HX.out
          · exact HT.out j (by omega)⟩
        case measure => simp [intOf]; omega
      · have hb1 : (((l.getD k 0 : Nat) : Int) != 0) = true := by simp; exact hxy
        have hne : ¬ l = zeros n := fun e => hxy (by rw [e]; simp [zeros, List.getD_eq_getElem?_getD, List.getElem?_replicate]; split <;> rfl)
        have HNE := Lib.hid hne
        clear hne hxy
        generalize l.getD k 0 = x at *
        go_wp2_with fail
        go_ret
        exact ⟨by rw [decide_eq_false HNE.out]; rfl, rfl⟩
    · have hki : ¬ (k : Int) < (n : Int) := by omega
      go_wp2
      go_ret
      exact ⟨by rw [decide_eq_true (show l = zeros n from hn ▸ zeros_take l k (by omega) HT.out)]; rfl, rfl⟩
/-- what a block says -/
def BlkR.key (x : BlkR) : Int × List Nat := (x.N, x.l)
set_option maxHeartbeats 3200000 in
theorem sameBl_any (w : World) (A B : Option Addr) (n c n' c' : Nat) (bs bs' : List BlkR) (h : LIn w A n bs) (h' : LIn w B n' bs') (he : bs.map BlkR.key = bs'.map BlkR.key) (hnn : n ≤ 70368744177664) :
    Calls Try.prog 16 #[.slice A n c, .slice B n' c'] w fun e w' => e = .returned (.bool true) ∧ Below w.heap.size w w' := by
  obtain rfl : n = n' := by rw [← h.1, ← h'.1]; simpa using congrArg List.length he
  have HA := Lib.hid h
  have HB := Lib.hid h'
  have HE := Lib.hid he
  have t0 : ((n : Int) != (n : Int)) = false := by simp
  clear h h' he
  go_enter Try.func16, Try.ntmps16
  go_wp2
  go_loopw [5] (fun i wr => ∃ k : Nat, k ≤ n ∧ i = .int .i64 k ∧ Below w.heap.size w wr) (fun i _ => n - (intOf i).toNat)
  case atStart => exact ⟨0, Nat.zero_le _, rfl, Below.refl _ _⟩
  case round =>
    obtain ⟨k, hk, rfl, hbel⟩ := hrel
    have HBL := Lib.hid hbel
    clear hbel
    by_cases hkn : k < n
    · have hki : (k : Int) < (n : Int) := by omega
      obtain ⟨b1, o1, rfl, hc1⟩ := HA.out.2.2.resolve_left (by omega)
      obtain ⟨b2, o2, rfl, hc2⟩ := HB.out.2.2.resolve_left (by omega)
      obtain ⟨x, hx⟩ : ∃ x, bs[k]? = some x := ⟨_, List.getElem?_eq_getElem (by rw [HA.out.1]; exact hkn)⟩
      obtain ⟨y, hy⟩ : ∃ y, bs'[k]? = some y := ⟨_, List.getElem?_eq_getElem (by rw [HB.out.1]; exact hkn)⟩
      have hkey : x.key = y.key := by
        have q := congrArg (fun l => l[k]?) HE.out
        simp only [List.getElem?_map, hx, hy, Option.map_some] at q
        exact Option.some.inj q
      unfold BlkR.key at hkey
      injection hkey with hN hl
      have r1 := range_gr (hc1 k x hx) HBL.out
      have r2 := range_gr (hc2 k y hy) HBL.out
      have k0 : wr.cell? ⟨b1, o1 + k * 2, none⟩ = some (.int .i64 x.N) := range_cell r1 (j := 0) rfl
      have k1 : wr.cell? ⟨b1, o1 + k * 2 + 1, none⟩ = some (.slice x.a x.n x.c) := range_cell r1 (j := 1) rfl
      have m0 : wr.cell? ⟨b2, o2 + k * 2, none⟩ = some (.int .i64 y.N) := range_cell r2 (j := 0) rfl
      have m1 : wr.cell? ⟨b2, o2 + k * 2 + 1, none⟩ = some (.slice y.a y.n y.c) := range_cell r2 (j := 1) rfl
      have v1 := fun m => bin_str ((HA.out.2.1 x (List.mem_of_getElem? hx)).1.below (below_drewN HBL.out m))
      have v2 := fun m => bin_str ((HB.out.2.1 y (List.mem_of_getElem? hy)).1.below (below_drewN HBL.out m))
      have t1 : (x.N != y.N) = false := by simp [hN]
      rw [hl] at v1
      clear r1 r2 hc1 hc2 hx hy hN hl
      go_wp2_with fail
      go_quiet (fail)
      have hbel2 : Below w.heap.size w (wr.drewN nq) := below_drewN HBL.out nq
      go_wp2
      go_roundw
      case rel => exact ⟨k + 1, by omega, by go_num, hbel2⟩
      case measure => simp [intOf]; omega
    · have hki : ¬ (k : Int) < (n : Int) := by omega
      go_wp2
      go_ret
      exact ⟨rfl, HBL.out⟩
end Go.Proofs.Ytlgpaglkhgomiaa
