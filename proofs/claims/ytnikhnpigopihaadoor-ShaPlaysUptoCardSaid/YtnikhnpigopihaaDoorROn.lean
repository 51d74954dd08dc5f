/- The document's Open: what it refuses. No condition. -/
import Derived.Test.YtnikhnpigopihaaDoorSOn
import Derived.Test.YtnikhnpigopihaaDoorRefS
import Derived.BigRegion
namespace Go.Proofs.YtnikhnpigopihaaDoor
open Go.RowKit
set_option linter.unusedVariables false
set_option linter.unusedSimpArgs false
/-- a refusal of the document's -/
def RefNo (w : World) (e : Ending) (w' : World) : Prop := e = .returned (.tuple #[.pointer none, .bool false]) ∧ Below w.heap.size w w'
theorem refOpen_short (a : Option Addr) (m c : Nat) (w : World) (hm : m < 9) : Calls Tryd.prog 25 #[.slice a m c] w (RefNo w) := by
  have h : decide ((m : Int) < 9) = true := by simp; omega
  go_enter Tryd.func25, Tryd.ntmps25
  go_wp2_with fail
  go_ret2
  exact ⟨rfl, Below.refl _ _⟩
theorem num_sum (m x : Nat) (hm : m < 2 ^ 56) (hx : x < 256) : IntKind.u64.wrap (IntKind.u64.wrap ((m : Int) * 256) + (x : Int)) = ((m * 256 + x : Nat) : Int) := by
  rw [IntKind.wrap_u64, IntKind.wrap_u64]; omega
set_option maxHeartbeats 1600000 in
theorem refOpen_no (b off m c : Nat) (L : List Nat) (w : World) (hb : BIn w (some ⟨b, off, none⟩) m c L) (hm9 : 9 ≤ m) (hno : ∀ k n, ¬ IsSt L k n) :
    Calls Tryd.prog 25 #[.slice (some ⟨b, off, none⟩) m c] w (RefNo w) := by
  obtain ⟨k, hL0⟩ : ∃ k, L.getD 0 0 = k := ⟨_, rfl⟩
  obtain ⟨n, hLn⟩ : ∃ n, be ((L.drop 1).take 8) = n := ⟨_, rfl⟩
  have hk256 : k < 256 := by rw [← hL0]; exact getD_lt hb.1.2.2.1 0
  have hn64 : n < 2 ^ 64 := by rw [← hLn]; exact be_lt8 hb.1.2.2.1
  have HNO := Lib.hid (show IsKind k → n ≤ 2305843009213693951 → m ≠ 9 + 8 * wB k + n % (2 * wW k) from fun h1 h2 h3 => hno k n ⟨h1, hL0, hLn, h2, by rw [hb.1.1]; exact h3⟩)
  clear hno
  have hc1 := hb.2.1
  have hc2 := hb.2.2.1
  have hm47 := hb.2.2.2.1
  unfold maxLen at hc2
  obtain ⟨b', o', he, hcell⟩ := hb.1.2.2.2.resolve_left (by omega)
  injection he with he
  injection he with e1 e2
  subst e1 e2
  have hc0 := hcell 0 (by omega)
  rw [hL0, Nat.add_zero] at hc0
  have HC := Lib.hid hcell
  have HB := Lib.hid hb
  have HLN := Lib.hid hLn
  clear hb hcell hL0 hLn
  have h0m : 0 < m := by omega
  have hm9b : decide ((m : Int) < 9) = false := by simp; omega
  by_cases hk1 : k < 1
  · have q1 : decide ((k : Int) < 1) = true := by simp; omega
    go_enter Tryd.func25, Tryd.ntmps25
    go_wp2_with fail
    go_ret2
    exact ⟨rfl, Below.refl _ _⟩
  · have q1 : decide ((k : Int) < 1) = false := by simp; omega
    by_cases hk3 : 3 < k
    · have q2 : decide ((3 : Int) < (k : Int)) = true := by simp; omega
      go_enter Tryd.func25, Tryd.ntmps25
      go_wp2_with fail
      go_ret2
      exact ⟨rfl, Below.refl _ _⟩
    · have q2 : decide ((3 : Int) < (k : Int)) = false := by simp; omega
      have hk : IsKind k := by unfold IsKind; omega
      have HKI := Lib.hid (show ∀ w, Calls Tryd.prog 32 #[.int .i64 (k : Nat)] w fun e w' => e = .returned (.tuple #[.int .u64 (wW k : Nat), .int .i64 (16 * wB k : Nat), .int .i64 (rounds (wW k) : Nat), .int .i64 (dgB k : Nat)]) ∧ w = w' from fun w => Kind_any k hk w)
      have hW : wW k = 8 * wB k := by unfold wW wB; split <;> rfl
      have hwb : wB k ≤ 8 ∧ 4 ≤ wB k := by unfold wB; split <;> omega
      have hno := fun h => HNO.out hk h
      rw [hW, show 2 * (8 * wB k) = 16 * wB k by omega] at hno
      have HNO2 := Lib.hid hno
      rw [hW] at HKI
      clear hW hno HNO
      generalize rounds (8 * wB k) = rd at *
      generalize dgB k = dg at *
      generalize wB k = wb at *
      obtain ⟨W8, hW8⟩ : ∃ W8, 8 * wb = W8 := ⟨_, rfl⟩
      obtain ⟨S16, hS16⟩ : ∃ S16, 16 * wb = S16 := ⟨_, rfl⟩
      rw [hW8, hS16] at HKI HNO2
      go_enter Tryd.func25, Tryd.ntmps25
      go_wp2_with fail
      refine (HKI.out _).mono ?_
      rintro e w' ⟨rfl, rfl⟩
      have hS0 : S16 ≠ 0 := by omega
      have hS128 : S16 ≤ 128 := by omega
      have hW64 : W8 ≤ 64 := by omega
      have HW8 := Lib.hid hW8
      have HS16 := Lib.hid hS16
      clear hW8 hS16 hk
      go_wp2_with fail
      go_loop [9, 10] (fun v i => ∃ t : Nat, t ≤ 8 ∧ i = .int .i64 (t + 1 : Nat) ∧ v = .int .u64 (be ((L.drop 1).take t) : Nat)) (fun _ i => 9 - (intOf i).toNat)
      case atStart => exact ⟨0, by omega, rfl, rfl⟩
      case round =>
        obtain ⟨t, ht, rfl, rfl⟩ := hrel
        by_cases hlt : t < 8
        · have hcell := HC.out (t + 1) (by omega)
          have hx := getD_lt HB.out.1.2.2.1 (t + 1)
          have hmm : be ((L.drop 1).take t) < 2 ^ 56 := by
            refine Nat.lt_of_lt_of_le (be_lt _ (fun x hx => HB.out.1.2.2.1 x (List.mem_of_mem_drop (List.mem_of_mem_take hx)))) ?_
            have h1 : ((L.drop 1).take t).length ≤ 7 := Nat.le_trans (List.length_take_le _ _) (by omega)
            exact Nat.le_trans (Nat.pow_le_pow_right (by decide) h1) (by decide)
          have hst := be_append ((L.drop 1).take t) ((L.drop 1).getD t 0)
          rw [← take_snoc (L.drop 1) t (by rw [List.length_drop]; have := HB.out.1.1; omega)] at hst
          have hgd : (L.drop 1).getD t 0 = L.getD (t + 1) 0 := by simp [List.getD_eq_getElem?_getD, Nat.add_comm]
          rw [hgd] at hst
          have HST := Lib.hid hst
          clear hst hgd
          generalize be ((L.drop 1).take t) = mm at *
          generalize L.getD (t + 1) 0 = x at *
          have hstep := num_sum mm x hmm hx
          have hstep2 : (mm : Int) * 256 + (x : Int) = ((mm * 256 + x : Nat) : Int) := by omega
          rw [← HST.out] at hstep hstep2
          have ht1 : ((t + 1 : Nat) : Int) < 9 := by omega
          have ht1m : t + 1 < m := by omega
          clear hmm
          obtain ⟨t1, ht1e⟩ : ∃ t1, t + 1 = t1 := ⟨_, rfl⟩
          rw [ht1e] at hcell ht1 ht1m ⊢
          go_wp2_with fail
          go_round
          case rel => exact ⟨t + 1, by omega, by rw [ht1e]; go_num, by rw [← ht1e, List.drop_one]⟩
          case measure => simp [intOf]; omega
        · obtain rfl : t = 8 := by omega
          rw [HLN.out, show ((8 + 1 : Nat) : Int) = 9 from rfl]
          obtain ⟨r, hr⟩ : ∃ r, n % S16 = r := ⟨_, rfl⟩
          have hr2 : r < 128 := by rw [← hr]; exact Nat.lt_of_lt_of_le (Nat.mod_lt _ (by omega)) hS128
          have er : (n : Int) % (S16 : Int) = (r : Int) := by rw [← hr]; exact (Int.natCast_emod _ _).symm
          have er' : (n : Int).tmod (S16 : Int) = (r : Int) := by rw [← er]; exact Int.tmod_eq_emod_of_nonneg (by omega)
          have hS0I : ¬ (S16 : Int) = 0 := by omega
          rw [hr] at HNO2
          have HR := Lib.hid hr
          clear hr
          by_cases hn : 2305843009213693951 < n
          · have q3 : decide ((2305843009213693952 : Int) ≤ (n : Int)) = true := by simp; omega
            go_wp2_with fail
            go_ret2
            exact ⟨rfl, Below.refl _ _⟩
          · have q3 : decide ((2305843009213693952 : Int) ≤ (n : Int)) = false := by simp; omega
            have hne := HNO2.out (by omega)
            have hne1 : ((m : Int) != 9 + (W8 : Int) + (r : Int)) = true := by rw [bne_iff_ne]; omega
            clear hne
            go_wp2_with fail
            go_ret2
            exact ⟨rfl, Below.refl _ _⟩
end Go.Proofs.YtnikhnpigopihaaDoor
