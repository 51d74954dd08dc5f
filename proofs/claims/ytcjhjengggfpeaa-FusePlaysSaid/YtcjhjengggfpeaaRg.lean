/- The document's rows of bytes. No condition. -/
import Derived.Test.YtcjhjengggfpeaaRf
namespace Go.Proofs.Ytcjhjengggfpeaa
open Go.RowKit
set_option linter.unusedVariables false
set_option maxRecDepth 100000
set_option linter.unusedSimpArgs false
theorem rrow_bad (g : Nat) (i n : Int) (w : World) (hi : I64 i) (hn : I64 n) (hr : ¬ (0 ≤ i ∧ 0 ≤ n ∧ n ≤ 64 - i)) :
    Calls Try.prog 14 #[.pointer (some ⟨g, 0, none⟩), .int .i64 i, .int .i64 n] w fun e w' => e = .returned (.tuple #[.slice none 0 0, .bool false, .int .i64 153]) ∧ w = w' := by
  by_cases h1 : i < 0
  · have t1 : decide (i < 0) = true := by simpa using h1
    clear hr hi hn h1
    go_enter Try.func14, Try.ntmps14
    go_wp2
    go_ret3
    exact ⟨rfl, rfl⟩
  have t1 : decide (i < 0) = false := by simpa using h1
  by_cases h2 : n < 0
  · have t2 : decide (n < 0) = true := by simpa using h2
    clear hr hi hn h1 h2
    go_enter Try.func14, Try.ntmps14
    go_wp2
    go_ret3
    exact ⟨rfl, rfl⟩
  have t2 : decide (n < 0) = false := by simpa using h2
  by_cases h3 : 64 < i
  · have t3 : decide (64 < i) = true := by simpa using h3
    clear hr hi hn h1 h2 h3
    go_enter Try.func14, Try.ntmps14
    go_wp2
    go_ret3
    exact ⟨rfl, rfl⟩
  have t3 : decide (64 < i) = false := by simpa using h3
  have q1 : 0 ≤ i := by omega
  have q2 : i ≤ 64 := by omega
  have t4 : decide (64 - i < n) = true := by simp only [decide_eq_true_eq]; omega
  have t5 : 64 - i < n := by omega
  have b1 : 0 ≤ 64 - i := by omega
  have b2 : 64 - i ≤ 64 := by omega
  clear hr hi hn h1 h2 h3
  go_enter Try.func14, Try.ntmps14
  go_wp2
  go_ret3
  exact ⟨rfl, rfl⟩
theorem bin_one (w : World) (x : Nat) (hx : x < 256) : BIn (w.alloc (.cells #[.int .u8 (x : Nat)] 5)) (some ⟨w.heap.size, 0, none⟩) 1 1 [x] :=
  ⟨⟨rfl, by unfold maxLen; omega, by simpa using hx, .inr ⟨_, 0, rfl, fun i hi => by
    obtain rfl : i = 0 := by omega
    exact (Blk.new w 5 [.int .u8 (x : Nat)]).cell 0⟩⟩, Nat.le_refl _, by unfold maxLen; omega, by omega, fun h => by cases h⟩
set_option maxHeartbeats 3200000 in
theorem rrow_ok (g : Nat) (l : List (Nat × Bool)) (c : List Nat) (i m : Nat) (w : World) (h : RuAt w g l c) (k : FuOk l c) (hr : i + m ≤ 64) :
    Calls Try.prog 14 #[.pointer (some ⟨g, 0, none⟩), .int .i64 (i : Nat), .int .i64 (m : Nat)] w (RowOwn m (rowL l i m) (rowA l i m) w) := by
  obtain ⟨hh, hhe⟩ : ∃ hh : Nat, i + m = hh := ⟨_, rfl⟩
  have em : (i : Int) + (m : Int) = (hh : Int) := by omega
  have hh64 : (hh : Int) ≤ 64 := by omega
  have HF := Lib.hid h
  have HK := Lib.hid k
  have HHE := Lib.hid hhe
  have t1 : decide ((i : Int) < 0) = false := by simp only [decide_eq_false_iff_not]; omega
  have t2 : decide ((m : Int) < 0) = false := by simp only [decide_eq_false_iff_not]; omega
  have t3 : decide (64 < (i : Int)) = false := by simp only [decide_eq_false_iff_not]; omega
  have t4 : decide (64 - (i : Int) < (m : Int)) = false := by simp only [decide_eq_false_iff_not]; omega
  have i1 : (i : Int) ≤ 64 := by omega
  have m1 : (m : Int) ≤ 64 := by omega
  have b1 : 0 ≤ 64 - (i : Int) := by omega
  clear h k hhe hr
  unfold RowOwn
  go_enter Try.func14, Try.ntmps14
  go_wp2
  go_loopw [9, 10, 11] (fun v9 v10 v11 wr => ∃ (k p : Nat) (a : Option Addr) (cp : Nat), k ≤ m ∧ i + k = p ∧ v10 = .slice a k cp ∧ v9 = .bool (rowA l i k) ∧ v11 = .int .i64 (p : Nat) ∧ wr.ownsRow w.heap.size 5 1 (.slice a k cp) k (bytesV (rowL l i k)) ∧ Below w.heap.size w wr) (fun _ _ v11 _ => hh - (intOf v11).toNat)
  case atStart => exact ⟨0, i, none, 0, Nat.zero_le _, rfl, rfl, rfl, rfl, row_nilB w, Below.refl _ _⟩
  case round =>
    obtain ⟨k, p, a, cp, hk, hp, rfl, rfl, rfl, hown, hbel⟩ := hrel
    have HP := Lib.hid hp
    have HO := Lib.hid hown
    have HB := Lib.hid hbel
    by_cases hkm : k < m
    · have hp1 : p < 64 := by have := HHE.out; omega
      have hph : (p : Int) < (hh : Int) := by have := HHE.out; omega
      have hfu : RuAt wr g l c := Blk.below' HF.out hbel
      have hv := hfu.v HK.out p hp1
      have HSL := Lib.hid (rowL_snoc l i k (by rw [HK.out.ll]; omega))
      have HSA := Lib.hid (rowA_snoc l i k (by rw [HK.out.ll]; omega))
      rw [HP.out] at HSL HSA
      have HFU := Lib.hid hfu
      obtain ⟨x, hx⟩ : ∃ x, (l.getD p (0, false)).1 = x := ⟨_, rfl⟩
      obtain ⟨u, hu⟩ : ∃ u, (l.getD p (0, false)).2 = u := ⟨_, rfl⟩
      rw [hx] at hv HSL
      rw [hu] at HSA
      have hxb : x < 256 := by rw [← hx]; exact HK.out.at p
      have HU := Lib.hid hu
      generalize rowL l i k = L0 at *
      generalize rowA l i k = A0 at *
      clear hown hbel hfu hp hx hu
      go_wp2_with (at_builtin; refine wpList_append_bytes _ rfl (.tmp 36) (.tmp 43) rfl w.heap.size _ k _ rfl (HO.out.alloc _) (some ⟨wr.heap.size, 0, none⟩) 1 1 [x] rfl (bin_one wr x hxb) (by omega) (by have := HB.out.size; simp; omega) ?_)
      intro v' w3 hown3 hg3
      rw [← HSL.out] at hown3
      have hk1 : k + 1 ≤ m := hkm
      obtain ⟨a3, cp3, rfl, _, _⟩ := own_in hown3 (rowL_lt HK.out.bl _ _) (by omega)
      have hob : ∀ q, (Value.slice a k cp).ownBlock = some q → w.heap.size ≤ q ∧ q < wr.heap.size := fun q hq => World.ownsRow.lt HO.out q hq
      have hfu3 : RuAt w3 g l c := Blk.grown (Blk.alloc HFU.out _) hg3 (fun e => by have := (hob g e.symm).1; have := Blk.lt HF.out; omega)
      have hb := hfu3.b HK.out p hp1
      rw [HU.out] at hb
      have HO3 := Lib.hid hown3
      have HB3 := Lib.hid (show Below w.heap.size w w3 from by
        have h1 := HB.out.alloc HB.out.size (.cells #[.int .u8 (x : Nat)] 5)
        exact ⟨hg3.os.trans h1.os, hg3.tape.trans h1.tape, hg3.output.trans h1.output, Nat.le_trans h1.size hg3.size, fun j hj => (hg3.block j (Nat.lt_of_lt_of_le hj h1.size) (fun e => by have := (hob j e.symm).1; omega)).trans (h1.block j hj)⟩)
      clear hown3 hg3 hv hob hfu3 HFU HU
      cases A0
      · go_wp2_with fail
        go_roundw
        case rel => exact ⟨k + 1, p + 1, _, _, hk1, by have := HP.out; omega, rfl, by rw [HSA.out]; rfl, by go_num, HO3.out, HB3.out⟩
        case measure => simp [intOf]; have := HP.out; have := HHE.out; omega
      · go_wp2_with fail
        go_roundw
        case rel => exact ⟨k + 1, p + 1, _, _, hk1, by have := HP.out; omega, rfl, by rw [HSA.out]; rfl, by go_num, HO3.out, HB3.out⟩
        case measure => simp [intOf]; have := HP.out; have := HHE.out; omega
    · obtain rfl : k = m := by omega
      have hph : ¬ (p : Int) < (hh : Int) := by have := HHE.out; omega
      clear hown hbel hkm hp
      go_wp2_with fail
      go_ret3
      exact ⟨_, _, rfl, HO.out, HB.out⟩
end Go.Proofs.Ytcjhjengggfpeaa
